/- FnExactMendReady: both answers, and the law's walk (printed by tools/mkl9.py). -/
import Derived.Test.YtjbfpmackocgnaaQ9R
import Derived.Test.YtjbfpmackocgnaaMnSd
import Derived.Deep.RegionHeld3
import Derived.Deep.DeepCutAuto
namespace Go.Proofs.Ytjbfpmackocgnaa
open Go.ChangeShapes Go.WideShapes Go.ChangeAt Go.RowKit
set_option linter.unusedVariables false
theorem bothFnExactMendReady (m0 : List Int × Int) (m1 : Mn) (ok0 : okConfig m0) (ok1 : okMend m1) (hs0 : sizConfig m0 ≤ 1048576) (hs1 : sizMend m1 ≤ 1048576) : ∃ (s0 : Bool), (∀ W v0 v1, RdConfig v0 m0 W → RdMend v1 m1 W → Calls Try.prog 33 #[v0, v1] W fun e w' => e = .returned (.bool s0) ∧ Below W.heap.size W w') ∧ (∀ W v0 v1, RdConfig v0 m0 W → RdMend v1 m1 W → Calls Try.prog 32 #[v0, v1] W fun e w' => e = .returned (.bool s0) ∧ Below W.heap.size W w') := bothMendReady_ m0 m1 ok0 ok1 hs0 hs1
set_option maxHeartbeats 4000000 in
set_option maxRecDepth 100000 in
theorem walkFnExactMendReady (v0 v1 : Value) (m0 : List Int × Int) (m1 : Mn) (w : World) (i0 : IsConfig v0 m0 w) (i1 : IsMend v1 m1 w) :
    Calls Try.prog 12 #[v0, v1] w fun r w' => r = .returned (.bool true) ∧ Below w.heap.size w w' := by
  obtain ⟨r0, ok0⟩ := i0
  obtain ⟨r1, ok1⟩ := i1
  have ha : ∀ (w : World) o, Below w.heap.size w (w.alloc o) := fun w o => (Below.refl _ _).alloc (Nat.le_refl _) o
  have A0 := dHide fun W (hb : Below w.heap.size w W) => r0.below hb
  have A1 := dHide fun W (hb : Below w.heap.size w W) => r1.below hb
  obtain ⟨v0a, v0c, rfl, v0l⟩ := formConfig r0
  obtain ⟨v1sa, v1sc, v1ea, v1ec, v1wa, v1wc, rfl, v1l1, v1l2, v1l3⟩ := formMend r1
  by_cases z0 : (1048576 : Int) < (sizConfig m0 : Int)
  · have CS0 := dHide fun W (hb : Below w.heap.size w W) => szConfig_ _ m0 (1048576 : Int) (by omega) (by omega) W (dUnhide A0 W hb)
    rw [lft_no z0] at CS0
    clear z0
    go_enter Try.func12, Try.ntmps12
    go_wp2_with fail
    have B := belowThen (ha w (.cells #[.slice v0a m0.1.length v0c, .int .i64 m0.2] 61)) (ha _ (.cells #[.int .i64 m1.bye, .int .i64 m1.epoch, .slice v1sa m1.sealed.length v1sc, .slice v1ea m1.seen.length v1ec, .bool m1.planned, .slice v1wa m1.wrote.length v1wc] 64))
    have X0 := dHide ((Sits.box w #[.slice v0a m0.1.length v0c, .int .i64 m0.2] 61).below (ha _ (.cells #[.int .i64 m1.bye, .int .i64 m1.epoch, .slice v1sa m1.sealed.length v1sc, .slice v1ea m1.seen.length v1ec, .bool m1.planned, .slice v1wa m1.wrote.length v1wc] 64)))
    have X1 := Sits.box (w.alloc (.cells #[.slice v0a m0.1.length v0c, .int .i64 m0.2] 61)) #[.int .i64 m1.bye, .int .i64 m1.epoch, .slice v1sa m1.sealed.length v1sc, .slice v1ea m1.seen.length v1ec, .bool m1.planned, .slice v1wa m1.wrote.length v1wc] 64
    have e1 : (w.alloc (.cells #[.slice v0a m0.1.length v0c, .int .i64 m0.2] 61)).heap.size = w.heap.size + 1 := by simp
    rw [e1] at X1
    replace X1 := dHide X1
    have sz0 : Hid (w.heap.size + 1 + 1 = ((w.alloc (.cells #[.slice v0a m0.1.length v0c, .int .i64 m0.2] 61)).alloc (.cells #[.int .i64 m1.bye, .int .i64 m1.epoch, .slice v1sa m1.sealed.length v1sc, .slice v1ea m1.seen.length v1ec, .bool m1.planned, .slice v1wa m1.wrote.length v1wc] 64)).heap.size) := by simp [Hid]
    clear e1
    generalize (w.alloc (.cells #[.slice v0a m0.1.length v0c, .int .i64 m0.2] 61)).alloc (.cells #[.int .i64 m1.bye, .int .i64 m1.epoch, .slice v1sa m1.sealed.length v1sc, .slice v1ea m1.seen.length v1ec, .bool m1.planned, .slice v1wa m1.wrote.length v1wc] 64) = wb at *
    refine (dUnhide CS0 _ B).mono ?_
    rintro e ws0 ⟨rfl, bs⟩
    have sz1 := dHide bs.size
    replace X0 := dHide ((dUnhide X0).below bs)
    replace X1 := dHide ((dUnhide X1).below bs)
    replace B := belowThen B bs
    clear bs CS0
    clear X0 X1
    go_wp2
    go_ret
    exact ⟨rfl, B⟩
  by_cases z1 : ((1048576 : Int) - (sizConfig m0 : Int)) < (sizMend m1 : Int)
  · have CS0 := dHide fun W (hb : Below w.heap.size w W) => szConfig_ _ m0 (1048576 : Int) (by omega) (by omega) W (dUnhide A0 W hb)
    rw [lft_yes z0] at CS0
    have z0' : ¬ ((1048576 : Int) - (sizConfig m0 : Int) < 0) := by omega
    have CS1 := dHide fun W (hb : Below w.heap.size w W) => szMend_ _ m1 ((1048576 : Int) - (sizConfig m0 : Int)) (by omega) (by omega) (txtM_of ok1) W (dUnhide A1 W hb)
    rw [lft_no z1] at CS1
    clear z0 z1
    go_enter Try.func12, Try.ntmps12
    go_wp2_with fail
    have B := belowThen (ha w (.cells #[.slice v0a m0.1.length v0c, .int .i64 m0.2] 61)) (ha _ (.cells #[.int .i64 m1.bye, .int .i64 m1.epoch, .slice v1sa m1.sealed.length v1sc, .slice v1ea m1.seen.length v1ec, .bool m1.planned, .slice v1wa m1.wrote.length v1wc] 64))
    have X0 := dHide ((Sits.box w #[.slice v0a m0.1.length v0c, .int .i64 m0.2] 61).below (ha _ (.cells #[.int .i64 m1.bye, .int .i64 m1.epoch, .slice v1sa m1.sealed.length v1sc, .slice v1ea m1.seen.length v1ec, .bool m1.planned, .slice v1wa m1.wrote.length v1wc] 64)))
    have X1 := Sits.box (w.alloc (.cells #[.slice v0a m0.1.length v0c, .int .i64 m0.2] 61)) #[.int .i64 m1.bye, .int .i64 m1.epoch, .slice v1sa m1.sealed.length v1sc, .slice v1ea m1.seen.length v1ec, .bool m1.planned, .slice v1wa m1.wrote.length v1wc] 64
    have e1 : (w.alloc (.cells #[.slice v0a m0.1.length v0c, .int .i64 m0.2] 61)).heap.size = w.heap.size + 1 := by simp
    rw [e1] at X1
    replace X1 := dHide X1
    have sz0 : Hid (w.heap.size + 1 + 1 = ((w.alloc (.cells #[.slice v0a m0.1.length v0c, .int .i64 m0.2] 61)).alloc (.cells #[.int .i64 m1.bye, .int .i64 m1.epoch, .slice v1sa m1.sealed.length v1sc, .slice v1ea m1.seen.length v1ec, .bool m1.planned, .slice v1wa m1.wrote.length v1wc] 64)).heap.size) := by simp [Hid]
    clear e1
    generalize (w.alloc (.cells #[.slice v0a m0.1.length v0c, .int .i64 m0.2] 61)).alloc (.cells #[.int .i64 m1.bye, .int .i64 m1.epoch, .slice v1sa m1.sealed.length v1sc, .slice v1ea m1.seen.length v1ec, .bool m1.planned, .slice v1wa m1.wrote.length v1wc] 64) = wb at *
    refine (dUnhide CS0 _ B).mono ?_
    rintro e ws0 ⟨rfl, bs⟩
    have sz1 := dHide bs.size
    replace X0 := dHide ((dUnhide X0).below bs)
    replace X1 := dHide ((dUnhide X1).below bs)
    replace B := belowThen B bs
    clear bs CS0
    have k2 := (dUnhide X1).now 0 _ rfl
    have k3 := (dUnhide X1).now 1 _ rfl
    have k4 := (dUnhide X1).now 2 _ rfl
    have k5 := (dUnhide X1).now 3 _ rfl
    have k6 := (dUnhide X1).now 4 _ rfl
    have k7 := (dUnhide X1).now 5 _ rfl
    go_wp2_with fail
    refine (dUnhide CS1 _ B).mono ?_
    rintro e ws1 ⟨rfl, bs⟩
    have sz8 := dHide bs.size
    replace X0 := dHide ((dUnhide X0).below bs)
    replace X1 := dHide ((dUnhide X1).below bs)
    replace B := belowThen B bs
    clear bs CS1 k2 k3 k4 k5 k6 k7
    clear X0 X1
    go_wp2
    go_ret
    exact ⟨rfl, B⟩
  have hs0 : sizConfig m0 ≤ 1048576 := by omega
  have hs1 : sizMend m1 ≤ 1048576 := by omega
  have hc0 := cntConfig_le hs0
  have hc1 := cntMend_le hs1
  obtain ⟨s0, p1, p2⟩ := bothFnExactMendReady m0 m1 ok0 ok1 hs0 hs1
  have CP := dHide p1
  have CI := dHide p2
  have CS0 := dHide fun W (hb : Below w.heap.size w W) => szConfig_ _ m0 (1048576 : Int) (by omega) (by omega) W (dUnhide A0 W hb)
  rw [lft_yes z0] at CS0
  have z0' : ¬ ((1048576 : Int) - (sizConfig m0 : Int) < 0) := by omega
  have CS1 := dHide fun W (hb : Below w.heap.size w W) => szMend_ _ m1 ((1048576 : Int) - (sizConfig m0 : Int)) (by omega) (by omega) (txtM_of ok1) W (dUnhide A1 W hb)
  rw [lft_yes z1] at CS1
  have z1' : ¬ (((1048576 : Int) - (sizConfig m0 : Int)) - (sizMend m1 : Int) < 0) := by omega
  clear p1 p2 r0 ok0 r1 ok1 
  go_enter Try.func12, Try.ntmps12
  go_wp2_with fail
  have B := belowThen (ha w (.cells #[.slice v0a m0.1.length v0c, .int .i64 m0.2] 61)) (ha _ (.cells #[.int .i64 m1.bye, .int .i64 m1.epoch, .slice v1sa m1.sealed.length v1sc, .slice v1ea m1.seen.length v1ec, .bool m1.planned, .slice v1wa m1.wrote.length v1wc] 64))
  have X0 := dHide ((Sits.box w #[.slice v0a m0.1.length v0c, .int .i64 m0.2] 61).below (ha _ (.cells #[.int .i64 m1.bye, .int .i64 m1.epoch, .slice v1sa m1.sealed.length v1sc, .slice v1ea m1.seen.length v1ec, .bool m1.planned, .slice v1wa m1.wrote.length v1wc] 64)))
  have X1 := Sits.box (w.alloc (.cells #[.slice v0a m0.1.length v0c, .int .i64 m0.2] 61)) #[.int .i64 m1.bye, .int .i64 m1.epoch, .slice v1sa m1.sealed.length v1sc, .slice v1ea m1.seen.length v1ec, .bool m1.planned, .slice v1wa m1.wrote.length v1wc] 64
  have e1 : (w.alloc (.cells #[.slice v0a m0.1.length v0c, .int .i64 m0.2] 61)).heap.size = w.heap.size + 1 := by simp
  rw [e1] at X1
  replace X1 := dHide X1
  have sz0 : Hid (w.heap.size + 1 + 1 = ((w.alloc (.cells #[.slice v0a m0.1.length v0c, .int .i64 m0.2] 61)).alloc (.cells #[.int .i64 m1.bye, .int .i64 m1.epoch, .slice v1sa m1.sealed.length v1sc, .slice v1ea m1.seen.length v1ec, .bool m1.planned, .slice v1wa m1.wrote.length v1wc] 64)).heap.size) := by simp [Hid]
  clear e1
  generalize (w.alloc (.cells #[.slice v0a m0.1.length v0c, .int .i64 m0.2] 61)).alloc (.cells #[.int .i64 m1.bye, .int .i64 m1.epoch, .slice v1sa m1.sealed.length v1sc, .slice v1ea m1.seen.length v1ec, .bool m1.planned, .slice v1wa m1.wrote.length v1wc] 64) = wb at *
  refine (dUnhide CS0 _ B).mono ?_
  rintro e ws0 ⟨rfl, bs⟩
  have sz1 := dHide bs.size
  replace X0 := dHide ((dUnhide X0).below bs)
  replace X1 := dHide ((dUnhide X1).below bs)
  replace B := belowThen B bs
  clear bs CS0
  have k2 := (dUnhide X1).now 0 _ rfl
  have k3 := (dUnhide X1).now 1 _ rfl
  have k4 := (dUnhide X1).now 2 _ rfl
  have k5 := (dUnhide X1).now 3 _ rfl
  have k6 := (dUnhide X1).now 4 _ rfl
  have k7 := (dUnhide X1).now 5 _ rfl
  go_wp2_with fail
  refine (dUnhide CS1 _ B).mono ?_
  rintro e ws1 ⟨rfl, bs⟩
  have sz8 := dHide bs.size
  replace X0 := dHide ((dUnhide X0).below bs)
  replace X1 := dHide ((dUnhide X1).below bs)
  replace B := belowThen B bs
  clear bs CS1 k2 k3 k4 k5 k6 k7
  have k9 := (dUnhide X0).now 0 _ rfl
  have k10 := (dUnhide X0).now 1 _ rfl
  have k11 := (dUnhide X1).now 0 _ rfl
  have k12 := (dUnhide X1).now 1 _ rfl
  have k13 := (dUnhide X1).now 2 _ rfl
  have k14 := (dUnhide X1).now 3 _ rfl
  have k15 := (dUnhide X1).now 4 _ rfl
  have k16 := (dUnhide X1).now 5 _ rfl
  have hbr := Below.refl ws1.heap.size ws1
  go_wp2_with fail
  go_cut [6] (fun sv wx => sv = .bool s0 ∧ Below ws1.heap.size ws1 wx)
  case first =>
    go_region_held3 (fun W => W.cell? ⟨w.heap.size, 0, none⟩ = some (.slice v0a m0.1.length v0c) ∧ W.cell? ⟨w.heap.size, 1, none⟩ = some (.int .i64 m0.2) ∧ W.cell? ⟨w.heap.size + 1, 0, none⟩ = some (.int .i64 m1.bye) ∧ W.cell? ⟨w.heap.size + 1, 1, none⟩ = some (.int .i64 m1.epoch) ∧ W.cell? ⟨w.heap.size + 1, 2, none⟩ = some (.slice v1sa m1.sealed.length v1sc) ∧ W.cell? ⟨w.heap.size + 1, 3, none⟩ = some (.slice v1ea m1.seen.length v1ec) ∧ W.cell? ⟨w.heap.size + 1, 4, none⟩ = some (.bool m1.planned) ∧ W.cell? ⟨w.heap.size + 1, 5, none⟩ = some (.slice v1wa m1.wrote.length v1wc)) (go_keep)
      (first
        | (go_at_call 39; refine (toConfig_ _ m0 _ hs0 (dUnhide A0 _ (belowThen B hbr.drew))).mono ?_; rintro e wq0 ⟨o0, rfl, q0, b0⟩; have hb0 := belowThen hbr.drew b0; have k17 := ((dUnhide X0).at hb0) 0 _ rfl; have k18 := ((dUnhide X0).at hb0) 1 _ rfl; have k19 := ((dUnhide X1).at hb0) 0 _ rfl; have k20 := ((dUnhide X1).at hb0) 1 _ rfl; have k21 := ((dUnhide X1).at hb0) 2 _ rfl; have k22 := ((dUnhide X1).at hb0) 3 _ rfl; have k23 := ((dUnhide X1).at hb0) 4 _ rfl; have k24 := ((dUnhide X1).at hb0) 5 _ rfl; have Q0 := dHide q0; obtain ⟨o0a, o0c, rfl, o0l⟩ := formConfig q0.now.rd; clear q0)
        | (go_at_call 40; refine (toMend_ _ m1 _ hs1 (dUnhide A1 _ (belowThen B hb0))).mono ?_; rintro e wq1 ⟨o1, rfl, q1, b1⟩; have hb1 := belowThen hb0 b1; have k25 := ((dUnhide X0).at hb1) 0 _ rfl; have k26 := ((dUnhide X0).at hb1) 1 _ rfl; have k27 := ((dUnhide X1).at hb1) 0 _ rfl; have k28 := ((dUnhide X1).at hb1) 1 _ rfl; have k29 := ((dUnhide X1).at hb1) 2 _ rfl; have k30 := ((dUnhide X1).at hb1) 3 _ rfl; have k31 := ((dUnhide X1).at hb1) 4 _ rfl; have k32 := ((dUnhide X1).at hb1) 5 _ rfl; replace Q0 := dHide ((dUnhide Q0).below b1); have Q1 := dHide q1; obtain ⟨o1sa, o1sc, o1ea, o1ec, o1wa, o1wc, rfl, o1l1, o1l2, o1l3⟩ := formMend q1.now.rd; clear q1)
        | (go_at_call 33; refine (dUnhide CP _ _ _ (dUnhide Q0).now.rd (dUnhide Q1).now.rd).mono ?_; rintro e w9 ⟨rfl, b9⟩; have hb9 := belowThen hb1 b9; have k33 := ((dUnhide X0).at hb9) 0 _ rfl; have k34 := ((dUnhide X0).at hb9) 1 _ rfl; have k35 := ((dUnhide X1).at hb9) 0 _ rfl; have k36 := ((dUnhide X1).at hb9) 1 _ rfl; have k37 := ((dUnhide X1).at hb9) 2 _ rfl; have k38 := ((dUnhide X1).at hb9) 3 _ rfl; have k39 := ((dUnhide X1).at hb9) 4 _ rfl; have k40 := ((dUnhide X1).at hb9) 5 _ rfl))
    all_goals
      go_wp2_with fail
      go_meet
      case rel => exact ⟨rfl, hb9⟩
  case rest =>
    obtain ⟨rfl, bc⟩ := hcut
    clear hbr
    clear k9 k10 k11 k12 k13 k14 k15 k16
    have sz41 := dHide bc.size
    replace X0 := dHide ((dUnhide X0).below bc)
    replace X1 := dHide ((dUnhide X1).below bc)
    replace B := belowThen B bc
    generalize wc = w3 at *
    clear bc CP
    have k42 := (dUnhide X0).now 0 _ rfl
    have k43 := (dUnhide X0).now 1 _ rfl
    go_wp2_with fail
    refine (toConfig_ _ m0 _ hs0 (dUnhide A0 _ B)).mono ?_
    rintro e w46 ⟨u45, rfl, T44, b47⟩
    clear k42 k43
    have sz48 := dHide b47.size
    replace X0 := dHide ((dUnhide X0).below b47)
    replace X1 := dHide ((dUnhide X1).below b47)
    replace B := belowThen B b47
    replace T44 := dHide T44
    clear b47
    obtain ⟨u45a, u45c, rfl, u45l⟩ := formConfig (dUnhide T44).now.rd
    have X49 := Sits.box w46 #[.slice u45a m0.1.length u45c, .int .i64 m0.2] 26
    have ba := ha w46 (.cells #[.slice u45a m0.1.length u45c, .int .i64 m0.2] 26)
    have sz51 := dHide ba.size
    replace X0 := dHide ((dUnhide X0).below ba)
    replace X1 := dHide ((dUnhide X1).below ba)
    replace T44 := dHide ((dUnhide T44).below ba)
    replace B := belowThen B ba
    have sz52 : Hid (w46.heap.size + 1 = (w46.alloc (.cells #[.slice u45a m0.1.length u45c, .int .i64 m0.2] 26)).heap.size) := by simp [Hid]
    replace X49 := dHide X49
    clear ba
    have k53 := (dUnhide X1).now 0 _ rfl
    have k54 := (dUnhide X1).now 1 _ rfl
    have k55 := (dUnhide X1).now 2 _ rfl
    have k56 := (dUnhide X1).now 3 _ rfl
    have k57 := (dUnhide X1).now 4 _ rfl
    have k58 := (dUnhide X1).now 5 _ rfl
    go_wp2_with fail
    generalize hbx50 : w46.heap.size = bx50 at *
    generalize w46.alloc (.cells #[.slice u45a m0.1.length u45c, .int .i64 m0.2] 26) = w59 at *
    have sz60 := dHide hbx50
    clear hbx50
    have k61 := (dUnhide X1).now 0 _ rfl
    have k62 := (dUnhide X1).now 1 _ rfl
    have k63 := (dUnhide X1).now 2 _ rfl
    have k64 := (dUnhide X1).now 3 _ rfl
    have k65 := (dUnhide X1).now 4 _ rfl
    have k66 := (dUnhide X1).now 5 _ rfl
    refine (toMend_ _ m1 _ hs1 (dUnhide A1 _ B)).mono ?_
    rintro e w69 ⟨u68, rfl, T67, b70⟩
    clear k61 k62 k63 k64 k65 k66
    clear k53 k54 k55 k56 k57 k58
    have sz71 := dHide b70.size
    replace X0 := dHide ((dUnhide X0).below b70)
    replace X1 := dHide ((dUnhide X1).below b70)
    replace T44 := dHide ((dUnhide T44).below b70)
    replace X49 := dHide ((dUnhide X49).below b70)
    replace B := belowThen B b70
    replace T67 := dHide T67
    clear b70
    obtain ⟨u68sa, u68sc, u68ea, u68ec, u68wa, u68wc, rfl, u68l1, u68l2, u68l3⟩ := formMend (dUnhide T67).now.rd
    have X72 := Sits.box w69 #[.int .i64 m1.bye, .int .i64 m1.epoch, .slice u68sa m1.sealed.length u68sc, .slice u68ea m1.seen.length u68ec, .bool m1.planned, .slice u68wa m1.wrote.length u68wc] 47
    have ba := ha w69 (.cells #[.int .i64 m1.bye, .int .i64 m1.epoch, .slice u68sa m1.sealed.length u68sc, .slice u68ea m1.seen.length u68ec, .bool m1.planned, .slice u68wa m1.wrote.length u68wc] 47)
    have sz74 := dHide ba.size
    replace X0 := dHide ((dUnhide X0).below ba)
    replace X1 := dHide ((dUnhide X1).below ba)
    replace T44 := dHide ((dUnhide T44).below ba)
    replace X49 := dHide ((dUnhide X49).below ba)
    replace T67 := dHide ((dUnhide T67).below ba)
    replace B := belowThen B ba
    have sz75 : Hid (w69.heap.size + 1 = (w69.alloc (.cells #[.int .i64 m1.bye, .int .i64 m1.epoch, .slice u68sa m1.sealed.length u68sc, .slice u68ea m1.seen.length u68ec, .bool m1.planned, .slice u68wa m1.wrote.length u68wc] 47)).heap.size) := by simp [Hid]
    replace X72 := dHide X72
    clear ba
    have k76 := (dUnhide X49).now 0 _ rfl
    have k77 := (dUnhide X49).now 1 _ rfl
    go_wp2_with fail
    generalize hbx73 : w69.heap.size = bx73 at *
    generalize w69.alloc (.cells #[.int .i64 m1.bye, .int .i64 m1.epoch, .slice u68sa m1.sealed.length u68sc, .slice u68ea m1.seen.length u68ec, .bool m1.planned, .slice u68wa m1.wrote.length u68wc] 47) = w78 at *
    have sz79 := dHide hbx73
    clear hbx73
    have k80 := (dUnhide X49).now 0 _ rfl
    have k81 := (dUnhide X49).now 1 _ rfl
    have k82 := (dUnhide X72).now 0 _ rfl
    have k83 := (dUnhide X72).now 1 _ rfl
    have k84 := (dUnhide X72).now 2 _ rfl
    have k85 := (dUnhide X72).now 3 _ rfl
    have k86 := (dUnhide X72).now 4 _ rfl
    have k87 := (dUnhide X72).now 5 _ rfl
    refine (dUnhide CI _ _ _ (dUnhide T44).now.rd (dUnhide T67).now.rd).mono ?_
    rintro e w88 ⟨rfl, b89⟩
    clear k80 k81 k82 k83 k84 k85 k86 k87
    clear k76 k77
    have sz90 := dHide b89.size
    replace X0 := dHide ((dUnhide X0).below b89)
    replace X1 := dHide ((dUnhide X1).below b89)
    replace T44 := dHide ((dUnhide T44).below b89)
    replace X49 := dHide ((dUnhide X49).below b89)
    replace T67 := dHide ((dUnhide T67).below b89)
    replace X72 := dHide ((dUnhide X72).below b89)
    replace B := belowThen B b89
    clear b89
    have k91 := (dUnhide X49).now 0 _ rfl
    have k92 := (dUnhide X49).now 1 _ rfl
    have k93 := (dUnhide X0).now 0 _ rfl
    have k94 := (dUnhide X0).now 1 _ rfl
    have hbr := Below.refl w88.heap.size w88
    go_wp2_with fail
    go_cut [39] (fun sv wx => sv = .bool false ∧ Below w88.heap.size w88 wx)
    case first =>
      go_region_held3 (fun W => W.cell? ⟨bx50, 0, none⟩ = some (.slice u45a m0.1.length u45c) ∧ W.cell? ⟨bx50, 1, none⟩ = some (.int .i64 m0.2) ∧ W.cell? ⟨w.heap.size, 0, none⟩ = some (.slice v0a m0.1.length v0c) ∧ W.cell? ⟨w.heap.size, 1, none⟩ = some (.int .i64 m0.2)) (go_keep)
        (first
          | (go_at_call 39; refine (toConfig_ _ m0 _ hs0 (dUnhide A0 _ (belowThen B hbr.drew))).mono ?_; rintro e w8 ⟨o8, rfl, q8, b8⟩; have hb8 := belowThen hbr.drew b8; have k95 := ((dUnhide X49).at hb8) 0 _ rfl; have k96 := ((dUnhide X49).at hb8) 1 _ rfl; have k97 := ((dUnhide X0).at hb8) 0 _ rfl; have k98 := ((dUnhide X0).at hb8) 1 _ rfl; have Q8 := dHide q8; obtain ⟨o8a, o8c, rfl, o8l⟩ := formConfig q8.now.rd; clear q8)
          | (go_at_call 41; refine (eqConfig_ _ _ _ _ ((dUnhide T44).at hb8).rd (dUnhide Q8).now.rd).mono ?_; rintro e w9 ⟨rfl, b9⟩; have hb9 := belowThen hb8 b9; have k99 := ((dUnhide X49).at hb9) 0 _ rfl; have k100 := ((dUnhide X49).at hb9) 1 _ rfl; have k101 := ((dUnhide X0).at hb9) 0 _ rfl; have k102 := ((dUnhide X0).at hb9) 1 _ rfl))
      all_goals
        go_wp2_with fail
        go_meet
        case rel => exact ⟨rfl, hb9⟩
    case rest =>
      obtain ⟨rfl, bc⟩ := hcut
      clear hbr
      clear k91 k92 k93 k94
      have sz103 := dHide bc.size
      replace X0 := dHide ((dUnhide X0).below bc)
      replace X1 := dHide ((dUnhide X1).below bc)
      replace T44 := dHide ((dUnhide T44).below bc)
      replace X49 := dHide ((dUnhide X49).below bc)
      replace T67 := dHide ((dUnhide T67).below bc)
      replace X72 := dHide ((dUnhide X72).below bc)
      replace B := belowThen B bc
      generalize wc = w104 at *
      clear bc
      have k105 := (dUnhide X72).now 0 _ rfl
      have k106 := (dUnhide X72).now 1 _ rfl
      have k107 := (dUnhide X72).now 2 _ rfl
      have k108 := (dUnhide X72).now 3 _ rfl
      have k109 := (dUnhide X72).now 4 _ rfl
      have k110 := (dUnhide X72).now 5 _ rfl
      have k111 := (dUnhide X1).now 0 _ rfl
      have k112 := (dUnhide X1).now 1 _ rfl
      have k113 := (dUnhide X1).now 2 _ rfl
      have k114 := (dUnhide X1).now 3 _ rfl
      have k115 := (dUnhide X1).now 4 _ rfl
      have k116 := (dUnhide X1).now 5 _ rfl
      have hbr := Below.refl w104.heap.size w104
      go_wp2_with fail
      go_cut [44] (fun sv wx => sv = .bool false ∧ Below w104.heap.size w104 wx)
      case first =>
        go_region_held3 (fun W => W.cell? ⟨bx73, 0, none⟩ = some (.int .i64 m1.bye) ∧ W.cell? ⟨bx73, 1, none⟩ = some (.int .i64 m1.epoch) ∧ W.cell? ⟨bx73, 2, none⟩ = some (.slice u68sa m1.sealed.length u68sc) ∧ W.cell? ⟨bx73, 3, none⟩ = some (.slice u68ea m1.seen.length u68ec) ∧ W.cell? ⟨bx73, 4, none⟩ = some (.bool m1.planned) ∧ W.cell? ⟨bx73, 5, none⟩ = some (.slice u68wa m1.wrote.length u68wc) ∧ W.cell? ⟨w.heap.size + 1, 0, none⟩ = some (.int .i64 m1.bye) ∧ W.cell? ⟨w.heap.size + 1, 1, none⟩ = some (.int .i64 m1.epoch) ∧ W.cell? ⟨w.heap.size + 1, 2, none⟩ = some (.slice v1sa m1.sealed.length v1sc) ∧ W.cell? ⟨w.heap.size + 1, 3, none⟩ = some (.slice v1ea m1.seen.length v1ec) ∧ W.cell? ⟨w.heap.size + 1, 4, none⟩ = some (.bool m1.planned) ∧ W.cell? ⟨w.heap.size + 1, 5, none⟩ = some (.slice v1wa m1.wrote.length v1wc)) (go_keep)
          (first
            | (go_at_call 40; refine (toMend_ _ m1 _ hs1 (dUnhide A1 _ (belowThen B hbr.drew))).mono ?_; rintro e w8 ⟨o8, rfl, q8, b8⟩; have hb8 := belowThen hbr.drew b8; have k117 := ((dUnhide X72).at hb8) 0 _ rfl; have k118 := ((dUnhide X72).at hb8) 1 _ rfl; have k119 := ((dUnhide X72).at hb8) 2 _ rfl; have k120 := ((dUnhide X72).at hb8) 3 _ rfl; have k121 := ((dUnhide X72).at hb8) 4 _ rfl; have k122 := ((dUnhide X72).at hb8) 5 _ rfl; have k123 := ((dUnhide X1).at hb8) 0 _ rfl; have k124 := ((dUnhide X1).at hb8) 1 _ rfl; have k125 := ((dUnhide X1).at hb8) 2 _ rfl; have k126 := ((dUnhide X1).at hb8) 3 _ rfl; have k127 := ((dUnhide X1).at hb8) 4 _ rfl; have k128 := ((dUnhide X1).at hb8) 5 _ rfl; have Q8 := dHide q8; obtain ⟨o8sa, o8sc, o8ea, o8ec, o8wa, o8wc, rfl, o8l1, o8l2, o8l3⟩ := formMend q8.now.rd; clear q8)
            | (go_at_call 42; refine (eqMend_ _ _ _ _ ((dUnhide T67).at hb8).rd (dUnhide Q8).now.rd).mono ?_; rintro e w9 ⟨rfl, b9⟩; have hb9 := belowThen hb8 b9; have k129 := ((dUnhide X72).at hb9) 0 _ rfl; have k130 := ((dUnhide X72).at hb9) 1 _ rfl; have k131 := ((dUnhide X72).at hb9) 2 _ rfl; have k132 := ((dUnhide X72).at hb9) 3 _ rfl; have k133 := ((dUnhide X72).at hb9) 4 _ rfl; have k134 := ((dUnhide X72).at hb9) 5 _ rfl; have k135 := ((dUnhide X1).at hb9) 0 _ rfl; have k136 := ((dUnhide X1).at hb9) 1 _ rfl; have k137 := ((dUnhide X1).at hb9) 2 _ rfl; have k138 := ((dUnhide X1).at hb9) 3 _ rfl; have k139 := ((dUnhide X1).at hb9) 4 _ rfl; have k140 := ((dUnhide X1).at hb9) 5 _ rfl))
        all_goals
          go_wp2_with fail
          go_meet
          case rel => exact ⟨rfl, hb9⟩
      case rest =>
        obtain ⟨rfl, bc⟩ := hcut
        clear hbr
        clear k105 k106 k107 k108 k109 k110 k111 k112 k113 k114 k115 k116
        have sz141 := dHide bc.size
        replace X0 := dHide ((dUnhide X0).below bc)
        replace X1 := dHide ((dUnhide X1).below bc)
        replace T44 := dHide ((dUnhide T44).below bc)
        replace X49 := dHide ((dUnhide X49).below bc)
        replace T67 := dHide ((dUnhide T67).below bc)
        replace X72 := dHide ((dUnhide X72).below bc)
        replace B := belowThen B bc
        generalize wc = w142 at *
        clear bc
        clear X0 X1 T44 X49 T67 X72
        go_wp2
        go_ret
        exact ⟨rfl, B⟩
end Go.Proofs.Ytjbfpmackocgnaa
