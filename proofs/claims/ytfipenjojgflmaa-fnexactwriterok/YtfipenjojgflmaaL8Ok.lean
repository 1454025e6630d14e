/- FnExactWriterOk: both answers, and the law's walk (printed by tools/mkl8.py). -/
import Derived.Test.YtfipenjojgflmaaQ8O
import Derived.Deep.RegionHeld3
import Derived.Deep.DeepCutAuto
namespace Go.Proofs.Ytfipenjojgflmaa
open Go.ChangeShapes Go.WideShapes Go.ChangeAt Go.RowKit
set_option linter.unusedVariables false
theorem bothFnExactWriterOk (m0 : List Int × Int) (m1 : Wt) (ok0 : okConfig m0) (ok1 : okWriter m1) (hs0 : sizConfig m0 ≤ 1048576) (hs1 : sizWriter m1 ≤ 1048576) : ∃ (s0 : Bool), (∀ W v0 v1, RdConfig v0 m0 W → RdWriter v1 m1 W → Calls Try.prog 31 #[v0, v1] W fun e w' => e = .returned (.bool s0) ∧ Below W.heap.size W w') ∧ (∀ W v0 v1, RdConfig v0 m0 W → RdWriter v1 m1 W → Calls Try.prog 17 #[v0, v1] W fun e w' => e = .returned (.bool s0) ∧ Below W.heap.size W w') := bothWriterOk_ m0 m1 ok0 ok1 hs0 hs1
set_option maxHeartbeats 4000000 in
set_option maxRecDepth 100000 in
theorem walkFnExactWriterOk (v0 v1 : Value) (m0 : List Int × Int) (m1 : Wt) (w : World) (i0 : IsConfig v0 m0 w) (i1 : IsWriter v1 m1 w) :
    Calls Try.prog 7 #[v0, v1] w fun r w' => r = .returned (.bool true) ∧ Below w.heap.size w w' := by
  obtain ⟨r0, ok0⟩ := i0
  obtain ⟨r1, ok1⟩ := i1
  have ha : ∀ (w : World) o, Below w.heap.size w (w.alloc o) := fun w o => (Below.refl _ _).alloc (Nat.le_refl _) o
  have A0 := dHide fun W (hb : Below w.heap.size w W) => r0.below hb
  have A1 := dHide fun W (hb : Below w.heap.size w W) => r1.below hb
  obtain ⟨v0a, v0c, rfl, v0l⟩ := formConfig r0
  obtain ⟨v1a, v1c, rfl, v1l⟩ := formWriter r1
  by_cases z0 : (1048576 : Int) < (sizConfig m0 : Int)
  · have CS0 := dHide fun W (hb : Below w.heap.size w W) => szConfig_ _ m0 (1048576 : Int) (by omega) (by omega) W (dUnhide A0 W hb)
    rw [lft_no z0] at CS0
    clear z0
    go_enter Try.func7, Try.ntmps7
    go_wp2_with fail
    have B := belowThen (ha w (.cells #[.slice v0a m0.1.length v0c, .int .i64 m0.2] 49)) (ha _ (.cells #[.int .i64 m1.epoch, .slice v1a m1.words.length v1c] 52))
    have X0 := dHide ((Sits.box w #[.slice v0a m0.1.length v0c, .int .i64 m0.2] 49).below (ha _ (.cells #[.int .i64 m1.epoch, .slice v1a m1.words.length v1c] 52)))
    have X1 := Sits.box (w.alloc (.cells #[.slice v0a m0.1.length v0c, .int .i64 m0.2] 49)) #[.int .i64 m1.epoch, .slice v1a m1.words.length v1c] 52
    have e1 : (w.alloc (.cells #[.slice v0a m0.1.length v0c, .int .i64 m0.2] 49)).heap.size = w.heap.size + 1 := by simp
    rw [e1] at X1
    replace X1 := dHide X1
    have sz0 : Hid (w.heap.size + 1 + 1 = ((w.alloc (.cells #[.slice v0a m0.1.length v0c, .int .i64 m0.2] 49)).alloc (.cells #[.int .i64 m1.epoch, .slice v1a m1.words.length v1c] 52)).heap.size) := by simp [Hid]
    clear e1
    generalize (w.alloc (.cells #[.slice v0a m0.1.length v0c, .int .i64 m0.2] 49)).alloc (.cells #[.int .i64 m1.epoch, .slice v1a m1.words.length v1c] 52) = wb at *
    refine (dUnhide CS0 _ B).mono ?_
    rintro e ws0 ⟨rfl, bs⟩
    have sz1 := dHide bs.size
    replace X0 := dHide ((dUnhide X0).below bs)
    replace X1 := dHide ((dUnhide X1).below bs)
    replace B := belowThen B bs
    clear bs CS0
    clear X0 X1
    go_wp2
    go_ret
    exact ⟨rfl, B⟩
  by_cases z1 : ((1048576 : Int) - (sizConfig m0 : Int)) < (sizWriter m1 : Int)
  · have CS0 := dHide fun W (hb : Below w.heap.size w W) => szConfig_ _ m0 (1048576 : Int) (by omega) (by omega) W (dUnhide A0 W hb)
    rw [lft_yes z0] at CS0
    have z0' : ¬ ((1048576 : Int) - (sizConfig m0 : Int) < 0) := by omega
    have CS1 := dHide fun W (hb : Below w.heap.size w W) => szWriter_ _ m1 ((1048576 : Int) - (sizConfig m0 : Int)) (by omega) (by omega) (txtW_of ok1) W (dUnhide A1 W hb)
    rw [lft_no z1] at CS1
    clear z0 z1
    go_enter Try.func7, Try.ntmps7
    go_wp2_with fail
    have B := belowThen (ha w (.cells #[.slice v0a m0.1.length v0c, .int .i64 m0.2] 49)) (ha _ (.cells #[.int .i64 m1.epoch, .slice v1a m1.words.length v1c] 52))
    have X0 := dHide ((Sits.box w #[.slice v0a m0.1.length v0c, .int .i64 m0.2] 49).below (ha _ (.cells #[.int .i64 m1.epoch, .slice v1a m1.words.length v1c] 52)))
    have X1 := Sits.box (w.alloc (.cells #[.slice v0a m0.1.length v0c, .int .i64 m0.2] 49)) #[.int .i64 m1.epoch, .slice v1a m1.words.length v1c] 52
    have e1 : (w.alloc (.cells #[.slice v0a m0.1.length v0c, .int .i64 m0.2] 49)).heap.size = w.heap.size + 1 := by simp
    rw [e1] at X1
    replace X1 := dHide X1
    have sz0 : Hid (w.heap.size + 1 + 1 = ((w.alloc (.cells #[.slice v0a m0.1.length v0c, .int .i64 m0.2] 49)).alloc (.cells #[.int .i64 m1.epoch, .slice v1a m1.words.length v1c] 52)).heap.size) := by simp [Hid]
    clear e1
    generalize (w.alloc (.cells #[.slice v0a m0.1.length v0c, .int .i64 m0.2] 49)).alloc (.cells #[.int .i64 m1.epoch, .slice v1a m1.words.length v1c] 52) = wb at *
    refine (dUnhide CS0 _ B).mono ?_
    rintro e ws0 ⟨rfl, bs⟩
    have sz1 := dHide bs.size
    replace X0 := dHide ((dUnhide X0).below bs)
    replace X1 := dHide ((dUnhide X1).below bs)
    replace B := belowThen B bs
    clear bs CS0
    have k2 := (dUnhide X1).now 0 _ rfl
    have k3 := (dUnhide X1).now 1 _ rfl
    go_wp2_with fail
    refine (dUnhide CS1 _ B).mono ?_
    rintro e ws1 ⟨rfl, bs⟩
    have sz4 := dHide bs.size
    replace X0 := dHide ((dUnhide X0).below bs)
    replace X1 := dHide ((dUnhide X1).below bs)
    replace B := belowThen B bs
    clear bs CS1 k2 k3
    clear X0 X1
    go_wp2
    go_ret
    exact ⟨rfl, B⟩
  have hs0 : sizConfig m0 ≤ 1048576 := by omega
  have hs1 : sizWriter m1 ≤ 1048576 := by omega
  have hc0 := cntConfig_le hs0
  have hc1 := cntWriter_le hs1
  obtain ⟨s0, p1, p2⟩ := bothFnExactWriterOk m0 m1 ok0 ok1 hs0 hs1
  have CP := dHide p1
  have CI := dHide p2
  have CS0 := dHide fun W (hb : Below w.heap.size w W) => szConfig_ _ m0 (1048576 : Int) (by omega) (by omega) W (dUnhide A0 W hb)
  rw [lft_yes z0] at CS0
  have z0' : ¬ ((1048576 : Int) - (sizConfig m0 : Int) < 0) := by omega
  have CS1 := dHide fun W (hb : Below w.heap.size w W) => szWriter_ _ m1 ((1048576 : Int) - (sizConfig m0 : Int)) (by omega) (by omega) (txtW_of ok1) W (dUnhide A1 W hb)
  rw [lft_yes z1] at CS1
  have z1' : ¬ (((1048576 : Int) - (sizConfig m0 : Int)) - (sizWriter m1 : Int) < 0) := by omega
  clear p1 p2 r0 ok0 r1 ok1 
  go_enter Try.func7, Try.ntmps7
  go_wp2_with fail
  have B := belowThen (ha w (.cells #[.slice v0a m0.1.length v0c, .int .i64 m0.2] 49)) (ha _ (.cells #[.int .i64 m1.epoch, .slice v1a m1.words.length v1c] 52))
  have X0 := dHide ((Sits.box w #[.slice v0a m0.1.length v0c, .int .i64 m0.2] 49).below (ha _ (.cells #[.int .i64 m1.epoch, .slice v1a m1.words.length v1c] 52)))
  have X1 := Sits.box (w.alloc (.cells #[.slice v0a m0.1.length v0c, .int .i64 m0.2] 49)) #[.int .i64 m1.epoch, .slice v1a m1.words.length v1c] 52
  have e1 : (w.alloc (.cells #[.slice v0a m0.1.length v0c, .int .i64 m0.2] 49)).heap.size = w.heap.size + 1 := by simp
  rw [e1] at X1
  replace X1 := dHide X1
  have sz0 : Hid (w.heap.size + 1 + 1 = ((w.alloc (.cells #[.slice v0a m0.1.length v0c, .int .i64 m0.2] 49)).alloc (.cells #[.int .i64 m1.epoch, .slice v1a m1.words.length v1c] 52)).heap.size) := by simp [Hid]
  clear e1
  generalize (w.alloc (.cells #[.slice v0a m0.1.length v0c, .int .i64 m0.2] 49)).alloc (.cells #[.int .i64 m1.epoch, .slice v1a m1.words.length v1c] 52) = wb at *
  refine (dUnhide CS0 _ B).mono ?_
  rintro e ws0 ⟨rfl, bs⟩
  have sz1 := dHide bs.size
  replace X0 := dHide ((dUnhide X0).below bs)
  replace X1 := dHide ((dUnhide X1).below bs)
  replace B := belowThen B bs
  clear bs CS0
  have k2 := (dUnhide X1).now 0 _ rfl
  have k3 := (dUnhide X1).now 1 _ rfl
  go_wp2_with fail
  refine (dUnhide CS1 _ B).mono ?_
  rintro e ws1 ⟨rfl, bs⟩
  have sz4 := dHide bs.size
  replace X0 := dHide ((dUnhide X0).below bs)
  replace X1 := dHide ((dUnhide X1).below bs)
  replace B := belowThen B bs
  clear bs CS1 k2 k3
  have k5 := (dUnhide X0).now 0 _ rfl
  have k6 := (dUnhide X0).now 1 _ rfl
  have k7 := (dUnhide X1).now 0 _ rfl
  have k8 := (dUnhide X1).now 1 _ rfl
  have hbr := Below.refl ws1.heap.size ws1
  go_wp2_with fail
  go_cut [6] (fun sv wx => sv = .bool s0 ∧ Below ws1.heap.size ws1 wx)
  case first =>
    go_region_held3 (fun W => W.cell? ⟨w.heap.size, 0, none⟩ = some (.slice v0a m0.1.length v0c) ∧ W.cell? ⟨w.heap.size, 1, none⟩ = some (.int .i64 m0.2) ∧ W.cell? ⟨w.heap.size + 1, 0, none⟩ = some (.int .i64 m1.epoch) ∧ W.cell? ⟨w.heap.size + 1, 1, none⟩ = some (.slice v1a m1.words.length v1c)) (go_keep)
      (first
        | (go_at_call 32; refine (toConfig_ _ m0 _ hs0 (dUnhide A0 _ (belowThen B hbr.drew))).mono ?_; rintro e wq0 ⟨o0, rfl, q0, b0⟩; have hb0 := belowThen hbr.drew b0; have k9 := ((dUnhide X0).at hb0) 0 _ rfl; have k10 := ((dUnhide X0).at hb0) 1 _ rfl; have k11 := ((dUnhide X1).at hb0) 0 _ rfl; have k12 := ((dUnhide X1).at hb0) 1 _ rfl; have Q0 := dHide q0; obtain ⟨o0a, o0c, rfl, o0l⟩ := formConfig q0.now.rd; clear q0)
        | (go_at_call 33; refine (toWriter_ _ m1 _ hs1 (dUnhide A1 _ (belowThen B hb0))).mono ?_; rintro e wq1 ⟨o1, rfl, q1, b1⟩; have hb1 := belowThen hb0 b1; have k13 := ((dUnhide X0).at hb1) 0 _ rfl; have k14 := ((dUnhide X0).at hb1) 1 _ rfl; have k15 := ((dUnhide X1).at hb1) 0 _ rfl; have k16 := ((dUnhide X1).at hb1) 1 _ rfl; replace Q0 := dHide ((dUnhide Q0).below b1); have Q1 := dHide q1; obtain ⟨o1a, o1c, rfl, o1l⟩ := formWriter q1.now.rd; clear q1)
        | (go_at_call 31; refine (dUnhide CP _ _ _ (dUnhide Q0).now.rd (dUnhide Q1).now.rd).mono ?_; rintro e w9 ⟨rfl, b9⟩; have hb9 := belowThen hb1 b9; have k17 := ((dUnhide X0).at hb9) 0 _ rfl; have k18 := ((dUnhide X0).at hb9) 1 _ rfl; have k19 := ((dUnhide X1).at hb9) 0 _ rfl; have k20 := ((dUnhide X1).at hb9) 1 _ rfl))
    all_goals
      go_wp2_with fail
      go_meet
      case rel => exact ⟨rfl, hb9⟩
  case rest =>
    obtain ⟨rfl, bc⟩ := hcut
    clear hbr
    clear k5 k6 k7 k8
    have sz21 := dHide bc.size
    replace X0 := dHide ((dUnhide X0).below bc)
    replace X1 := dHide ((dUnhide X1).below bc)
    replace B := belowThen B bc
    generalize wc = w3 at *
    clear bc CP
    have k22 := (dUnhide X0).now 0 _ rfl
    have k23 := (dUnhide X0).now 1 _ rfl
    go_wp2_with fail
    refine (toConfig_ _ m0 _ hs0 (dUnhide A0 _ B)).mono ?_
    rintro e w26 ⟨u25, rfl, T24, b27⟩
    clear k22 k23
    have sz28 := dHide b27.size
    replace X0 := dHide ((dUnhide X0).below b27)
    replace X1 := dHide ((dUnhide X1).below b27)
    replace B := belowThen B b27
    replace T24 := dHide T24
    clear b27
    obtain ⟨u25a, u25c, rfl, u25l⟩ := formConfig (dUnhide T24).now.rd
    have X29 := Sits.box w26 #[.slice u25a m0.1.length u25c, .int .i64 m0.2] 26
    have ba := ha w26 (.cells #[.slice u25a m0.1.length u25c, .int .i64 m0.2] 26)
    have sz31 := dHide ba.size
    replace X0 := dHide ((dUnhide X0).below ba)
    replace X1 := dHide ((dUnhide X1).below ba)
    replace T24 := dHide ((dUnhide T24).below ba)
    replace B := belowThen B ba
    have sz32 : Hid (w26.heap.size + 1 = (w26.alloc (.cells #[.slice u25a m0.1.length u25c, .int .i64 m0.2] 26)).heap.size) := by simp [Hid]
    replace X29 := dHide X29
    clear ba
    have k33 := (dUnhide X1).now 0 _ rfl
    have k34 := (dUnhide X1).now 1 _ rfl
    go_wp2_with fail
    generalize hbx30 : w26.heap.size = bx30 at *
    generalize w26.alloc (.cells #[.slice u25a m0.1.length u25c, .int .i64 m0.2] 26) = w35 at *
    have sz36 := dHide hbx30
    clear hbx30
    have k37 := (dUnhide X1).now 0 _ rfl
    have k38 := (dUnhide X1).now 1 _ rfl
    refine (toWriter_ _ m1 _ hs1 (dUnhide A1 _ B)).mono ?_
    rintro e w41 ⟨u40, rfl, T39, b42⟩
    clear k37 k38
    clear k33 k34
    have sz43 := dHide b42.size
    replace X0 := dHide ((dUnhide X0).below b42)
    replace X1 := dHide ((dUnhide X1).below b42)
    replace T24 := dHide ((dUnhide T24).below b42)
    replace X29 := dHide ((dUnhide X29).below b42)
    replace B := belowThen B b42
    replace T39 := dHide T39
    clear b42
    obtain ⟨u40a, u40c, rfl, u40l⟩ := formWriter (dUnhide T39).now.rd
    have X44 := Sits.box w41 #[.int .i64 m1.epoch, .slice u40a m1.words.length u40c] 29
    have ba := ha w41 (.cells #[.int .i64 m1.epoch, .slice u40a m1.words.length u40c] 29)
    have sz46 := dHide ba.size
    replace X0 := dHide ((dUnhide X0).below ba)
    replace X1 := dHide ((dUnhide X1).below ba)
    replace T24 := dHide ((dUnhide T24).below ba)
    replace X29 := dHide ((dUnhide X29).below ba)
    replace T39 := dHide ((dUnhide T39).below ba)
    replace B := belowThen B ba
    have sz47 : Hid (w41.heap.size + 1 = (w41.alloc (.cells #[.int .i64 m1.epoch, .slice u40a m1.words.length u40c] 29)).heap.size) := by simp [Hid]
    replace X44 := dHide X44
    clear ba
    have k48 := (dUnhide X29).now 0 _ rfl
    have k49 := (dUnhide X29).now 1 _ rfl
    go_wp2_with fail
    generalize hbx45 : w41.heap.size = bx45 at *
    generalize w41.alloc (.cells #[.int .i64 m1.epoch, .slice u40a m1.words.length u40c] 29) = w50 at *
    have sz51 := dHide hbx45
    clear hbx45
    have k52 := (dUnhide X29).now 0 _ rfl
    have k53 := (dUnhide X29).now 1 _ rfl
    have k54 := (dUnhide X44).now 0 _ rfl
    have k55 := (dUnhide X44).now 1 _ rfl
    refine (dUnhide CI _ _ _ (dUnhide T24).now.rd (dUnhide T39).now.rd).mono ?_
    rintro e w56 ⟨rfl, b57⟩
    clear k52 k53 k54 k55
    clear k48 k49
    have sz58 := dHide b57.size
    replace X0 := dHide ((dUnhide X0).below b57)
    replace X1 := dHide ((dUnhide X1).below b57)
    replace T24 := dHide ((dUnhide T24).below b57)
    replace X29 := dHide ((dUnhide X29).below b57)
    replace T39 := dHide ((dUnhide T39).below b57)
    replace X44 := dHide ((dUnhide X44).below b57)
    replace B := belowThen B b57
    clear b57
    have k59 := (dUnhide X29).now 0 _ rfl
    have k60 := (dUnhide X29).now 1 _ rfl
    have k61 := (dUnhide X0).now 0 _ rfl
    have k62 := (dUnhide X0).now 1 _ rfl
    have hbr := Below.refl w56.heap.size w56
    go_wp2_with fail
    go_cut [39] (fun sv wx => sv = .bool false ∧ Below w56.heap.size w56 wx)
    case first =>
      go_region_held3 (fun W => W.cell? ⟨bx30, 0, none⟩ = some (.slice u25a m0.1.length u25c) ∧ W.cell? ⟨bx30, 1, none⟩ = some (.int .i64 m0.2) ∧ W.cell? ⟨w.heap.size, 0, none⟩ = some (.slice v0a m0.1.length v0c) ∧ W.cell? ⟨w.heap.size, 1, none⟩ = some (.int .i64 m0.2)) (go_keep)
        (first
          | (go_at_call 32; refine (toConfig_ _ m0 _ hs0 (dUnhide A0 _ (belowThen B hbr.drew))).mono ?_; rintro e w8 ⟨o8, rfl, q8, b8⟩; have hb8 := belowThen hbr.drew b8; have k63 := ((dUnhide X29).at hb8) 0 _ rfl; have k64 := ((dUnhide X29).at hb8) 1 _ rfl; have k65 := ((dUnhide X0).at hb8) 0 _ rfl; have k66 := ((dUnhide X0).at hb8) 1 _ rfl; have Q8 := dHide q8; obtain ⟨o8a, o8c, rfl, o8l⟩ := formConfig q8.now.rd; clear q8)
          | (go_at_call 34; refine (eqConfig_ _ _ _ _ ((dUnhide T24).at hb8).rd (dUnhide Q8).now.rd).mono ?_; rintro e w9 ⟨rfl, b9⟩; have hb9 := belowThen hb8 b9; have k67 := ((dUnhide X29).at hb9) 0 _ rfl; have k68 := ((dUnhide X29).at hb9) 1 _ rfl; have k69 := ((dUnhide X0).at hb9) 0 _ rfl; have k70 := ((dUnhide X0).at hb9) 1 _ rfl))
      all_goals
        go_wp2_with fail
        go_meet
        case rel => exact ⟨rfl, hb9⟩
    case rest =>
      obtain ⟨rfl, bc⟩ := hcut
      clear hbr
      clear k59 k60 k61 k62
      have sz71 := dHide bc.size
      replace X0 := dHide ((dUnhide X0).below bc)
      replace X1 := dHide ((dUnhide X1).below bc)
      replace T24 := dHide ((dUnhide T24).below bc)
      replace X29 := dHide ((dUnhide X29).below bc)
      replace T39 := dHide ((dUnhide T39).below bc)
      replace X44 := dHide ((dUnhide X44).below bc)
      replace B := belowThen B bc
      generalize wc = w72 at *
      clear bc
      have k73 := (dUnhide X44).now 0 _ rfl
      have k74 := (dUnhide X44).now 1 _ rfl
      have k75 := (dUnhide X1).now 0 _ rfl
      have k76 := (dUnhide X1).now 1 _ rfl
      have hbr := Below.refl w72.heap.size w72
      go_wp2_with fail
      go_cut [44] (fun sv wx => sv = .bool false ∧ Below w72.heap.size w72 wx)
      case first =>
        go_region_held3 (fun W => W.cell? ⟨bx45, 0, none⟩ = some (.int .i64 m1.epoch) ∧ W.cell? ⟨bx45, 1, none⟩ = some (.slice u40a m1.words.length u40c) ∧ W.cell? ⟨w.heap.size + 1, 0, none⟩ = some (.int .i64 m1.epoch) ∧ W.cell? ⟨w.heap.size + 1, 1, none⟩ = some (.slice v1a m1.words.length v1c)) (go_keep)
          (first
            | (go_at_call 33; refine (toWriter_ _ m1 _ hs1 (dUnhide A1 _ (belowThen B hbr.drew))).mono ?_; rintro e w8 ⟨o8, rfl, q8, b8⟩; have hb8 := belowThen hbr.drew b8; have k77 := ((dUnhide X44).at hb8) 0 _ rfl; have k78 := ((dUnhide X44).at hb8) 1 _ rfl; have k79 := ((dUnhide X1).at hb8) 0 _ rfl; have k80 := ((dUnhide X1).at hb8) 1 _ rfl; have Q8 := dHide q8; obtain ⟨o8a, o8c, rfl, o8l⟩ := formWriter q8.now.rd; clear q8)
            | (go_at_call 35; refine (eqWriter_ _ _ _ _ ((dUnhide T39).at hb8).rd (dUnhide Q8).now.rd).mono ?_; rintro e w9 ⟨rfl, b9⟩; have hb9 := belowThen hb8 b9; have k81 := ((dUnhide X44).at hb9) 0 _ rfl; have k82 := ((dUnhide X44).at hb9) 1 _ rfl; have k83 := ((dUnhide X1).at hb9) 0 _ rfl; have k84 := ((dUnhide X1).at hb9) 1 _ rfl))
        all_goals
          go_wp2_with fail
          go_meet
          case rel => exact ⟨rfl, hb9⟩
      case rest =>
        obtain ⟨rfl, bc⟩ := hcut
        clear hbr
        clear k73 k74 k75 k76
        have sz85 := dHide bc.size
        replace X0 := dHide ((dUnhide X0).below bc)
        replace X1 := dHide ((dUnhide X1).below bc)
        replace T24 := dHide ((dUnhide T24).below bc)
        replace X29 := dHide ((dUnhide X29).below bc)
        replace T39 := dHide ((dUnhide T39).below bc)
        replace X44 := dHide ((dUnhide X44).below bc)
        replace B := belowThen B bc
        generalize wc = w86 at *
        clear bc
        clear X0 X1 T24 X29 T39 X44
        go_wp2
        go_ret
        exact ⟨rfl, B⟩
end Go.Proofs.Ytfipenjojgflmaa
