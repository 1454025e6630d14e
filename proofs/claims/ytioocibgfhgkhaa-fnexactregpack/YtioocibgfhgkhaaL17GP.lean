/- FnExactRegPack: both answers, and the law's walk (printed by tools/mkl17.py). -/
import Derived.Test.YtioocibgfhgkhaaQ17G
import Derived.Test.YtioocibgfhgkhaaSitU
import Derived.Deep.RegionHeld3
import Derived.Deep.DeepCutAuto
namespace Go.Proofs.Ytioocibgfhgkhaa
open Go.ChangeShapes Go.WideShapes Go.ChangeAt Go.RowKit
set_option linter.unusedVariables false
theorem bothFnExactRegPack (m0 : List Int × Int) (m1 : Rg) (ok0 : okConfig m0) (ok1 : okRegister m1) (hs0 : sizConfig m0 ≤ 1048576) (hs1 : sizRegister m1 ≤ 1048576) : ∃ (R : List UInt8) (s1 : Bool), cntByteS R ≤ 16777216 ∧ (∀ W v0 v1, RdConfig v0 m0 W → RdRegister v1 m1 W → Calls Try.prog 17 #[v0, v1] W fun e w' => ∃ u, e = .returned (.tuple #[u, .bool s1]) ∧ Sits (OwByteS W.heap.size w'.heap.size u R) W.heap.size w'.heap.size w' ∧ Below W.heap.size W w') ∧ (∀ W v0 v1, RdConfig v0 m0 W → RdRegister v1 m1 W → Calls Try.prog 19 #[v0, v1] W fun e w' => ∃ u, e = .returned (.tuple #[u, .bool s1]) ∧ Sits (OwByteS W.heap.size w'.heap.size u R) W.heap.size w'.heap.size w' ∧ Below W.heap.size W w') := bothRegPack_ m0 m1 ok0 ok1 hs0 hs1
set_option maxHeartbeats 4000000 in
set_option maxRecDepth 100000 in
theorem walkFnExactRegPack (v0 v1 : Value) (m0 : List Int × Int) (m1 : Rg) (w : World) (i0 : IsConfig v0 m0 w) (i1 : IsRegister v1 m1 w) :
    Calls Try.prog 4 #[v0, v1] w fun r w' => r = .returned (.bool true) ∧ Below w.heap.size w w' := by
  obtain ⟨r0, ok0⟩ := i0
  obtain ⟨r1, ok1⟩ := i1
  have ha : ∀ (w : World) o, Below w.heap.size w (w.alloc o) := fun w o => (Below.refl _ _).alloc (Nat.le_refl _) o
  have A0 := dHide fun W (hb : Below w.heap.size w W) => r0.below hb
  have A1 := dHide fun W (hb : Below w.heap.size w W) => r1.below hb
  obtain ⟨v0a, v0c, rfl, v0l⟩ := formConfig r0
  obtain ⟨v1a, v1c, rfl, v1l⟩ := formRegister r1
  by_cases z0 : (1048576 : Int) < (sizConfig m0 : Int)
  · have CS0 := dHide fun W (hb : Below w.heap.size w W) => szConfig_ _ m0 (1048576 : Int) (by omega) (by omega) W (dUnhide A0 W hb)
    rw [lft_no z0] at CS0
    clear z0
    go_enter Try.func4, Try.ntmps4
    go_wp2_with fail
    have B := belowThen (ha w (.cells #[.slice v0a m0.1.length v0c, .int .i64 m0.2] 24)) (ha _ (.cells #[.slice v1a m1.eras.length v1c, .int .i64 m1.trim] 38))
    have X0 := dHide ((Sits.box w #[.slice v0a m0.1.length v0c, .int .i64 m0.2] 24).below (ha _ (.cells #[.slice v1a m1.eras.length v1c, .int .i64 m1.trim] 38)))
    have X1 := Sits.box (w.alloc (.cells #[.slice v0a m0.1.length v0c, .int .i64 m0.2] 24)) #[.slice v1a m1.eras.length v1c, .int .i64 m1.trim] 38
    have e1 : (w.alloc (.cells #[.slice v0a m0.1.length v0c, .int .i64 m0.2] 24)).heap.size = w.heap.size + 1 := by simp
    rw [e1] at X1
    replace X1 := dHide X1
    have sz0 : Hid (w.heap.size + 1 + 1 = ((w.alloc (.cells #[.slice v0a m0.1.length v0c, .int .i64 m0.2] 24)).alloc (.cells #[.slice v1a m1.eras.length v1c, .int .i64 m1.trim] 38)).heap.size) := by simp [Hid]
    clear e1
    generalize (w.alloc (.cells #[.slice v0a m0.1.length v0c, .int .i64 m0.2] 24)).alloc (.cells #[.slice v1a m1.eras.length v1c, .int .i64 m1.trim] 38) = wb at *
    refine (dUnhide CS0 _ B).mono ?_
    rintro e ws0 ⟨rfl, bs⟩
    have sz1 := dHide bs.size
    replace X0 := dHide ((dUnhide X0).below bs)
    replace X1 := dHide ((dUnhide X1).below bs)
    replace B := belowThen B bs
    clear bs CS0
    clear X0 X1
    go_wp2
    go_ret
    exact ⟨rfl, B⟩
  by_cases z1 : ((1048576 : Int) - (sizConfig m0 : Int)) < (sizRegister m1 : Int)
  · have CS0 := dHide fun W (hb : Below w.heap.size w W) => szConfig_ _ m0 (1048576 : Int) (by omega) (by omega) W (dUnhide A0 W hb)
    rw [lft_yes z0] at CS0
    have z0' : ¬ ((1048576 : Int) - (sizConfig m0 : Int) < 0) := by omega
    have CS1 := dHide fun W (hb : Below w.heap.size w W) => szRegister_ _ m1 ((1048576 : Int) - (sizConfig m0 : Int)) (by omega) (by omega) W (dUnhide A1 W hb)
    rw [lft_no z1] at CS1
    clear z0 z1
    go_enter Try.func4, Try.ntmps4
    go_wp2_with fail
    have B := belowThen (ha w (.cells #[.slice v0a m0.1.length v0c, .int .i64 m0.2] 24)) (ha _ (.cells #[.slice v1a m1.eras.length v1c, .int .i64 m1.trim] 38))
    have X0 := dHide ((Sits.box w #[.slice v0a m0.1.length v0c, .int .i64 m0.2] 24).below (ha _ (.cells #[.slice v1a m1.eras.length v1c, .int .i64 m1.trim] 38)))
    have X1 := Sits.box (w.alloc (.cells #[.slice v0a m0.1.length v0c, .int .i64 m0.2] 24)) #[.slice v1a m1.eras.length v1c, .int .i64 m1.trim] 38
    have e1 : (w.alloc (.cells #[.slice v0a m0.1.length v0c, .int .i64 m0.2] 24)).heap.size = w.heap.size + 1 := by simp
    rw [e1] at X1
    replace X1 := dHide X1
    have sz0 : Hid (w.heap.size + 1 + 1 = ((w.alloc (.cells #[.slice v0a m0.1.length v0c, .int .i64 m0.2] 24)).alloc (.cells #[.slice v1a m1.eras.length v1c, .int .i64 m1.trim] 38)).heap.size) := by simp [Hid]
    clear e1
    generalize (w.alloc (.cells #[.slice v0a m0.1.length v0c, .int .i64 m0.2] 24)).alloc (.cells #[.slice v1a m1.eras.length v1c, .int .i64 m1.trim] 38) = wb at *
    refine (dUnhide CS0 _ B).mono ?_
    rintro e ws0 ⟨rfl, bs⟩
    have sz1 := dHide bs.size
    replace X0 := dHide ((dUnhide X0).below bs)
    replace X1 := dHide ((dUnhide X1).below bs)
    replace B := belowThen B bs
    clear bs CS0
    have k2 := (dUnhide X1).now 0 _ rfl
    have k3 := (dUnhide X1).now 1 _ rfl
    go_wp2_with fail
    refine (dUnhide CS1 _ B).mono ?_
    rintro e ws1 ⟨rfl, bs⟩
    have sz4 := dHide bs.size
    replace X0 := dHide ((dUnhide X0).below bs)
    replace X1 := dHide ((dUnhide X1).below bs)
    replace B := belowThen B bs
    clear bs CS1 k2 k3
    clear X0 X1
    go_wp2
    go_ret
    exact ⟨rfl, B⟩
  have hs0 : sizConfig m0 ≤ 1048576 := by omega
  have hs1 : sizRegister m1 ≤ 1048576 := by omega
  have hc0 := cntConfig_le hs0
  have hc1 := cntRegister_le hs1
  obtain ⟨R, s1, hR, p1, p2⟩ := bothFnExactRegPack m0 m1 ok0 ok1 hs0 hs1
  have CP := dHide p1
  have CI := dHide p2
  have CS0 := dHide fun W (hb : Below w.heap.size w W) => szConfig_ _ m0 (1048576 : Int) (by omega) (by omega) W (dUnhide A0 W hb)
  rw [lft_yes z0] at CS0
  have z0' : ¬ ((1048576 : Int) - (sizConfig m0 : Int) < 0) := by omega
  have CS1 := dHide fun W (hb : Below w.heap.size w W) => szRegister_ _ m1 ((1048576 : Int) - (sizConfig m0 : Int)) (by omega) (by omega) W (dUnhide A1 W hb)
  rw [lft_yes z1] at CS1
  have z1' : ¬ (((1048576 : Int) - (sizConfig m0 : Int)) - (sizRegister m1 : Int) < 0) := by omega
  clear p1 p2 r0 ok0 r1 ok1 
  go_enter Try.func4, Try.ntmps4
  go_wp2_with fail
  have B := belowThen (ha w (.cells #[.slice v0a m0.1.length v0c, .int .i64 m0.2] 24)) (ha _ (.cells #[.slice v1a m1.eras.length v1c, .int .i64 m1.trim] 38))
  have X0 := dHide ((Sits.box w #[.slice v0a m0.1.length v0c, .int .i64 m0.2] 24).below (ha _ (.cells #[.slice v1a m1.eras.length v1c, .int .i64 m1.trim] 38)))
  have X1 := Sits.box (w.alloc (.cells #[.slice v0a m0.1.length v0c, .int .i64 m0.2] 24)) #[.slice v1a m1.eras.length v1c, .int .i64 m1.trim] 38
  have e1 : (w.alloc (.cells #[.slice v0a m0.1.length v0c, .int .i64 m0.2] 24)).heap.size = w.heap.size + 1 := by simp
  rw [e1] at X1
  replace X1 := dHide X1
  have sz0 : Hid (w.heap.size + 1 + 1 = ((w.alloc (.cells #[.slice v0a m0.1.length v0c, .int .i64 m0.2] 24)).alloc (.cells #[.slice v1a m1.eras.length v1c, .int .i64 m1.trim] 38)).heap.size) := by simp [Hid]
  clear e1
  generalize (w.alloc (.cells #[.slice v0a m0.1.length v0c, .int .i64 m0.2] 24)).alloc (.cells #[.slice v1a m1.eras.length v1c, .int .i64 m1.trim] 38) = wb at *
  refine (dUnhide CS0 _ B).mono ?_
  rintro e ws0 ⟨rfl, bs⟩
  have sz1 := dHide bs.size
  replace X0 := dHide ((dUnhide X0).below bs)
  replace X1 := dHide ((dUnhide X1).below bs)
  replace B := belowThen B bs
  clear bs CS0
  have k2 := (dUnhide X1).now 0 _ rfl
  have k3 := (dUnhide X1).now 1 _ rfl
  go_wp2_with fail
  refine (dUnhide CS1 _ B).mono ?_
  rintro e ws1 ⟨rfl, bs⟩
  have sz4 := dHide bs.size
  replace X0 := dHide ((dUnhide X0).below bs)
  replace X1 := dHide ((dUnhide X1).below bs)
  replace B := belowThen B bs
  clear bs CS1 k2 k3
  have k5 := (dUnhide X0).now 0 _ rfl
  have k6 := (dUnhide X0).now 1 _ rfl
  have k7 := (dUnhide X1).now 0 _ rfl
  have k8 := (dUnhide X1).now 1 _ rfl
  have hbr := Below.refl ws1.heap.size ws1
  go_wp2_with fail
  go_cut [6, 7] (fun sv t1 wx => ∃ (sa : Option Addr) (sc lo hi : Nat), sv = .slice sa R.length sc ∧ t1 = .bool s1 ∧ Sits (OwByteS lo hi (.slice sa R.length sc) R) lo hi wx ∧ ws1.heap.size ≤ lo ∧ Below ws1.heap.size ws1 wx)
  case first =>
    go_region_held3 (fun W => W.cell? ⟨w.heap.size, 0, none⟩ = some (.slice v0a m0.1.length v0c) ∧ W.cell? ⟨w.heap.size, 1, none⟩ = some (.int .i64 m0.2) ∧ W.cell? ⟨w.heap.size + 1, 0, none⟩ = some (.slice v1a m1.eras.length v1c) ∧ W.cell? ⟨w.heap.size + 1, 1, none⟩ = some (.int .i64 m1.trim)) (go_keep)
      (first
        | (go_at_call 9; refine (toConfig_ _ m0 _ hs0 (dUnhide A0 _ (belowThen B hbr.drew))).mono ?_; rintro e wq0 ⟨o0, rfl, q0, b0⟩; have hb0 := belowThen hbr.drew b0; have k9 := ((dUnhide X0).at hb0) 0 _ rfl; have k10 := ((dUnhide X0).at hb0) 1 _ rfl; have k11 := ((dUnhide X1).at hb0) 0 _ rfl; have k12 := ((dUnhide X1).at hb0) 1 _ rfl; have Q0 := dHide q0; obtain ⟨o0a, o0c, rfl, o0l⟩ := formConfig q0.now.rd; clear q0)
        | (go_at_call 18; refine (toRegister_ _ m1 _ hs1 (dUnhide A1 _ (belowThen B hb0))).mono ?_; rintro e wq1 ⟨o1, rfl, q1, b1⟩; have hb1 := belowThen hb0 b1; have k13 := ((dUnhide X0).at hb1) 0 _ rfl; have k14 := ((dUnhide X0).at hb1) 1 _ rfl; have k15 := ((dUnhide X1).at hb1) 0 _ rfl; have k16 := ((dUnhide X1).at hb1) 1 _ rfl; replace Q0 := dHide ((dUnhide Q0).below b1); have Q1 := dHide q1; obtain ⟨o1a, o1c, rfl, o1l⟩ := formRegister q1.now.rd; clear q1)
        | (go_at_call 17; refine (dUnhide CP _ _ _ (dUnhide Q0).now.rd (dUnhide Q1).now.rd).mono ?_; rintro e w9 ⟨u9, rfl, q9, b9⟩; have hb9 := belowThen hb1 b9; have k17 := ((dUnhide X0).at hb9) 0 _ rfl; have k18 := ((dUnhide X0).at hb9) 1 _ rfl; have k19 := ((dUnhide X1).at hb9) 0 _ rfl; have k20 := ((dUnhide X1).at hb9) 1 _ rfl; have Q9 := dHide q9; obtain ⟨u9a, u9c, rfl, u9l⟩ := formByteS q9.now.rd; clear q9)
        | fail)
    all_goals
      go_wp2_with fail
      go_meet
      case rel => exact ⟨_, _, _, _, rfl, rfl, dUnhide Q9, hb1.size, hb9⟩
  case rest =>
    obtain ⟨uwa, uwc, louw, hiuw, rfl, rfl, OW, guw, bc⟩ := hcut
    clear hbr
    clear k5 k6 k7 k8
    have sz21 := dHide bc.size
    replace X0 := dHide ((dUnhide X0).below bc)
    replace X1 := dHide ((dUnhide X1).below bc)
    replace B := belowThen B bc
    have sz22 := dHide guw
    have sz23 := dHide OW.fit
    replace OW := dHide OW
    obtain ⟨-, -, -, uwl⟩ := formByteS (dUnhide OW).now.rd
    generalize wc = w3 at *
    clear bc guw
    clear CP
    have k24 := (dUnhide X0).now 0 _ rfl
    have k25 := (dUnhide X0).now 1 _ rfl
    have k26 := (dUnhide X0).now 0 _ rfl
    have k27 := (dUnhide X0).now 1 _ rfl
    go_wp2_with fail
    refine (toConfig_ _ m0 _ hs0 (dUnhide A0 _ B)).mono ?_
    rintro e w30 ⟨u29, rfl, T28, b31⟩
    clear k26 k27
    clear k24 k25
    have sz32 := dHide b31.size
    replace X0 := dHide ((dUnhide X0).below b31)
    replace X1 := dHide ((dUnhide X1).below b31)
    replace OW := dHide ((dUnhide OW).below b31)
    replace B := belowThen B b31
    replace T28 := dHide T28
    clear b31
    obtain ⟨u29a, u29c, rfl, u29l⟩ := formConfig (dUnhide T28).now.rd
    have X33 := Sits.box w30 #[.slice u29a m0.1.length u29c, .int .i64 m0.2] 29
    have ba := ha w30 (.cells #[.slice u29a m0.1.length u29c, .int .i64 m0.2] 29)
    have sz35 := dHide ba.size
    replace X0 := dHide ((dUnhide X0).below ba)
    replace X1 := dHide ((dUnhide X1).below ba)
    replace OW := dHide ((dUnhide OW).below ba)
    replace T28 := dHide ((dUnhide T28).below ba)
    replace B := belowThen B ba
    have sz36 : Hid (w30.heap.size + 1 = (w30.alloc (.cells #[.slice u29a m0.1.length u29c, .int .i64 m0.2] 29)).heap.size) := by simp [Hid]
    replace X33 := dHide X33
    clear ba
    have k37 := (dUnhide X1).now 0 _ rfl
    have k38 := (dUnhide X1).now 1 _ rfl
    go_wp2_with fail
    generalize hbx34 : w30.heap.size = bx34 at *
    generalize w30.alloc (.cells #[.slice u29a m0.1.length u29c, .int .i64 m0.2] 29) = w39 at *
    have sz40 := dHide hbx34
    clear hbx34
    have k41 := (dUnhide X1).now 0 _ rfl
    have k42 := (dUnhide X1).now 1 _ rfl
    refine (toRegister_ _ m1 _ hs1 (dUnhide A1 _ B)).mono ?_
    rintro e w45 ⟨u44, rfl, T43, b46⟩
    clear k41 k42
    clear k37 k38
    have sz47 := dHide b46.size
    replace X0 := dHide ((dUnhide X0).below b46)
    replace X1 := dHide ((dUnhide X1).below b46)
    replace OW := dHide ((dUnhide OW).below b46)
    replace T28 := dHide ((dUnhide T28).below b46)
    replace X33 := dHide ((dUnhide X33).below b46)
    replace B := belowThen B b46
    replace T43 := dHide T43
    clear b46
    obtain ⟨u44a, u44c, rfl, u44l⟩ := formRegister (dUnhide T43).now.rd
    have X48 := Sits.box w45 #[.slice u44a m1.eras.length u44c, .int .i64 m1.trim] 43
    have ba := ha w45 (.cells #[.slice u44a m1.eras.length u44c, .int .i64 m1.trim] 43)
    have sz50 := dHide ba.size
    replace X0 := dHide ((dUnhide X0).below ba)
    replace X1 := dHide ((dUnhide X1).below ba)
    replace OW := dHide ((dUnhide OW).below ba)
    replace T28 := dHide ((dUnhide T28).below ba)
    replace X33 := dHide ((dUnhide X33).below ba)
    replace T43 := dHide ((dUnhide T43).below ba)
    replace B := belowThen B ba
    have sz51 : Hid (w45.heap.size + 1 = (w45.alloc (.cells #[.slice u44a m1.eras.length u44c, .int .i64 m1.trim] 43)).heap.size) := by simp [Hid]
    replace X48 := dHide X48
    clear ba
    have k52 := (dUnhide X33).now 0 _ rfl
    have k53 := (dUnhide X33).now 1 _ rfl
    go_wp2_with fail
    generalize hbx49 : w45.heap.size = bx49 at *
    generalize w45.alloc (.cells #[.slice u44a m1.eras.length u44c, .int .i64 m1.trim] 43) = w54 at *
    have sz55 := dHide hbx49
    clear hbx49
    have k56 := (dUnhide X33).now 0 _ rfl
    have k57 := (dUnhide X33).now 1 _ rfl
    have k58 := (dUnhide X48).now 0 _ rfl
    have k59 := (dUnhide X48).now 1 _ rfl
    refine (dUnhide CI _ _ _ (dUnhide T28).now.rd (dUnhide T43).now.rd).mono ?_
    rintro e w60 ⟨ug, rfl, OG, b61⟩
    clear k56 k57 k58 k59
    clear k52 k53
    have sz62 := dHide b61.size
    replace X0 := dHide ((dUnhide X0).below b61)
    replace X1 := dHide ((dUnhide X1).below b61)
    replace OW := dHide ((dUnhide OW).below b61)
    replace T28 := dHide ((dUnhide T28).below b61)
    replace X33 := dHide ((dUnhide X33).below b61)
    replace T43 := dHide ((dUnhide T43).below b61)
    replace X48 := dHide ((dUnhide X48).below b61)
    replace B := belowThen B b61
    replace OG := dHide OG
    clear b61
    obtain ⟨uga, ugc, rfl, ugl⟩ := formByteS (dUnhide OG).now.rd
    go_wp2_with fail
    refine (eqByteS_ _ _ _ _ (dUnhide OG).now.rd (dUnhide OW).now.rd).mono ?_
    rintro e w63 ⟨rfl, b64⟩
    have sz65 := dHide b64.size
    replace X0 := dHide ((dUnhide X0).below b64)
    replace X1 := dHide ((dUnhide X1).below b64)
    replace OW := dHide ((dUnhide OW).below b64)
    replace T28 := dHide ((dUnhide T28).below b64)
    replace X33 := dHide ((dUnhide X33).below b64)
    replace T43 := dHide ((dUnhide T43).below b64)
    replace X48 := dHide ((dUnhide X48).below b64)
    replace OG := dHide ((dUnhide OG).below b64)
    replace B := belowThen B b64
    clear b64
    have k66 := (dUnhide X33).now 0 _ rfl
    have k67 := (dUnhide X33).now 1 _ rfl
    have k68 := (dUnhide X0).now 0 _ rfl
    have k69 := (dUnhide X0).now 1 _ rfl
    have hbr := Below.refl w63.heap.size w63
    go_wp2_with fail
    go_cut [58] (fun sv wx => sv = .bool false ∧ Below w63.heap.size w63 wx)
    case first =>
      go_region_held3 (fun W => W.cell? ⟨bx34, 0, none⟩ = some (.slice u29a m0.1.length u29c) ∧ W.cell? ⟨bx34, 1, none⟩ = some (.int .i64 m0.2) ∧ W.cell? ⟨w.heap.size, 0, none⟩ = some (.slice v0a m0.1.length v0c) ∧ W.cell? ⟨w.heap.size, 1, none⟩ = some (.int .i64 m0.2)) (go_keep)
        (first
          | (go_at_call 9; refine (toConfig_ _ m0 _ hs0 (dUnhide A0 _ (belowThen B hbr.drew))).mono ?_; rintro e w8 ⟨o8, rfl, q8, b8⟩; have hb8 := belowThen hbr.drew b8; have k70 := ((dUnhide X33).at hb8) 0 _ rfl; have k71 := ((dUnhide X33).at hb8) 1 _ rfl; have k72 := ((dUnhide X0).at hb8) 0 _ rfl; have k73 := ((dUnhide X0).at hb8) 1 _ rfl; have Q8 := dHide q8; obtain ⟨o8a, o8c, rfl, o8l⟩ := formConfig q8.now.rd; clear q8)
          | (go_at_call 12; refine (eqConfig_ _ _ _ _ ((dUnhide T28).at hb8).rd (dUnhide Q8).now.rd).mono ?_; rintro e w9 ⟨rfl, b9⟩; have hb9 := belowThen hb8 b9; have k74 := ((dUnhide X33).at hb9) 0 _ rfl; have k75 := ((dUnhide X33).at hb9) 1 _ rfl; have k76 := ((dUnhide X0).at hb9) 0 _ rfl; have k77 := ((dUnhide X0).at hb9) 1 _ rfl))
      all_goals
        go_wp2_with fail
        go_meet
        case rel => exact ⟨rfl, hb9⟩
    case rest =>
      obtain ⟨rfl, bc⟩ := hcut
      clear hbr
      clear k66 k67 k68 k69
      have sz78 := dHide bc.size
      replace X0 := dHide ((dUnhide X0).below bc)
      replace X1 := dHide ((dUnhide X1).below bc)
      replace OW := dHide ((dUnhide OW).below bc)
      replace T28 := dHide ((dUnhide T28).below bc)
      replace X33 := dHide ((dUnhide X33).below bc)
      replace T43 := dHide ((dUnhide T43).below bc)
      replace X48 := dHide ((dUnhide X48).below bc)
      replace OG := dHide ((dUnhide OG).below bc)
      replace B := belowThen B bc
      generalize wc = w79 at *
      clear bc
      have k80 := (dUnhide X48).now 0 _ rfl
      have k81 := (dUnhide X48).now 1 _ rfl
      have k82 := (dUnhide X1).now 0 _ rfl
      have k83 := (dUnhide X1).now 1 _ rfl
      have hbr := Below.refl w79.heap.size w79
      go_wp2_with fail
      go_cut [63] (fun sv wx => sv = .bool false ∧ Below w79.heap.size w79 wx)
      case first =>
        go_region_held3 (fun W => W.cell? ⟨bx49, 0, none⟩ = some (.slice u44a m1.eras.length u44c) ∧ W.cell? ⟨bx49, 1, none⟩ = some (.int .i64 m1.trim) ∧ W.cell? ⟨w.heap.size + 1, 0, none⟩ = some (.slice v1a m1.eras.length v1c) ∧ W.cell? ⟨w.heap.size + 1, 1, none⟩ = some (.int .i64 m1.trim)) (go_keep)
          (first
            | (go_at_call 18; refine (toRegister_ _ m1 _ hs1 (dUnhide A1 _ (belowThen B hbr.drew))).mono ?_; rintro e w8 ⟨o8, rfl, q8, b8⟩; have hb8 := belowThen hbr.drew b8; have k84 := ((dUnhide X48).at hb8) 0 _ rfl; have k85 := ((dUnhide X48).at hb8) 1 _ rfl; have k86 := ((dUnhide X1).at hb8) 0 _ rfl; have k87 := ((dUnhide X1).at hb8) 1 _ rfl; have Q8 := dHide q8; obtain ⟨o8a, o8c, rfl, o8l⟩ := formRegister q8.now.rd; clear q8)
            | (go_at_call 20; refine (eqRegister_ _ _ _ _ ((dUnhide T43).at hb8).rd (dUnhide Q8).now.rd).mono ?_; rintro e w9 ⟨rfl, b9⟩; have hb9 := belowThen hb8 b9; have k88 := ((dUnhide X48).at hb9) 0 _ rfl; have k89 := ((dUnhide X48).at hb9) 1 _ rfl; have k90 := ((dUnhide X1).at hb9) 0 _ rfl; have k91 := ((dUnhide X1).at hb9) 1 _ rfl))
        all_goals
          go_wp2_with fail
          go_meet
          case rel => exact ⟨rfl, hb9⟩
      case rest =>
        obtain ⟨rfl, bc⟩ := hcut
        clear hbr
        clear k80 k81 k82 k83
        have sz92 := dHide bc.size
        replace X0 := dHide ((dUnhide X0).below bc)
        replace X1 := dHide ((dUnhide X1).below bc)
        replace OW := dHide ((dUnhide OW).below bc)
        replace T28 := dHide ((dUnhide T28).below bc)
        replace X33 := dHide ((dUnhide X33).below bc)
        replace T43 := dHide ((dUnhide T43).below bc)
        replace X48 := dHide ((dUnhide X48).below bc)
        replace OG := dHide ((dUnhide OG).below bc)
        replace B := belowThen B bc
        generalize wc = w93 at *
        clear bc
        have k94 := (dUnhide X33).now 0 _ rfl
        have k95 := (dUnhide X33).now 1 _ rfl
        go_wp2_with fail
        refine (markConfig_ _ _ _ _ 1 _ (by omega) (by omega) (dUnhide T28)).mono ?_
        rintro e w96 ⟨rfl, M98, b97⟩
        clear k94 k95
        replace X0 := dHide ((dUnhide X0).wr b97 (by have := dUnhide sz0; have := dUnhide sz1; have := dUnhide sz4; have := dUnhide sz21; have := dUnhide sz22; have := dUnhide sz23; have := dUnhide sz32; have := dUnhide sz35; have := dUnhide sz36; have := dUnhide sz40; have := dUnhide sz47; have := dUnhide sz50; have := dUnhide sz51; have := dUnhide sz55; have := dUnhide sz62; have := dUnhide sz65; have := dUnhide sz78; have := dUnhide sz92; omega))
        replace X1 := dHide ((dUnhide X1).wr b97 (by have := dUnhide sz0; have := dUnhide sz1; have := dUnhide sz4; have := dUnhide sz21; have := dUnhide sz22; have := dUnhide sz23; have := dUnhide sz32; have := dUnhide sz35; have := dUnhide sz36; have := dUnhide sz40; have := dUnhide sz47; have := dUnhide sz50; have := dUnhide sz51; have := dUnhide sz55; have := dUnhide sz62; have := dUnhide sz65; have := dUnhide sz78; have := dUnhide sz92; omega))
        replace OW := dHide ((dUnhide OW).wr b97 (by have := dUnhide sz0; have := dUnhide sz1; have := dUnhide sz4; have := dUnhide sz21; have := dUnhide sz22; have := dUnhide sz23; have := dUnhide sz32; have := dUnhide sz35; have := dUnhide sz36; have := dUnhide sz40; have := dUnhide sz47; have := dUnhide sz50; have := dUnhide sz51; have := dUnhide sz55; have := dUnhide sz62; have := dUnhide sz65; have := dUnhide sz78; have := dUnhide sz92; omega))
        replace X33 := dHide ((dUnhide X33).wr b97 (by have := dUnhide sz0; have := dUnhide sz1; have := dUnhide sz4; have := dUnhide sz21; have := dUnhide sz22; have := dUnhide sz23; have := dUnhide sz32; have := dUnhide sz35; have := dUnhide sz36; have := dUnhide sz40; have := dUnhide sz47; have := dUnhide sz50; have := dUnhide sz51; have := dUnhide sz55; have := dUnhide sz62; have := dUnhide sz65; have := dUnhide sz78; have := dUnhide sz92; omega))
        replace T43 := dHide ((dUnhide T43).wr b97 (by have := dUnhide sz0; have := dUnhide sz1; have := dUnhide sz4; have := dUnhide sz21; have := dUnhide sz22; have := dUnhide sz23; have := dUnhide sz32; have := dUnhide sz35; have := dUnhide sz36; have := dUnhide sz40; have := dUnhide sz47; have := dUnhide sz50; have := dUnhide sz51; have := dUnhide sz55; have := dUnhide sz62; have := dUnhide sz65; have := dUnhide sz78; have := dUnhide sz92; omega))
        replace X48 := dHide ((dUnhide X48).wr b97 (by have := dUnhide sz0; have := dUnhide sz1; have := dUnhide sz4; have := dUnhide sz21; have := dUnhide sz22; have := dUnhide sz23; have := dUnhide sz32; have := dUnhide sz35; have := dUnhide sz36; have := dUnhide sz40; have := dUnhide sz47; have := dUnhide sz50; have := dUnhide sz51; have := dUnhide sz55; have := dUnhide sz62; have := dUnhide sz65; have := dUnhide sz78; have := dUnhide sz92; omega))
        replace OG := dHide ((dUnhide OG).wr b97 (by have := dUnhide sz0; have := dUnhide sz1; have := dUnhide sz4; have := dUnhide sz21; have := dUnhide sz22; have := dUnhide sz23; have := dUnhide sz32; have := dUnhide sz35; have := dUnhide sz36; have := dUnhide sz40; have := dUnhide sz47; have := dUnhide sz50; have := dUnhide sz51; have := dUnhide sz55; have := dUnhide sz62; have := dUnhide sz65; have := dUnhide sz78; have := dUnhide sz92; omega))
        replace B := b97.below B B.size (by have := dUnhide sz0; have := dUnhide sz1; have := dUnhide sz4; have := dUnhide sz21; have := dUnhide sz22; have := dUnhide sz23; have := dUnhide sz32; have := dUnhide sz35; have := dUnhide sz36; have := dUnhide sz40; have := dUnhide sz47; have := dUnhide sz50; have := dUnhide sz51; have := dUnhide sz55; have := dUnhide sz62; have := dUnhide sz65; have := dUnhide sz78; have := dUnhide sz92; omega)
        have sz99 := dHide b97.size
        replace M98 := dHide M98
        clear b97 T28
        have k100 := (dUnhide X48).now 0 _ rfl
        have k101 := (dUnhide X48).now 1 _ rfl
        go_wp2_with fail
        refine (markRegister_ _ _ _ _ (1 + cntConfig m0) _ (by omega) (by omega) (dUnhide T43)).mono ?_
        rintro e w102 ⟨rfl, M104, b103⟩
        clear k100 k101
        replace X0 := dHide ((dUnhide X0).wr b103 (by have := dUnhide sz0; have := dUnhide sz1; have := dUnhide sz4; have := dUnhide sz21; have := dUnhide sz22; have := dUnhide sz23; have := dUnhide sz32; have := dUnhide sz35; have := dUnhide sz36; have := dUnhide sz40; have := dUnhide sz47; have := dUnhide sz50; have := dUnhide sz51; have := dUnhide sz55; have := dUnhide sz62; have := dUnhide sz65; have := dUnhide sz78; have := dUnhide sz92; have := dUnhide sz99; omega))
        replace X1 := dHide ((dUnhide X1).wr b103 (by have := dUnhide sz0; have := dUnhide sz1; have := dUnhide sz4; have := dUnhide sz21; have := dUnhide sz22; have := dUnhide sz23; have := dUnhide sz32; have := dUnhide sz35; have := dUnhide sz36; have := dUnhide sz40; have := dUnhide sz47; have := dUnhide sz50; have := dUnhide sz51; have := dUnhide sz55; have := dUnhide sz62; have := dUnhide sz65; have := dUnhide sz78; have := dUnhide sz92; have := dUnhide sz99; omega))
        replace OW := dHide ((dUnhide OW).wr b103 (by have := dUnhide sz0; have := dUnhide sz1; have := dUnhide sz4; have := dUnhide sz21; have := dUnhide sz22; have := dUnhide sz23; have := dUnhide sz32; have := dUnhide sz35; have := dUnhide sz36; have := dUnhide sz40; have := dUnhide sz47; have := dUnhide sz50; have := dUnhide sz51; have := dUnhide sz55; have := dUnhide sz62; have := dUnhide sz65; have := dUnhide sz78; have := dUnhide sz92; have := dUnhide sz99; omega))
        replace X33 := dHide ((dUnhide X33).wr b103 (by have := dUnhide sz0; have := dUnhide sz1; have := dUnhide sz4; have := dUnhide sz21; have := dUnhide sz22; have := dUnhide sz23; have := dUnhide sz32; have := dUnhide sz35; have := dUnhide sz36; have := dUnhide sz40; have := dUnhide sz47; have := dUnhide sz50; have := dUnhide sz51; have := dUnhide sz55; have := dUnhide sz62; have := dUnhide sz65; have := dUnhide sz78; have := dUnhide sz92; have := dUnhide sz99; omega))
        replace X48 := dHide ((dUnhide X48).wr b103 (by have := dUnhide sz0; have := dUnhide sz1; have := dUnhide sz4; have := dUnhide sz21; have := dUnhide sz22; have := dUnhide sz23; have := dUnhide sz32; have := dUnhide sz35; have := dUnhide sz36; have := dUnhide sz40; have := dUnhide sz47; have := dUnhide sz50; have := dUnhide sz51; have := dUnhide sz55; have := dUnhide sz62; have := dUnhide sz65; have := dUnhide sz78; have := dUnhide sz92; have := dUnhide sz99; omega))
        replace OG := dHide ((dUnhide OG).wr b103 (by have := dUnhide sz0; have := dUnhide sz1; have := dUnhide sz4; have := dUnhide sz21; have := dUnhide sz22; have := dUnhide sz23; have := dUnhide sz32; have := dUnhide sz35; have := dUnhide sz36; have := dUnhide sz40; have := dUnhide sz47; have := dUnhide sz50; have := dUnhide sz51; have := dUnhide sz55; have := dUnhide sz62; have := dUnhide sz65; have := dUnhide sz78; have := dUnhide sz92; have := dUnhide sz99; omega))
        replace M98 := dHide ((dUnhide M98).wr b103 (by have := dUnhide sz0; have := dUnhide sz1; have := dUnhide sz4; have := dUnhide sz21; have := dUnhide sz22; have := dUnhide sz23; have := dUnhide sz32; have := dUnhide sz35; have := dUnhide sz36; have := dUnhide sz40; have := dUnhide sz47; have := dUnhide sz50; have := dUnhide sz51; have := dUnhide sz55; have := dUnhide sz62; have := dUnhide sz65; have := dUnhide sz78; have := dUnhide sz92; have := dUnhide sz99; omega))
        replace B := b103.below B B.size (by have := dUnhide sz0; have := dUnhide sz1; have := dUnhide sz4; have := dUnhide sz21; have := dUnhide sz22; have := dUnhide sz23; have := dUnhide sz32; have := dUnhide sz35; have := dUnhide sz36; have := dUnhide sz40; have := dUnhide sz47; have := dUnhide sz50; have := dUnhide sz51; have := dUnhide sz55; have := dUnhide sz62; have := dUnhide sz65; have := dUnhide sz78; have := dUnhide sz92; have := dUnhide sz99; omega)
        have sz105 := dHide b103.size
        replace M104 := dHide M104
        clear b103 T43
        clear M98 M104 X33 X48
        have hk : ¬ (((1 + cntConfig m0 + cntRegister m1 : Nat) : Int) < 0) := by omega
        go_wp2_with fail
        refine (eqByteS_ _ _ _ _ (dUnhide OG).now.rd (dUnhide OW).now.rd).mono ?_
        rintro e w106 ⟨rfl, b107⟩
        have sz108 := dHide b107.size
        replace X0 := dHide ((dUnhide X0).below b107)
        replace X1 := dHide ((dUnhide X1).below b107)
        replace OW := dHide ((dUnhide OW).below b107)
        replace OG := dHide ((dUnhide OG).below b107)
        replace B := belowThen B b107
        clear b107
        go_wp2_with fail
        refine (markByteS_ _ _ _ _ 1 _ (by omega) (by omega) (dUnhide OG)).mono ?_
        rintro e w109 ⟨rfl, M111, b110⟩
        replace X0 := dHide ((dUnhide X0).wr b110 (by have := dUnhide sz0; have := dUnhide sz1; have := dUnhide sz4; have := dUnhide sz21; have := dUnhide sz22; have := dUnhide sz23; have := dUnhide sz32; have := dUnhide sz35; have := dUnhide sz36; have := dUnhide sz40; have := dUnhide sz47; have := dUnhide sz50; have := dUnhide sz51; have := dUnhide sz55; have := dUnhide sz62; have := dUnhide sz65; have := dUnhide sz78; have := dUnhide sz92; have := dUnhide sz99; have := dUnhide sz105; have := dUnhide sz108; omega))
        replace X1 := dHide ((dUnhide X1).wr b110 (by have := dUnhide sz0; have := dUnhide sz1; have := dUnhide sz4; have := dUnhide sz21; have := dUnhide sz22; have := dUnhide sz23; have := dUnhide sz32; have := dUnhide sz35; have := dUnhide sz36; have := dUnhide sz40; have := dUnhide sz47; have := dUnhide sz50; have := dUnhide sz51; have := dUnhide sz55; have := dUnhide sz62; have := dUnhide sz65; have := dUnhide sz78; have := dUnhide sz92; have := dUnhide sz99; have := dUnhide sz105; have := dUnhide sz108; omega))
        replace OW := dHide ((dUnhide OW).wr b110 (by have := dUnhide sz0; have := dUnhide sz1; have := dUnhide sz4; have := dUnhide sz21; have := dUnhide sz22; have := dUnhide sz23; have := dUnhide sz32; have := dUnhide sz35; have := dUnhide sz36; have := dUnhide sz40; have := dUnhide sz47; have := dUnhide sz50; have := dUnhide sz51; have := dUnhide sz55; have := dUnhide sz62; have := dUnhide sz65; have := dUnhide sz78; have := dUnhide sz92; have := dUnhide sz99; have := dUnhide sz105; have := dUnhide sz108; omega))
        replace B := b110.below B B.size (by have := dUnhide sz0; have := dUnhide sz1; have := dUnhide sz4; have := dUnhide sz21; have := dUnhide sz22; have := dUnhide sz23; have := dUnhide sz32; have := dUnhide sz35; have := dUnhide sz36; have := dUnhide sz40; have := dUnhide sz47; have := dUnhide sz50; have := dUnhide sz51; have := dUnhide sz55; have := dUnhide sz62; have := dUnhide sz65; have := dUnhide sz78; have := dUnhide sz92; have := dUnhide sz99; have := dUnhide sz105; have := dUnhide sz108; omega)
        have sz112 := dHide b110.size
        replace M111 := dHide M111
        clear b110 OG
        go_wp2_with fail
        refine (heldByteS_ _ R 1 _ (by omega) (by omega) (dUnhide M111).now.rd).mono ?_
        rintro e w113 ⟨rfl, b114⟩
        have sz115 := dHide b114.size
        replace X0 := dHide ((dUnhide X0).below b114)
        replace X1 := dHide ((dUnhide X1).below b114)
        replace OW := dHide ((dUnhide OW).below b114)
        replace M111 := dHide ((dUnhide M111).below b114)
        replace B := belowThen B b114
        clear b114
        have hq : ¬ (((1 + cntByteS R : Nat) : Int) < 0) := by omega
        have k117 := (dUnhide X0).now 0 _ rfl
        have k118 := (dUnhide X0).now 1 _ rfl
        have k119 := (dUnhide X1).now 0 _ rfl
        have k120 := (dUnhide X1).now 1 _ rfl
        have hbr := Below.refl w113.heap.size w113
        go_wp2_with fail
        go_cut [15, 16] (fun sv t1 wx => ∃ (sa : Option Addr) (sc lo hi : Nat), sv = .slice sa R.length sc ∧ t1 = .bool s1 ∧ Sits (OwByteS lo hi (.slice sa R.length sc) R) lo hi wx ∧ w113.heap.size ≤ lo ∧ Below w113.heap.size w113 wx)
        case first =>
          go_region_held3 (fun W => W.cell? ⟨w.heap.size, 0, none⟩ = some (.slice v0a m0.1.length v0c) ∧ W.cell? ⟨w.heap.size, 1, none⟩ = some (.int .i64 m0.2) ∧ W.cell? ⟨w.heap.size + 1, 0, none⟩ = some (.slice v1a m1.eras.length v1c) ∧ W.cell? ⟨w.heap.size + 1, 1, none⟩ = some (.int .i64 m1.trim)) (go_keep)
            (first
              | (go_at_call 9; refine (toConfig_ _ m0 _ hs0 (dUnhide A0 _ (belowThen B hbr.drew))).mono ?_; rintro e wq0 ⟨o0, rfl, q0, b0⟩; have hb0 := belowThen hbr.drew b0; have k121 := ((dUnhide X0).at hb0) 0 _ rfl; have k122 := ((dUnhide X0).at hb0) 1 _ rfl; have k123 := ((dUnhide X1).at hb0) 0 _ rfl; have k124 := ((dUnhide X1).at hb0) 1 _ rfl; have Q0 := dHide q0; obtain ⟨o0a, o0c, rfl, o0l⟩ := formConfig q0.now.rd; clear q0)
              | (go_at_call 18; refine (toRegister_ _ m1 _ hs1 (dUnhide A1 _ (belowThen B hb0))).mono ?_; rintro e wq1 ⟨o1, rfl, q1, b1⟩; have hb1 := belowThen hb0 b1; have k125 := ((dUnhide X0).at hb1) 0 _ rfl; have k126 := ((dUnhide X0).at hb1) 1 _ rfl; have k127 := ((dUnhide X1).at hb1) 0 _ rfl; have k128 := ((dUnhide X1).at hb1) 1 _ rfl; replace Q0 := dHide ((dUnhide Q0).below b1); have Q1 := dHide q1; obtain ⟨o1a, o1c, rfl, o1l⟩ := formRegister q1.now.rd; clear q1)
              | (go_at_call 19; refine (dUnhide CI _ _ _ (dUnhide Q0).now.rd (dUnhide Q1).now.rd).mono ?_; rintro e w9 ⟨u9, rfl, q9, b9⟩; have hb9 := belowThen hb1 b9; have k129 := ((dUnhide X0).at hb9) 0 _ rfl; have k130 := ((dUnhide X0).at hb9) 1 _ rfl; have k131 := ((dUnhide X1).at hb9) 0 _ rfl; have k132 := ((dUnhide X1).at hb9) 1 _ rfl; have Q9 := dHide q9; obtain ⟨u9a, u9c, rfl, u9l⟩ := formByteS q9.now.rd; clear q9)
              | fail)
          all_goals
            go_wp2_with fail
            go_meet
            case rel => exact ⟨_, _, _, _, rfl, rfl, dUnhide Q9, hb1.size, hb9⟩
        case rest =>
          obtain ⟨uha, uhc, louh, hiuh, rfl, rfl, OH, guh, bc⟩ := hcut
          clear hbr
          clear k117 k118 k119 k120
          have sz133 := dHide bc.size
          replace X0 := dHide ((dUnhide X0).below bc)
          replace X1 := dHide ((dUnhide X1).below bc)
          replace OW := dHide ((dUnhide OW).below bc)
          replace M111 := dHide ((dUnhide M111).below bc)
          replace B := belowThen B bc
          have sz134 := dHide guh
          have sz135 := dHide OH.fit
          replace OH := dHide OH
          obtain ⟨-, -, -, uhl⟩ := formByteS (dUnhide OH).now.rd
          generalize wc = w116 at *
          clear bc guh
          go_wp2_with fail
          refine (eqByteS_ _ _ _ _ (dUnhide OH).now.rd (dUnhide OW).now.rd).mono ?_
          rintro e w136 ⟨rfl, b137⟩
          have sz138 := dHide b137.size
          replace X0 := dHide ((dUnhide X0).below b137)
          replace X1 := dHide ((dUnhide X1).below b137)
          replace OW := dHide ((dUnhide OW).below b137)
          replace M111 := dHide ((dUnhide M111).below b137)
          replace OH := dHide ((dUnhide OH).below b137)
          replace B := belowThen B b137
          clear b137
          go_wp2_with fail
          refine (heldByteS_ _ R 1 _ (by omega) (by omega) (dUnhide M111).now.rd).mono ?_
          rintro e w139 ⟨rfl, b140⟩
          have sz141 := dHide b140.size
          replace X0 := dHide ((dUnhide X0).below b140)
          replace X1 := dHide ((dUnhide X1).below b140)
          replace OW := dHide ((dUnhide OW).below b140)
          replace M111 := dHide ((dUnhide M111).below b140)
          replace OH := dHide ((dUnhide OH).below b140)
          replace B := belowThen B b140
          clear b140
          clear X0 X1 OW M111 OH
          go_wp2
          go_ret
          exact ⟨rfl, B⟩
end Go.Proofs.Ytioocibgfhgkhaa
