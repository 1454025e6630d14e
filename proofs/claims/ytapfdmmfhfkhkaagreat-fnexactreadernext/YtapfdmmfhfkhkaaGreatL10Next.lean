/- FnExactReaderNext: both answers, and the law's walk (printed by tools/mkl10.py). -/
import Derived.Test.YtapfdmmfhfkhkaaGreatGn2
import Derived.Test.YtapfdmmfhfkhkaaGreatSitU
import Derived.Test.YtapfdmmfhfkhkaaGreatBoxQ
import Derived.Deep.RegionHeld3
import Derived.Deep.DeepCutAuto
namespace Go.Proofs.YtapfdmmfhfkhkaaGreat
open Go.ChangeShapes Go.WideShapes Go.ChangeAt Go.RowKit
set_option linter.unusedVariables false
theorem bothFnExactReaderNext (m0 : List Int × Int) (m1 : Rg) (m2 : Int) (m3 : Rr) (m4 : List Aw) (ok0 : okConfig m0) (ok1 : okRegister m1) (ok2 : okInt m2) (ok3 : okReader m3) (ok4 : okAnswerS m4) (hs0 : sizConfig m0 ≤ 1048576) (hs1 : sizRegister m1 ≤ 1048576) (hs3 : sizReader m3 ≤ 1048576) (hs4 : sizAnswerS m4 ≤ 1048576) : ∃ (R : Rr) (s1 : Int), cntReader R ≤ 8388608 ∧ (∀ W v0 v1 v3 v4, RdConfig v0 m0 W → RdRegister v1 m1 W → RdReader v3 m3 W → RdAnswerS v4 m4 W → Calls Tryz.prog 30 #[v0, v1, .int .i64 m2, v3, v4] W fun e w' => ∃ u, e = .returned (.tuple #[u, .int .i64 s1]) ∧ Sits (OwReader W.heap.size w'.heap.size u R) W.heap.size w'.heap.size w' ∧ Below W.heap.size W w') ∧ (∀ W v0 v1 v3 v4, RdConfig v0 m0 W → RdRegister v1 m1 W → RdReader v3 m3 W → RdAnswerS v4 m4 W → Calls Tryz.prog 29 #[v0, v1, .int .i64 m2, v3, v4] W fun e w' => ∃ u, e = .returned (.tuple #[u, .int .i64 s1]) ∧ Sits (OwReader W.heap.size w'.heap.size u R) W.heap.size w'.heap.size w' ∧ Below W.heap.size W w') := bothReaderNext_ m0 m1 m2 m3 m4 ok0 ok1 ok2 ok3 ok4 hs0 hs1 hs3 hs4
set_option maxHeartbeats 4000000 in
set_option maxRecDepth 100000 in
theorem walkFnExactReaderNext (v0 v1 v2 v3 v4 : Value) (m0 : List Int × Int) (m1 : Rg) (m2 : Int) (m3 : Rr) (m4 : List Aw) (w : World) (i0 : IsConfig v0 m0 w) (i1 : IsRegister v1 m1 w) (i2 : IsInt v2 m2 w) (i3 : IsReader v3 m3 w) (i4 : IsAnswerS v4 m4 w) :
    Calls Tryz.prog 8 #[v0, v1, v2, v3, v4] w fun r w' => r = .returned (.bool true) ∧ Below w.heap.size w w' := by
  obtain ⟨rfl, ok2⟩ := i2
  obtain ⟨r0, ok0⟩ := i0
  obtain ⟨r1, ok1⟩ := i1
  obtain ⟨r3, ok3⟩ := i3
  obtain ⟨r4, ok4⟩ := i4
  have ha : ∀ (w : World) o, Below w.heap.size w (w.alloc o) := fun w o => (Below.refl _ _).alloc (Nat.le_refl _) o
  have A0 := dHide fun W (hb : Below w.heap.size w W) => r0.below hb
  have A1 := dHide fun W (hb : Below w.heap.size w W) => r1.below hb
  have A3 := dHide fun W (hb : Below w.heap.size w W) => r3.below hb
  have A4 := dHide fun W (hb : Below w.heap.size w W) => r4.below hb
  obtain ⟨v0a, v0c, rfl, v0l⟩ := formConfig r0
  obtain ⟨v1a, v1c, rfl, v1l⟩ := formRegister r1
  obtain ⟨v3a, v3c, rfl, v3l⟩ := formReader r3
  obtain ⟨v4a, v4c, rfl, v4l⟩ := formAnswerS r4
  by_cases z0 : (1048576 : Int) < (sizConfig m0 : Int)
  · have CS0 := dHide fun W (hb : Below w.heap.size w W) => szConfig_ _ m0 (1048576 : Int) (by omega) (by omega) W (dUnhide A0 W hb)
    rw [lft_no z0] at CS0
    clear z0
    go_enter Tryz.func8, Tryz.ntmps8
    go_wp2_with fail
    have B := belowThen (belowThen (ha w (.cells #[.slice v0a m0.1.length v0c, .int .i64 m0.2] 70)) (ha _ (.cells #[.slice v1a m1.eras.length v1c, .int .i64 m1.trim] 73))) (ha _ (.cells #[.int .i64 m3.epoch, .int .i64 m3.off, .slice v3a m3.out.length v3c] 76))
    have X0 := dHide ((Sits.box w #[.slice v0a m0.1.length v0c, .int .i64 m0.2] 70).below (belowThen (ha _ (.cells #[.slice v1a m1.eras.length v1c, .int .i64 m1.trim] 73)) (ha _ (.cells #[.int .i64 m3.epoch, .int .i64 m3.off, .slice v3a m3.out.length v3c] 76))))
    have X1 := (Sits.box (w.alloc (.cells #[.slice v0a m0.1.length v0c, .int .i64 m0.2] 70)) #[.slice v1a m1.eras.length v1c, .int .i64 m1.trim] 73).below (ha _ (.cells #[.int .i64 m3.epoch, .int .i64 m3.off, .slice v3a m3.out.length v3c] 76))
    have X2 := Sits.box ((w.alloc (.cells #[.slice v0a m0.1.length v0c, .int .i64 m0.2] 70)).alloc (.cells #[.slice v1a m1.eras.length v1c, .int .i64 m1.trim] 73)) #[.int .i64 m3.epoch, .int .i64 m3.off, .slice v3a m3.out.length v3c] 76
    have e1 : (w.alloc (.cells #[.slice v0a m0.1.length v0c, .int .i64 m0.2] 70)).heap.size = w.heap.size + 1 := by simp
    have e2 : ((w.alloc (.cells #[.slice v0a m0.1.length v0c, .int .i64 m0.2] 70)).alloc (.cells #[.slice v1a m1.eras.length v1c, .int .i64 m1.trim] 73)).heap.size = w.heap.size + 1 + 1 := by simp
    rw [e1] at X1
    rw [e2] at X2
    replace X1 := dHide X1
    replace X2 := dHide X2
    have sz0 : Hid (w.heap.size + 1 + 1 + 1 = (((w.alloc (.cells #[.slice v0a m0.1.length v0c, .int .i64 m0.2] 70)).alloc (.cells #[.slice v1a m1.eras.length v1c, .int .i64 m1.trim] 73)).alloc (.cells #[.int .i64 m3.epoch, .int .i64 m3.off, .slice v3a m3.out.length v3c] 76)).heap.size) := by simp [Hid]
    clear e1 e2
    generalize (((w.alloc (.cells #[.slice v0a m0.1.length v0c, .int .i64 m0.2] 70)).alloc (.cells #[.slice v1a m1.eras.length v1c, .int .i64 m1.trim] 73)).alloc (.cells #[.int .i64 m3.epoch, .int .i64 m3.off, .slice v3a m3.out.length v3c] 76)) = wb at *
    refine (dUnhide CS0 _ B).mono ?_
    rintro e ws0 ⟨rfl, bs⟩
    have sz1 := dHide bs.size
    replace X0 := dHide ((dUnhide X0).below bs)
    replace X1 := dHide ((dUnhide X1).below bs)
    replace X2 := dHide ((dUnhide X2).below bs)
    replace B := belowThen B bs
    clear bs CS0
    clear X0 X1 X2
    go_wp2
    go_ret
    exact ⟨rfl, B⟩
  by_cases z1 : ((1048576 : Int) - (sizConfig m0 : Int)) < (sizRegister m1 : Int)
  · have CS0 := dHide fun W (hb : Below w.heap.size w W) => szConfig_ _ m0 (1048576 : Int) (by omega) (by omega) W (dUnhide A0 W hb)
    rw [lft_yes z0] at CS0
    have z0' : ¬ ((1048576 : Int) - (sizConfig m0 : Int) < 0) := by omega
    have CS1 := dHide fun W (hb : Below w.heap.size w W) => szRegister_ _ m1 ((1048576 : Int) - (sizConfig m0 : Int)) (by omega) (by omega) W (dUnhide A1 W hb)
    rw [lft_no z1] at CS1
    clear z0 z1
    go_enter Tryz.func8, Tryz.ntmps8
    go_wp2_with fail
    have B := belowThen (belowThen (ha w (.cells #[.slice v0a m0.1.length v0c, .int .i64 m0.2] 70)) (ha _ (.cells #[.slice v1a m1.eras.length v1c, .int .i64 m1.trim] 73))) (ha _ (.cells #[.int .i64 m3.epoch, .int .i64 m3.off, .slice v3a m3.out.length v3c] 76))
    have X0 := dHide ((Sits.box w #[.slice v0a m0.1.length v0c, .int .i64 m0.2] 70).below (belowThen (ha _ (.cells #[.slice v1a m1.eras.length v1c, .int .i64 m1.trim] 73)) (ha _ (.cells #[.int .i64 m3.epoch, .int .i64 m3.off, .slice v3a m3.out.length v3c] 76))))
    have X1 := (Sits.box (w.alloc (.cells #[.slice v0a m0.1.length v0c, .int .i64 m0.2] 70)) #[.slice v1a m1.eras.length v1c, .int .i64 m1.trim] 73).below (ha _ (.cells #[.int .i64 m3.epoch, .int .i64 m3.off, .slice v3a m3.out.length v3c] 76))
    have X2 := Sits.box ((w.alloc (.cells #[.slice v0a m0.1.length v0c, .int .i64 m0.2] 70)).alloc (.cells #[.slice v1a m1.eras.length v1c, .int .i64 m1.trim] 73)) #[.int .i64 m3.epoch, .int .i64 m3.off, .slice v3a m3.out.length v3c] 76
    have e1 : (w.alloc (.cells #[.slice v0a m0.1.length v0c, .int .i64 m0.2] 70)).heap.size = w.heap.size + 1 := by simp
    have e2 : ((w.alloc (.cells #[.slice v0a m0.1.length v0c, .int .i64 m0.2] 70)).alloc (.cells #[.slice v1a m1.eras.length v1c, .int .i64 m1.trim] 73)).heap.size = w.heap.size + 1 + 1 := by simp
    rw [e1] at X1
    rw [e2] at X2
    replace X1 := dHide X1
    replace X2 := dHide X2
    have sz0 : Hid (w.heap.size + 1 + 1 + 1 = (((w.alloc (.cells #[.slice v0a m0.1.length v0c, .int .i64 m0.2] 70)).alloc (.cells #[.slice v1a m1.eras.length v1c, .int .i64 m1.trim] 73)).alloc (.cells #[.int .i64 m3.epoch, .int .i64 m3.off, .slice v3a m3.out.length v3c] 76)).heap.size) := by simp [Hid]
    clear e1 e2
    generalize (((w.alloc (.cells #[.slice v0a m0.1.length v0c, .int .i64 m0.2] 70)).alloc (.cells #[.slice v1a m1.eras.length v1c, .int .i64 m1.trim] 73)).alloc (.cells #[.int .i64 m3.epoch, .int .i64 m3.off, .slice v3a m3.out.length v3c] 76)) = wb at *
    refine (dUnhide CS0 _ B).mono ?_
    rintro e ws0 ⟨rfl, bs⟩
    have sz1 := dHide bs.size
    replace X0 := dHide ((dUnhide X0).below bs)
    replace X1 := dHide ((dUnhide X1).below bs)
    replace X2 := dHide ((dUnhide X2).below bs)
    replace B := belowThen B bs
    clear bs CS0
    have k2 := (dUnhide X1).now 0 _ rfl
    have k3 := (dUnhide X1).now 1 _ rfl
    go_wp2_with fail
    refine (dUnhide CS1 _ B).mono ?_
    rintro e ws1 ⟨rfl, bs⟩
    have sz4 := dHide bs.size
    replace X0 := dHide ((dUnhide X0).below bs)
    replace X1 := dHide ((dUnhide X1).below bs)
    replace X2 := dHide ((dUnhide X2).below bs)
    replace B := belowThen B bs
    clear bs CS1 k2 k3
    clear X0 X1 X2
    go_wp2
    go_ret
    exact ⟨rfl, B⟩
  by_cases z3 : ((1048576 : Int) - (sizConfig m0 : Int) - (sizRegister m1 : Int)) < (sizReader m3 : Int)
  · have CS0 := dHide fun W (hb : Below w.heap.size w W) => szConfig_ _ m0 (1048576 : Int) (by omega) (by omega) W (dUnhide A0 W hb)
    rw [lft_yes z0] at CS0
    have z0' : ¬ ((1048576 : Int) - (sizConfig m0 : Int) < 0) := by omega
    have CS1 := dHide fun W (hb : Below w.heap.size w W) => szRegister_ _ m1 ((1048576 : Int) - (sizConfig m0 : Int)) (by omega) (by omega) W (dUnhide A1 W hb)
    rw [lft_yes z1] at CS1
    have z1' : ¬ (((1048576 : Int) - (sizConfig m0 : Int)) - (sizRegister m1 : Int) < 0) := by omega
    have CS2 := dHide fun W (hb : Below w.heap.size w W) => szReader_ _ m3 ((1048576 : Int) - (sizConfig m0 : Int) - (sizRegister m1 : Int)) (by omega) (by omega) (txtR_of ok3) W (dUnhide A3 W hb)
    rw [lft_no z3] at CS2
    clear z0 z1 z3
    go_enter Tryz.func8, Tryz.ntmps8
    go_wp2_with fail
    have B := belowThen (belowThen (ha w (.cells #[.slice v0a m0.1.length v0c, .int .i64 m0.2] 70)) (ha _ (.cells #[.slice v1a m1.eras.length v1c, .int .i64 m1.trim] 73))) (ha _ (.cells #[.int .i64 m3.epoch, .int .i64 m3.off, .slice v3a m3.out.length v3c] 76))
    have X0 := dHide ((Sits.box w #[.slice v0a m0.1.length v0c, .int .i64 m0.2] 70).below (belowThen (ha _ (.cells #[.slice v1a m1.eras.length v1c, .int .i64 m1.trim] 73)) (ha _ (.cells #[.int .i64 m3.epoch, .int .i64 m3.off, .slice v3a m3.out.length v3c] 76))))
    have X1 := (Sits.box (w.alloc (.cells #[.slice v0a m0.1.length v0c, .int .i64 m0.2] 70)) #[.slice v1a m1.eras.length v1c, .int .i64 m1.trim] 73).below (ha _ (.cells #[.int .i64 m3.epoch, .int .i64 m3.off, .slice v3a m3.out.length v3c] 76))
    have X2 := Sits.box ((w.alloc (.cells #[.slice v0a m0.1.length v0c, .int .i64 m0.2] 70)).alloc (.cells #[.slice v1a m1.eras.length v1c, .int .i64 m1.trim] 73)) #[.int .i64 m3.epoch, .int .i64 m3.off, .slice v3a m3.out.length v3c] 76
    have e1 : (w.alloc (.cells #[.slice v0a m0.1.length v0c, .int .i64 m0.2] 70)).heap.size = w.heap.size + 1 := by simp
    have e2 : ((w.alloc (.cells #[.slice v0a m0.1.length v0c, .int .i64 m0.2] 70)).alloc (.cells #[.slice v1a m1.eras.length v1c, .int .i64 m1.trim] 73)).heap.size = w.heap.size + 1 + 1 := by simp
    rw [e1] at X1
    rw [e2] at X2
    replace X1 := dHide X1
    replace X2 := dHide X2
    have sz0 : Hid (w.heap.size + 1 + 1 + 1 = (((w.alloc (.cells #[.slice v0a m0.1.length v0c, .int .i64 m0.2] 70)).alloc (.cells #[.slice v1a m1.eras.length v1c, .int .i64 m1.trim] 73)).alloc (.cells #[.int .i64 m3.epoch, .int .i64 m3.off, .slice v3a m3.out.length v3c] 76)).heap.size) := by simp [Hid]
    clear e1 e2
    generalize (((w.alloc (.cells #[.slice v0a m0.1.length v0c, .int .i64 m0.2] 70)).alloc (.cells #[.slice v1a m1.eras.length v1c, .int .i64 m1.trim] 73)).alloc (.cells #[.int .i64 m3.epoch, .int .i64 m3.off, .slice v3a m3.out.length v3c] 76)) = wb at *
    refine (dUnhide CS0 _ B).mono ?_
    rintro e ws0 ⟨rfl, bs⟩
    have sz1 := dHide bs.size
    replace X0 := dHide ((dUnhide X0).below bs)
    replace X1 := dHide ((dUnhide X1).below bs)
    replace X2 := dHide ((dUnhide X2).below bs)
    replace B := belowThen B bs
    clear bs CS0
    have k2 := (dUnhide X1).now 0 _ rfl
    have k3 := (dUnhide X1).now 1 _ rfl
    go_wp2_with fail
    refine (dUnhide CS1 _ B).mono ?_
    rintro e ws1 ⟨rfl, bs⟩
    have sz4 := dHide bs.size
    replace X0 := dHide ((dUnhide X0).below bs)
    replace X1 := dHide ((dUnhide X1).below bs)
    replace X2 := dHide ((dUnhide X2).below bs)
    replace B := belowThen B bs
    clear bs CS1 k2 k3
    have k5 := (dUnhide X2).now 0 _ rfl
    have k6 := (dUnhide X2).now 1 _ rfl
    have k7 := (dUnhide X2).now 2 _ rfl
    go_wp2_with fail
    refine (dUnhide CS2 _ B).mono ?_
    rintro e ws2 ⟨rfl, bs⟩
    have sz8 := dHide bs.size
    replace X0 := dHide ((dUnhide X0).below bs)
    replace X1 := dHide ((dUnhide X1).below bs)
    replace X2 := dHide ((dUnhide X2).below bs)
    replace B := belowThen B bs
    clear bs CS2 k5 k6 k7
    clear X0 X1 X2
    go_wp2
    go_ret
    exact ⟨rfl, B⟩
  by_cases z4 : ((1048576 : Int) - (sizConfig m0 : Int) - (sizRegister m1 : Int) - (sizReader m3 : Int)) < (sizAnswerS m4 : Int)
  · have CS0 := dHide fun W (hb : Below w.heap.size w W) => szConfig_ _ m0 (1048576 : Int) (by omega) (by omega) W (dUnhide A0 W hb)
    rw [lft_yes z0] at CS0
    have z0' : ¬ ((1048576 : Int) - (sizConfig m0 : Int) < 0) := by omega
    have CS1 := dHide fun W (hb : Below w.heap.size w W) => szRegister_ _ m1 ((1048576 : Int) - (sizConfig m0 : Int)) (by omega) (by omega) W (dUnhide A1 W hb)
    rw [lft_yes z1] at CS1
    have z1' : ¬ (((1048576 : Int) - (sizConfig m0 : Int)) - (sizRegister m1 : Int) < 0) := by omega
    have CS2 := dHide fun W (hb : Below w.heap.size w W) => szReader_ _ m3 ((1048576 : Int) - (sizConfig m0 : Int) - (sizRegister m1 : Int)) (by omega) (by omega) (txtR_of ok3) W (dUnhide A3 W hb)
    rw [lft_yes z3] at CS2
    have z3' : ¬ (((1048576 : Int) - (sizConfig m0 : Int) - (sizRegister m1 : Int)) - (sizReader m3 : Int) < 0) := by omega
    have CS3 := dHide fun W (hb : Below w.heap.size w W) => szAnswerS_ _ m4 ((1048576 : Int) - (sizConfig m0 : Int) - (sizRegister m1 : Int) - (sizReader m3 : Int)) (by omega) (by omega) (txtA_of ok4) W (dUnhide A4 W hb)
    rw [lft_no z4] at CS3
    clear z0 z1 z3 z4
    go_enter Tryz.func8, Tryz.ntmps8
    go_wp2_with fail
    have B := belowThen (belowThen (ha w (.cells #[.slice v0a m0.1.length v0c, .int .i64 m0.2] 70)) (ha _ (.cells #[.slice v1a m1.eras.length v1c, .int .i64 m1.trim] 73))) (ha _ (.cells #[.int .i64 m3.epoch, .int .i64 m3.off, .slice v3a m3.out.length v3c] 76))
    have X0 := dHide ((Sits.box w #[.slice v0a m0.1.length v0c, .int .i64 m0.2] 70).below (belowThen (ha _ (.cells #[.slice v1a m1.eras.length v1c, .int .i64 m1.trim] 73)) (ha _ (.cells #[.int .i64 m3.epoch, .int .i64 m3.off, .slice v3a m3.out.length v3c] 76))))
    have X1 := (Sits.box (w.alloc (.cells #[.slice v0a m0.1.length v0c, .int .i64 m0.2] 70)) #[.slice v1a m1.eras.length v1c, .int .i64 m1.trim] 73).below (ha _ (.cells #[.int .i64 m3.epoch, .int .i64 m3.off, .slice v3a m3.out.length v3c] 76))
    have X2 := Sits.box ((w.alloc (.cells #[.slice v0a m0.1.length v0c, .int .i64 m0.2] 70)).alloc (.cells #[.slice v1a m1.eras.length v1c, .int .i64 m1.trim] 73)) #[.int .i64 m3.epoch, .int .i64 m3.off, .slice v3a m3.out.length v3c] 76
    have e1 : (w.alloc (.cells #[.slice v0a m0.1.length v0c, .int .i64 m0.2] 70)).heap.size = w.heap.size + 1 := by simp
    have e2 : ((w.alloc (.cells #[.slice v0a m0.1.length v0c, .int .i64 m0.2] 70)).alloc (.cells #[.slice v1a m1.eras.length v1c, .int .i64 m1.trim] 73)).heap.size = w.heap.size + 1 + 1 := by simp
    rw [e1] at X1
    rw [e2] at X2
    replace X1 := dHide X1
    replace X2 := dHide X2
    have sz0 : Hid (w.heap.size + 1 + 1 + 1 = (((w.alloc (.cells #[.slice v0a m0.1.length v0c, .int .i64 m0.2] 70)).alloc (.cells #[.slice v1a m1.eras.length v1c, .int .i64 m1.trim] 73)).alloc (.cells #[.int .i64 m3.epoch, .int .i64 m3.off, .slice v3a m3.out.length v3c] 76)).heap.size) := by simp [Hid]
    clear e1 e2
    generalize (((w.alloc (.cells #[.slice v0a m0.1.length v0c, .int .i64 m0.2] 70)).alloc (.cells #[.slice v1a m1.eras.length v1c, .int .i64 m1.trim] 73)).alloc (.cells #[.int .i64 m3.epoch, .int .i64 m3.off, .slice v3a m3.out.length v3c] 76)) = wb at *
    refine (dUnhide CS0 _ B).mono ?_
    rintro e ws0 ⟨rfl, bs⟩
    have sz1 := dHide bs.size
    replace X0 := dHide ((dUnhide X0).below bs)
    replace X1 := dHide ((dUnhide X1).below bs)
    replace X2 := dHide ((dUnhide X2).below bs)
    replace B := belowThen B bs
    clear bs CS0
    have k2 := (dUnhide X1).now 0 _ rfl
    have k3 := (dUnhide X1).now 1 _ rfl
    go_wp2_with fail
    refine (dUnhide CS1 _ B).mono ?_
    rintro e ws1 ⟨rfl, bs⟩
    have sz4 := dHide bs.size
    replace X0 := dHide ((dUnhide X0).below bs)
    replace X1 := dHide ((dUnhide X1).below bs)
    replace X2 := dHide ((dUnhide X2).below bs)
    replace B := belowThen B bs
    clear bs CS1 k2 k3
    have k5 := (dUnhide X2).now 0 _ rfl
    have k6 := (dUnhide X2).now 1 _ rfl
    have k7 := (dUnhide X2).now 2 _ rfl
    go_wp2_with fail
    refine (dUnhide CS2 _ B).mono ?_
    rintro e ws2 ⟨rfl, bs⟩
    have sz8 := dHide bs.size
    replace X0 := dHide ((dUnhide X0).below bs)
    replace X1 := dHide ((dUnhide X1).below bs)
    replace X2 := dHide ((dUnhide X2).below bs)
    replace B := belowThen B bs
    clear bs CS2 k5 k6 k7
    go_wp2_with fail
    refine (dUnhide CS3 _ B).mono ?_
    rintro e ws3 ⟨rfl, bs⟩
    have sz9 := dHide bs.size
    replace X0 := dHide ((dUnhide X0).below bs)
    replace X1 := dHide ((dUnhide X1).below bs)
    replace X2 := dHide ((dUnhide X2).below bs)
    replace B := belowThen B bs
    clear bs CS3
    clear X0 X1 X2
    go_wp2
    go_ret
    exact ⟨rfl, B⟩
  have hs0 : sizConfig m0 ≤ 1048576 := by omega
  have hs1 : sizRegister m1 ≤ 1048576 := by omega
  have hs3 : sizReader m3 ≤ 1048576 := by omega
  have hs4 : sizAnswerS m4 ≤ 1048576 := by omega
  have hc0 := cntConfig_le hs0
  have hc1 := cntRegister_le hs1
  have hc3 := cntReader_le hs3
  have hc4 := cntAnswerS_le hs4
  obtain ⟨R, s1, hR, p1, p2⟩ := bothFnExactReaderNext m0 m1 m2 m3 m4 ok0 ok1 ok2 ok3 ok4 hs0 hs1 hs3 hs4
  have CP := dHide p1
  have CI := dHide p2
  have CS0 := dHide fun W (hb : Below w.heap.size w W) => szConfig_ _ m0 (1048576 : Int) (by omega) (by omega) W (dUnhide A0 W hb)
  rw [lft_yes z0] at CS0
  have z0' : ¬ ((1048576 : Int) - (sizConfig m0 : Int) < 0) := by omega
  have CS1 := dHide fun W (hb : Below w.heap.size w W) => szRegister_ _ m1 ((1048576 : Int) - (sizConfig m0 : Int)) (by omega) (by omega) W (dUnhide A1 W hb)
  rw [lft_yes z1] at CS1
  have z1' : ¬ (((1048576 : Int) - (sizConfig m0 : Int)) - (sizRegister m1 : Int) < 0) := by omega
  have CS2 := dHide fun W (hb : Below w.heap.size w W) => szReader_ _ m3 ((1048576 : Int) - (sizConfig m0 : Int) - (sizRegister m1 : Int)) (by omega) (by omega) (txtR_of ok3) W (dUnhide A3 W hb)
  rw [lft_yes z3] at CS2
  have z3' : ¬ (((1048576 : Int) - (sizConfig m0 : Int) - (sizRegister m1 : Int)) - (sizReader m3 : Int) < 0) := by omega
  have CS3 := dHide fun W (hb : Below w.heap.size w W) => szAnswerS_ _ m4 ((1048576 : Int) - (sizConfig m0 : Int) - (sizRegister m1 : Int) - (sizReader m3 : Int)) (by omega) (by omega) (txtA_of ok4) W (dUnhide A4 W hb)
  rw [lft_yes z4] at CS3
  have z4' : ¬ (((1048576 : Int) - (sizConfig m0 : Int) - (sizRegister m1 : Int) - (sizReader m3 : Int)) - (sizAnswerS m4 : Int) < 0) := by omega
  clear p1 p2 r0 ok0 r1 ok1 r3 ok3 r4 ok4 ok2
  go_enter Tryz.func8, Tryz.ntmps8
  go_wp2_with fail
  have B := belowThen (belowThen (ha w (.cells #[.slice v0a m0.1.length v0c, .int .i64 m0.2] 70)) (ha _ (.cells #[.slice v1a m1.eras.length v1c, .int .i64 m1.trim] 73))) (ha _ (.cells #[.int .i64 m3.epoch, .int .i64 m3.off, .slice v3a m3.out.length v3c] 76))
  have X0 := dHide ((Sits.box w #[.slice v0a m0.1.length v0c, .int .i64 m0.2] 70).below (belowThen (ha _ (.cells #[.slice v1a m1.eras.length v1c, .int .i64 m1.trim] 73)) (ha _ (.cells #[.int .i64 m3.epoch, .int .i64 m3.off, .slice v3a m3.out.length v3c] 76))))
  have X1 := (Sits.box (w.alloc (.cells #[.slice v0a m0.1.length v0c, .int .i64 m0.2] 70)) #[.slice v1a m1.eras.length v1c, .int .i64 m1.trim] 73).below (ha _ (.cells #[.int .i64 m3.epoch, .int .i64 m3.off, .slice v3a m3.out.length v3c] 76))
  have X2 := Sits.box ((w.alloc (.cells #[.slice v0a m0.1.length v0c, .int .i64 m0.2] 70)).alloc (.cells #[.slice v1a m1.eras.length v1c, .int .i64 m1.trim] 73)) #[.int .i64 m3.epoch, .int .i64 m3.off, .slice v3a m3.out.length v3c] 76
  have e1 : (w.alloc (.cells #[.slice v0a m0.1.length v0c, .int .i64 m0.2] 70)).heap.size = w.heap.size + 1 := by simp
  have e2 : ((w.alloc (.cells #[.slice v0a m0.1.length v0c, .int .i64 m0.2] 70)).alloc (.cells #[.slice v1a m1.eras.length v1c, .int .i64 m1.trim] 73)).heap.size = w.heap.size + 1 + 1 := by simp
  rw [e1] at X1
  rw [e2] at X2
  replace X1 := dHide X1
  replace X2 := dHide X2
  have sz0 : Hid (w.heap.size + 1 + 1 + 1 = (((w.alloc (.cells #[.slice v0a m0.1.length v0c, .int .i64 m0.2] 70)).alloc (.cells #[.slice v1a m1.eras.length v1c, .int .i64 m1.trim] 73)).alloc (.cells #[.int .i64 m3.epoch, .int .i64 m3.off, .slice v3a m3.out.length v3c] 76)).heap.size) := by simp [Hid]
  clear e1 e2
  generalize (((w.alloc (.cells #[.slice v0a m0.1.length v0c, .int .i64 m0.2] 70)).alloc (.cells #[.slice v1a m1.eras.length v1c, .int .i64 m1.trim] 73)).alloc (.cells #[.int .i64 m3.epoch, .int .i64 m3.off, .slice v3a m3.out.length v3c] 76)) = wb at *
  refine (dUnhide CS0 _ B).mono ?_
  rintro e ws0 ⟨rfl, bs⟩
  have sz1 := dHide bs.size
  replace X0 := dHide ((dUnhide X0).below bs)
  replace X1 := dHide ((dUnhide X1).below bs)
  replace X2 := dHide ((dUnhide X2).below bs)
  replace B := belowThen B bs
  clear bs CS0
  have k2 := (dUnhide X1).now 0 _ rfl
  have k3 := (dUnhide X1).now 1 _ rfl
  go_wp2_with fail
  refine (dUnhide CS1 _ B).mono ?_
  rintro e ws1 ⟨rfl, bs⟩
  have sz4 := dHide bs.size
  replace X0 := dHide ((dUnhide X0).below bs)
  replace X1 := dHide ((dUnhide X1).below bs)
  replace X2 := dHide ((dUnhide X2).below bs)
  replace B := belowThen B bs
  clear bs CS1 k2 k3
  have k5 := (dUnhide X2).now 0 _ rfl
  have k6 := (dUnhide X2).now 1 _ rfl
  have k7 := (dUnhide X2).now 2 _ rfl
  go_wp2_with fail
  refine (dUnhide CS2 _ B).mono ?_
  rintro e ws2 ⟨rfl, bs⟩
  have sz8 := dHide bs.size
  replace X0 := dHide ((dUnhide X0).below bs)
  replace X1 := dHide ((dUnhide X1).below bs)
  replace X2 := dHide ((dUnhide X2).below bs)
  replace B := belowThen B bs
  clear bs CS2 k5 k6 k7
  go_wp2_with fail
  refine (dUnhide CS3 _ B).mono ?_
  rintro e ws3 ⟨rfl, bs⟩
  have sz9 := dHide bs.size
  replace X0 := dHide ((dUnhide X0).below bs)
  replace X1 := dHide ((dUnhide X1).below bs)
  replace X2 := dHide ((dUnhide X2).below bs)
  replace B := belowThen B bs
  clear bs CS3
  go_wp2_with fail
  have hC : ∀ W, Below ws3.heap.size ws3 W → W.cell? ⟨w.heap.size, 0, none⟩ = some (.slice v0a m0.1.length v0c) ∧ W.cell? ⟨w.heap.size, 1, none⟩ = some (.int .i64 m0.2) ∧ W.cell? ⟨w.heap.size + 1, 0, none⟩ = some (.slice v1a m1.eras.length v1c) ∧ W.cell? ⟨w.heap.size + 1, 1, none⟩ = some (.int .i64 m1.trim) ∧ W.cell? ⟨w.heap.size + 1 + 1, 0, none⟩ = some (.int .i64 m3.epoch) ∧ W.cell? ⟨w.heap.size + 1 + 1, 1, none⟩ = some (.int .i64 m3.off) ∧ W.cell? ⟨w.heap.size + 1 + 1, 2, none⟩ = some (.slice v3a m3.out.length v3c) := fun W hb =>
    ⟨(dUnhide X0).at hb 0 _ rfl, (dUnhide X0).at hb 1 _ rfl, (dUnhide X1).at hb 0 _ rfl, (dUnhide X1).at hb 1 _ rfl, (dUnhide X2).at hb 0 _ rfl, (dUnhide X2).at hb 1 _ rfl, (dUnhide X2).at hb 2 _ rfl⟩
  have HC := dHide hC
  have hbr := Below.refl ws3.heap.size ws3
  obtain ⟨kd100, kd101, kd102, kd103, kd104, kd105, kd106⟩ := hC ws3 hbr
  clear hC
  go_cut [12, 13] (fun sv t1 wx => ∃ (bv lo hi : Nat) (a : Option Addr) (c : Nat), sv = .pointer (some ⟨bv, 0, none⟩) ∧ t1 = .int .i64 s1 ∧ Sits (Box bv #[.int .i64 R.epoch, .int .i64 R.off, .slice a R.out.length c]) bv (bv + 1) wx ∧ Sits (OwReader lo hi (.agg #[.int .i64 R.epoch, .int .i64 R.off, .slice a R.out.length c]) R) lo hi wx ∧ (bv < lo ∨ hi ≤ bv) ∧ ws3.heap.size ≤ bv ∧ ws3.heap.size ≤ lo ∧ Below ws3.heap.size ws3 wx)
  case first =>
    clear kd100 kd101 kd102 kd103 kd104 kd105 kd106
    have hcur := hbr.drew
    refine wp_region_noPanic ?_
    refine wp_region_held_drew (S := fun W => W.cell? ⟨w.heap.size, 0, none⟩ = some (.slice v0a m0.1.length v0c) ∧ W.cell? ⟨w.heap.size, 1, none⟩ = some (.int .i64 m0.2) ∧ W.cell? ⟨w.heap.size + 1, 0, none⟩ = some (.slice v1a m1.eras.length v1c) ∧ W.cell? ⟨w.heap.size + 1, 1, none⟩ = some (.int .i64 m1.trim) ∧ W.cell? ⟨w.heap.size + 1 + 1, 0, none⟩ = some (.int .i64 m3.epoch) ∧ W.cell? ⟨w.heap.size + 1 + 1, 1, none⟩ = some (.int .i64 m3.off) ∧ W.cell? ⟨w.heap.size + 1 + 1, 2, none⟩ = some (.slice v3a m3.out.length v3c)) (by kernel_rfl) (by first | exact dUnhide HC _ hcur | exact dUnhide HC _ hst | exact dUnhide HC _ hbr | fail) (fun hHeld => ?_)
    clear hbr
    generalize ws3.drew = wd at *
    refine wpAnyH_take (i := 0) (oi := { dst := some 46, op := Op.load 70 (Operand.tmp 5), type := 70, pos := "exact.go:3614", after := #[], guard := none }) (v := ?_) rfl (by kernel_rfl) (by kernel_rfl) (by kernel_rfl) (fun _ _ _ h => h) (Or.inl ⟨by rfl, ?_⟩) (by assumption) ?_
    rotate_left 1
    · intro w hSw
      (try dsimp only at hSw)
      first | (go_simp; done) | (go_simp; with_reducible rfl)
    try simp only [Act.put, List.setIfInBounds_toArray, List.set_cons_zero, List.set_cons_succ]
    refine wpAnyH_take (i := 2) (oi := { dst := some 48, op := Op.load 73 (Operand.tmp 6), type := 73, pos := "exact.go:3614", after := #[], guard := none }) (v := ?_) rfl (by kernel_rfl) (by kernel_rfl) (by kernel_rfl) (fun _ _ _ h => h) (Or.inl ⟨by rfl, ?_⟩) (by assumption) ?_
    rotate_left 1
    · intro w hSw
      (try dsimp only at hSw)
      first | (go_simp; done) | (go_simp; with_reducible rfl)
    try simp only [Act.put, List.setIfInBounds_toArray, List.set_cons_zero, List.set_cons_succ]
    refine wpAnyH_take (i := 4) (oi := { dst := some 50, op := Op.move (Operand.tmp 2), type := 3, pos := "exact.go:3614", after := #[], guard := none }) (v := ?_) rfl (by kernel_rfl) (by kernel_rfl) (by kernel_rfl) (fun _ _ _ h => h) (Or.inl ⟨by rfl, ?_⟩) (by assumption) ?_
    rotate_left 1
    · intro w hSw
      (try dsimp only at hSw)
      first | (go_simp; done) | (go_simp; with_reducible rfl)
    try simp only [Act.put, List.setIfInBounds_toArray, List.set_cons_zero, List.set_cons_succ]
    refine wpAnyH_take (i := 5) (oi := { dst := some 51, op := Op.load 76 (Operand.tmp 8), type := 76, pos := "exact.go:3614", after := #[], guard := none }) (v := ?_) rfl (by kernel_rfl) (by kernel_rfl) (by kernel_rfl) (fun _ _ _ h => h) (Or.inl ⟨by rfl, ?_⟩) (by assumption) ?_
    rotate_left 1
    · intro w hSw
      (try dsimp only at hSw)
      first | (go_simp; done) | (go_simp; with_reducible rfl)
    try simp only [Act.put, List.setIfInBounds_toArray, List.set_cons_zero, List.set_cons_succ]
    refine wpAnyH_take (i := 7) (oi := { dst := some 53, op := Op.move (Operand.tmp 4), type := 77, pos := "exact.go:3614", after := #[], guard := none }) (v := ?_) rfl (by kernel_rfl) (by kernel_rfl) (by kernel_rfl) (fun _ _ _ h => h) (Or.inl ⟨by rfl, ?_⟩) (by assumption) ?_
    rotate_left 1
    · intro w hSw
      (try dsimp only at hSw)
      first | (go_simp; done) | (go_simp; with_reducible rfl)
    try simp only [Act.put, List.setIfInBounds_toArray, List.set_cons_zero, List.set_cons_succ]
    refine wpAnyH_ready (rs := [1, 13]) (by kernel_rfl) (by simp) ?_
    refine AllReadyH.cons (o := { dst := some 47, op := Op.call { callee := Callee.value (Operand.func 40), args := #[Operand.tmp 46], argTypes := #[70] }, type := 26, pos := "exact.go:3614", after := #[{ on := 0, ground := Ground.data }], guard := none }) rfl (fun K hK => ?_) (AllReadyH.cons (o := { dst := some 12, op := Op.alloc 56, type := 0, pos := "exact.go:3614", after := #[], guard := none }) rfl (fun K hK => ?_) AllReadyH.nil)
    · go_simp
      refine (toConfig_ _ m0 _ hs0 (dUnhide A0 _ (belowThen B hcur))).mono ?_
      rintro e wq0 ⟨o0, rfl, q0, b0⟩
      replace hcur := belowThen hcur b0
      (try replace zz := BxZ.below zz b0)
      have Q0 := dHide q0
      obtain ⟨o0a, o0c, rfl, o0l⟩ := formConfig q0.now.rd
      clear q0 b0
      (try go_wp2_with fail)
      refine hK.out _ _ (by first | exact dUnhide HC _ hcur | exact dUnhide HC _ hst | exact dUnhide HC _ hbr | fail) (fun hHeld => ?_)
      clear hK K
      try simp only [Act.put, List.setIfInBounds_toArray, List.set_cons_zero, List.set_cons_succ]
      refine wpAnyH_ready (rs := [3, 13]) (by kernel_rfl) (by simp) ?_
      refine AllReadyH.cons (o := { dst := some 49, op := Op.call { callee := Callee.value (Operand.func 41), args := #[Operand.tmp 48], argTypes := #[73] }, type := 53, pos := "exact.go:3614", after := #[{ on := 2, ground := Ground.data }, { on := 1, ground := Ground.chain }], guard := none }) rfl (fun K hK => ?_) (AllReadyH.cons (o := { dst := some 12, op := Op.alloc 56, type := 0, pos := "exact.go:3614", after := #[], guard := none }) rfl (fun K hK => ?_) AllReadyH.nil)
      · go_simp
        refine (toRegister_ _ m1 _ hs1 (dUnhide A1 _ (belowThen B hcur))).mono ?_
        rintro e wq1 ⟨o1, rfl, q1, b1⟩
        replace hcur := belowThen hcur b1
        (try replace zz := BxZ.below zz b1)
        replace Q0 := dHide ((dUnhide Q0).below b1)
        have Q1 := dHide q1
        obtain ⟨o1a, o1c, rfl, o1l⟩ := formRegister q1.now.rd
        clear q1 b1
        (try go_wp2_with fail)
        refine hK.out _ _ (by first | exact dUnhide HC _ hcur | exact dUnhide HC _ hst | exact dUnhide HC _ hbr | fail) (fun hHeld => ?_)
        clear hK K
        try simp only [Act.put, List.setIfInBounds_toArray, List.set_cons_zero, List.set_cons_succ]
        refine wpAnyH_ready (rs := [6, 13]) (by kernel_rfl) (by simp) ?_
        refine AllReadyH.cons (o := { dst := some 52, op := Op.call { callee := Callee.value (Operand.func 42), args := #[Operand.tmp 51], argTypes := #[76] }, type := 56, pos := "exact.go:3614", after := #[{ on := 5, ground := Ground.data }, { on := 3, ground := Ground.chain }], guard := none }) rfl (fun K hK => ?_) (AllReadyH.cons (o := { dst := some 12, op := Op.alloc 56, type := 0, pos := "exact.go:3614", after := #[], guard := none }) rfl (fun K hK => ?_) AllReadyH.nil)
        · go_simp
          refine (toReader_ _ m3 _ hs3 (dUnhide A3 _ (belowThen B hcur))).mono ?_
          rintro e wq2 ⟨o2, rfl, q2, b2⟩
          replace hcur := belowThen hcur b2
          (try replace zz := BxZ.below zz b2)
          replace Q0 := dHide ((dUnhide Q0).below b2)
          replace Q1 := dHide ((dUnhide Q1).below b2)
          have Q2 := dHide q2
          obtain ⟨o2a, o2c, rfl, o2l⟩ := formReader q2.now.rd
          clear q2 b2
          (try go_wp2_with fail)
          refine hK.out _ _ (by first | exact dUnhide HC _ hcur | exact dUnhide HC _ hst | exact dUnhide HC _ hbr | fail) (fun hHeld => ?_)
          clear hK K
          try simp only [Act.put, List.setIfInBounds_toArray, List.set_cons_zero, List.set_cons_succ]
          refine wpAnyH_ready (rs := [8, 13]) (by kernel_rfl) (by simp) ?_
          refine AllReadyH.cons (o := { dst := some 54, op := Op.call { callee := Callee.value (Operand.func 43), args := #[Operand.tmp 53], argTypes := #[77] }, type := 57, pos := "exact.go:3614", after := #[{ on := 7, ground := Ground.data }, { on := 6, ground := Ground.chain }], guard := none }) rfl (fun K hK => ?_) (AllReadyH.cons (o := { dst := some 12, op := Op.alloc 56, type := 0, pos := "exact.go:3614", after := #[], guard := none }) rfl (fun K hK => ?_) AllReadyH.nil)
          · go_simp
            refine (toAnswerS_ _ m4 _ hs4 (dUnhide A4 _ (belowThen B hcur))).mono ?_
            rintro e wq3 ⟨o3, rfl, q3, b3⟩
            replace hcur := belowThen hcur b3
            (try replace zz := BxZ.below zz b3)
            replace Q0 := dHide ((dUnhide Q0).below b3)
            replace Q1 := dHide ((dUnhide Q1).below b3)
            replace Q2 := dHide ((dUnhide Q2).below b3)
            have Q3 := dHide q3
            obtain ⟨o3a, o3c, rfl, o3l⟩ := formAnswerS q3.now.rd
            clear q3 b3
            (try go_wp2_with fail)
            refine hK.out _ _ (by first | exact dUnhide HC _ hcur | exact dUnhide HC _ hst | exact dUnhide HC _ hbr | fail) (fun hHeld => ?_)
            clear hK K
            try simp only [Act.put, List.setIfInBounds_toArray, List.set_cons_zero, List.set_cons_succ]
            refine wpAnyH_ready (rs := [9, 13]) (by kernel_rfl) (by simp) ?_
            refine AllReadyH.cons (o := { dst := some 55, op := Op.call { callee := Callee.value (Operand.func 30), args := #[Operand.tmp 47, Operand.tmp 49, Operand.tmp 50, Operand.tmp 52, Operand.tmp 54], argTypes := #[26, 53, 3, 56, 57] }, type := 60, pos := "exact.go:3614", after := #[{ on := 1, ground := Ground.data }, { on := 3, ground := Ground.data }, { on := 4, ground := Ground.data }, { on := 6, ground := Ground.data }, { on := 8, ground := Ground.data }, { on := 8, ground := Ground.chain }], guard := none }) rfl (fun K hK => ?_) (AllReadyH.cons (o := { dst := some 12, op := Op.alloc 56, type := 0, pos := "exact.go:3614", after := #[], guard := none }) rfl (fun K hK => ?_) AllReadyH.nil)
            · go_simp
              (try have hlo := BxZ.lt zz)
              have hcz := hcur.size
              refine (dUnhide CP _ _ _ _ _ (dUnhide Q0).now.rd (dUnhide Q1).now.rd (dUnhide Q2).now.rd (dUnhide Q3).now.rd).mono ?_
              rintro e w5 ⟨u5, rfl, q5, b5⟩
              replace hcur := belowThen hcur b5
              (try replace zz := BxZ.below zz b5)
              have Q5 := dHide q5
              obtain ⟨o5a, o5c, rfl, o5l⟩ := formReader q5.now.rd
              clear q5 b5 Q0 Q1 Q2 Q3
              (try go_wp2_with fail)
              refine hK.out _ _ (by first | exact dUnhide HC _ hcur | exact dUnhide HC _ hst | exact dUnhide HC _ hbr | fail) (fun hHeld => ?_)
              clear hK K
              try simp only [Act.put, List.setIfInBounds_toArray, List.set_cons_zero, List.set_cons_succ]
              refine wpAnyH_take (i := 10) (oi := { dst := some 45, op := Op.move (Operand.tmp 55), type := 60, pos := "exact.go:3614", after := #[{ on := 9, ground := Ground.data }], guard := none }) (v := ?_) rfl (by kernel_rfl) (by kernel_rfl) (by kernel_rfl) (fun _ _ _ h => h) (Or.inl ⟨by rfl, ?_⟩) (by assumption) ?_
              rotate_left 1
              · intro w hSw
                (try dsimp only at hSw)
                first | (go_simp; done) | (go_simp; with_reducible rfl)
              try simp only [Act.put, List.setIfInBounds_toArray, List.set_cons_zero, List.set_cons_succ]
              refine wpAnyH_take (i := 11) (oi := { dst := some 56, op := Op.extract (Operand.tmp 45) 0, type := 56, pos := "exact.go:3614", after := #[{ on := 10, ground := Ground.data }], guard := none }) (v := ?_) rfl (by kernel_rfl) (by kernel_rfl) (by kernel_rfl) (fun _ _ _ h => h) (Or.inl ⟨by rfl, ?_⟩) (by assumption) ?_
              rotate_left 1
              · intro w hSw
                (try dsimp only at hSw)
                first | (go_simp; done) | (go_simp; with_reducible rfl)
              try simp only [Act.put, List.setIfInBounds_toArray, List.set_cons_zero, List.set_cons_succ]
              refine wpAnyH_take (i := 12) (oi := { dst := some 57, op := Op.extract (Operand.tmp 45) 1, type := 3, pos := "exact.go:3614", after := #[{ on := 10, ground := Ground.data }, { on := 14, ground := Ground.gcOnly Departure.lateStores }], guard := none }) (v := ?_) rfl (by kernel_rfl) (by kernel_rfl) (by kernel_rfl) (fun _ _ _ h => h) (Or.inl ⟨by rfl, ?_⟩) (by assumption) ?_
              rotate_left 1
              · intro w hSw
                (try dsimp only at hSw)
                first | (go_simp; done) | (go_simp; with_reducible rfl)
              try simp only [Act.put, List.setIfInBounds_toArray, List.set_cons_zero, List.set_cons_succ]
              refine wpAnyH_ready (rs := [13]) (by kernel_rfl) (by simp) ?_
              refine AllReadyH.cons (o := { dst := some 12, op := Op.alloc 56, type := 0, pos := "exact.go:3614", after := #[], guard := none }) rfl (fun K hK => ?_) AllReadyH.nil
              go_simp
              have zz := BxZ.new (B := ws3.heap.size) _ [.int .i64 0, .int .i64 0, .slice none 0 0] 56 hcur.size
              (try replace Q0 := dHide ((dUnhide Q0).below (ha _ (.cells #[.int .i64 0, .int .i64 0, .slice none 0 0] 56))))
              (try replace Q1 := dHide ((dUnhide Q1).below (ha _ (.cells #[.int .i64 0, .int .i64 0, .slice none 0 0] 56))))
              (try replace Q2 := dHide ((dUnhide Q2).below (ha _ (.cells #[.int .i64 0, .int .i64 0, .slice none 0 0] 56))))
              (try replace Q3 := dHide ((dUnhide Q3).below (ha _ (.cells #[.int .i64 0, .int .i64 0, .slice none 0 0] 56))))
              (try replace Q5 := dHide ((dUnhide Q5).below (ha _ (.cells #[.int .i64 0, .int .i64 0, .slice none 0 0] 56))))
              replace hcur := hcur.alloc hcur.size (.cells #[.int .i64 0, .int .i64 0, .slice none 0 0] 56)
              first | generalize w5.alloc (.cells #[.int .i64 0, .int .i64 0, .slice none 0 0] 56) = wa at * | generalize wq3.alloc (.cells #[.int .i64 0, .int .i64 0, .slice none 0 0] 56) = wa at * | generalize wq2.alloc (.cells #[.int .i64 0, .int .i64 0, .slice none 0 0] 56) = wa at * | generalize wq1.alloc (.cells #[.int .i64 0, .int .i64 0, .slice none 0 0] 56) = wa at * | generalize wq0.alloc (.cells #[.int .i64 0, .int .i64 0, .slice none 0 0] 56) = wa at * | generalize wd.alloc (.cells #[.int .i64 0, .int .i64 0, .slice none 0 0] 56) = wa at * | fail
              refine hK.out _ _ (by first | exact dUnhide HC _ hcur | exact dUnhide HC _ hst | exact dUnhide HC _ hbr | fail) (fun hHeld => ?_)
              clear hK K
              try simp only [Act.put, List.setIfInBounds_toArray, List.set_cons_zero, List.set_cons_succ]
              refine wpAnyH_ready (rs := [14]) (by kernel_rfl) (by simp) ?_
              refine AllReadyH.cons (o := { dst := none, op := Op.store 56 (Operand.tmp 12) (Operand.tmp 56), type := 0, pos := "exact.go:3614", after := #[{ on := 13, ground := Ground.data }, { on := 11, ground := Ground.data }, { on := 9, ground := Ground.chain }, { on := 0, ground := Ground.phase }, { on := 1, ground := Ground.phase }, { on := 2, ground := Ground.phase }, { on := 3, ground := Ground.phase }, { on := 4, ground := Ground.phase }, { on := 5, ground := Ground.phase }, { on := 6, ground := Ground.phase }, { on := 7, ground := Ground.phase }, { on := 8, ground := Ground.phase }, { on := 9, ground := Ground.phase }, { on := 10, ground := Ground.phase }, { on := 11, ground := Ground.phase }, { on := 12, ground := Ground.textOnly Departure.lateStores }, { on := 13, ground := Ground.phase }], guard := none }) rfl (fun K hK => ?_) AllReadyH.nil
              obtain ⟨z0, y0⟩ := zz.2 0 _ rfl
              obtain ⟨z1, y1⟩ := zz.2 1 _ rfl
              obtain ⟨z2, y2⟩ := zz.2 2 _ rfl
              go_simp
              have hst := below_thr hcur zz.1 (.int .i64 R.epoch) (.int .i64 R.off) (.slice o5a R.out.length o5c)
              clear hcur z0 y0 z1 y1 z2 y2
              refine hK.out _ _ (by first | exact dUnhide HC _ hcur | exact dUnhide HC _ hst | exact dUnhide HC _ hbr | fail) (fun hHeld => ?_)
              clear hK K
              try simp only [Act.put, List.setIfInBounds_toArray, List.set_cons_zero, List.set_cons_succ]
              refine wpAnyH_take (i := 15) (oi := { dst := some 13, op := Op.assign (Operand.tmp 57), type := 3, pos := "exact.go:3614", after := #[{ on := 12, ground := Ground.data }, { on := 14, ground := Ground.chain }, { on := 0, ground := Ground.phase }, { on := 1, ground := Ground.phase }, { on := 2, ground := Ground.phase }, { on := 3, ground := Ground.phase }, { on := 4, ground := Ground.phase }, { on := 5, ground := Ground.phase }, { on := 6, ground := Ground.phase }, { on := 7, ground := Ground.phase }, { on := 8, ground := Ground.phase }, { on := 9, ground := Ground.phase }, { on := 10, ground := Ground.phase }, { on := 11, ground := Ground.phase }, { on := 12, ground := Ground.phase }, { on := 13, ground := Ground.phase }, { on := 14, ground := Ground.phase }], guard := none }) (v := ?_) rfl (by kernel_rfl) (by kernel_rfl) (by kernel_rfl) (fun _ _ _ h => h) (Or.inl ⟨by rfl, ?_⟩) (by assumption) ?_
              rotate_left 1
              · intro w hSw
                (try dsimp only at hSw)
                first | (go_simp; done) | (go_simp; with_reducible rfl)
              try simp only [Act.put, List.setIfInBounds_toArray, List.set_cons_zero, List.set_cons_succ]
              refine wpAnyH_done (by kernel_rfl) ?_ _
              refine NoPanic.normal ?_
              go_wp2_with fail
              go_meet
              case rel => first | exact ⟨_, _, _, _, _, rfl, rfl, (((zz.put 0 (.int .i64 R.epoch)).put 1 (.int .i64 R.off)).put 2 (.slice o5a R.out.length o5c)).bx.sits, (((dUnhide Q5).setFar (.inl hlo) (.int .i64 R.epoch)).setFar (.inl hlo) (.int .i64 R.off)).setFar (.inl hlo) (.slice o5a R.out.length o5c), (.inl hlo), zz.1, hcz, hst⟩ | exact ⟨_, _, _, _, _, rfl, rfl, (((zz.put 0 (.int .i64 R.epoch)).put 1 (.int .i64 R.off)).put 2 (.slice o5a R.out.length o5c)).bx.sits, (((dUnhide Q5).setFar (.inr (Nat.le_refl _)) (.int .i64 R.epoch)).setFar (.inr (Nat.le_refl _)) (.int .i64 R.off)).setFar (.inr (Nat.le_refl _)) (.slice o5a R.out.length o5c), (.inr (Nat.le_refl _)), zz.1, hcz, hst⟩
            · go_simp
              have zz := BxZ.new (B := ws3.heap.size) _ [.int .i64 0, .int .i64 0, .slice none 0 0] 56 hcur.size
              (try replace Q0 := dHide ((dUnhide Q0).below (ha _ (.cells #[.int .i64 0, .int .i64 0, .slice none 0 0] 56))))
              (try replace Q1 := dHide ((dUnhide Q1).below (ha _ (.cells #[.int .i64 0, .int .i64 0, .slice none 0 0] 56))))
              (try replace Q2 := dHide ((dUnhide Q2).below (ha _ (.cells #[.int .i64 0, .int .i64 0, .slice none 0 0] 56))))
              (try replace Q3 := dHide ((dUnhide Q3).below (ha _ (.cells #[.int .i64 0, .int .i64 0, .slice none 0 0] 56))))
              (try replace Q5 := dHide ((dUnhide Q5).below (ha _ (.cells #[.int .i64 0, .int .i64 0, .slice none 0 0] 56))))
              replace hcur := hcur.alloc hcur.size (.cells #[.int .i64 0, .int .i64 0, .slice none 0 0] 56)
              first | generalize w5.alloc (.cells #[.int .i64 0, .int .i64 0, .slice none 0 0] 56) = wa at * | generalize wq3.alloc (.cells #[.int .i64 0, .int .i64 0, .slice none 0 0] 56) = wa at * | generalize wq2.alloc (.cells #[.int .i64 0, .int .i64 0, .slice none 0 0] 56) = wa at * | generalize wq1.alloc (.cells #[.int .i64 0, .int .i64 0, .slice none 0 0] 56) = wa at * | generalize wq0.alloc (.cells #[.int .i64 0, .int .i64 0, .slice none 0 0] 56) = wa at * | generalize wd.alloc (.cells #[.int .i64 0, .int .i64 0, .slice none 0 0] 56) = wa at * | fail
              refine hK.out _ _ (by first | exact dUnhide HC _ hcur | exact dUnhide HC _ hst | exact dUnhide HC _ hbr | fail) (fun hHeld => ?_)
              clear hK K
              try simp only [Act.put, List.setIfInBounds_toArray, List.set_cons_zero, List.set_cons_succ]
              refine wpAnyH_ready (rs := [9]) (by kernel_rfl) (by simp) ?_
              refine AllReadyH.cons (o := { dst := some 55, op := Op.call { callee := Callee.value (Operand.func 30), args := #[Operand.tmp 47, Operand.tmp 49, Operand.tmp 50, Operand.tmp 52, Operand.tmp 54], argTypes := #[26, 53, 3, 56, 57] }, type := 60, pos := "exact.go:3614", after := #[{ on := 1, ground := Ground.data }, { on := 3, ground := Ground.data }, { on := 4, ground := Ground.data }, { on := 6, ground := Ground.data }, { on := 8, ground := Ground.data }, { on := 8, ground := Ground.chain }], guard := none }) rfl (fun K hK => ?_) AllReadyH.nil
              go_simp
              (try have hlo := BxZ.lt zz)
              have hcz := hcur.size
              refine (dUnhide CP _ _ _ _ _ (dUnhide Q0).now.rd (dUnhide Q1).now.rd (dUnhide Q2).now.rd (dUnhide Q3).now.rd).mono ?_
              rintro e w5 ⟨u5, rfl, q5, b5⟩
              replace hcur := belowThen hcur b5
              (try replace zz := BxZ.below zz b5)
              have Q5 := dHide q5
              obtain ⟨o5a, o5c, rfl, o5l⟩ := formReader q5.now.rd
              clear q5 b5 Q0 Q1 Q2 Q3
              (try go_wp2_with fail)
              refine hK.out _ _ (by first | exact dUnhide HC _ hcur | exact dUnhide HC _ hst | exact dUnhide HC _ hbr | fail) (fun hHeld => ?_)
              clear hK K
              try simp only [Act.put, List.setIfInBounds_toArray, List.set_cons_zero, List.set_cons_succ]
              refine wpAnyH_take (i := 10) (oi := { dst := some 45, op := Op.move (Operand.tmp 55), type := 60, pos := "exact.go:3614", after := #[{ on := 9, ground := Ground.data }], guard := none }) (v := ?_) rfl (by kernel_rfl) (by kernel_rfl) (by kernel_rfl) (fun _ _ _ h => h) (Or.inl ⟨by rfl, ?_⟩) (by assumption) ?_
              rotate_left 1
              · intro w hSw
                (try dsimp only at hSw)
                first | (go_simp; done) | (go_simp; with_reducible rfl)
              try simp only [Act.put, List.setIfInBounds_toArray, List.set_cons_zero, List.set_cons_succ]
              refine wpAnyH_take (i := 11) (oi := { dst := some 56, op := Op.extract (Operand.tmp 45) 0, type := 56, pos := "exact.go:3614", after := #[{ on := 10, ground := Ground.data }], guard := none }) (v := ?_) rfl (by kernel_rfl) (by kernel_rfl) (by kernel_rfl) (fun _ _ _ h => h) (Or.inl ⟨by rfl, ?_⟩) (by assumption) ?_
              rotate_left 1
              · intro w hSw
                (try dsimp only at hSw)
                first | (go_simp; done) | (go_simp; with_reducible rfl)
              try simp only [Act.put, List.setIfInBounds_toArray, List.set_cons_zero, List.set_cons_succ]
              refine wpAnyH_take (i := 12) (oi := { dst := some 57, op := Op.extract (Operand.tmp 45) 1, type := 3, pos := "exact.go:3614", after := #[{ on := 10, ground := Ground.data }, { on := 14, ground := Ground.gcOnly Departure.lateStores }], guard := none }) (v := ?_) rfl (by kernel_rfl) (by kernel_rfl) (by kernel_rfl) (fun _ _ _ h => h) (Or.inl ⟨by rfl, ?_⟩) (by assumption) ?_
              rotate_left 1
              · intro w hSw
                (try dsimp only at hSw)
                first | (go_simp; done) | (go_simp; with_reducible rfl)
              try simp only [Act.put, List.setIfInBounds_toArray, List.set_cons_zero, List.set_cons_succ]
              refine wpAnyH_ready (rs := [14]) (by kernel_rfl) (by simp) ?_
              refine AllReadyH.cons (o := { dst := none, op := Op.store 56 (Operand.tmp 12) (Operand.tmp 56), type := 0, pos := "exact.go:3614", after := #[{ on := 13, ground := Ground.data }, { on := 11, ground := Ground.data }, { on := 9, ground := Ground.chain }, { on := 0, ground := Ground.phase }, { on := 1, ground := Ground.phase }, { on := 2, ground := Ground.phase }, { on := 3, ground := Ground.phase }, { on := 4, ground := Ground.phase }, { on := 5, ground := Ground.phase }, { on := 6, ground := Ground.phase }, { on := 7, ground := Ground.phase }, { on := 8, ground := Ground.phase }, { on := 9, ground := Ground.phase }, { on := 10, ground := Ground.phase }, { on := 11, ground := Ground.phase }, { on := 12, ground := Ground.textOnly Departure.lateStores }, { on := 13, ground := Ground.phase }], guard := none }) rfl (fun K hK => ?_) AllReadyH.nil
              obtain ⟨z0, y0⟩ := zz.2 0 _ rfl
              obtain ⟨z1, y1⟩ := zz.2 1 _ rfl
              obtain ⟨z2, y2⟩ := zz.2 2 _ rfl
              go_simp
              have hst := below_thr hcur zz.1 (.int .i64 R.epoch) (.int .i64 R.off) (.slice o5a R.out.length o5c)
              clear hcur z0 y0 z1 y1 z2 y2
              refine hK.out _ _ (by first | exact dUnhide HC _ hcur | exact dUnhide HC _ hst | exact dUnhide HC _ hbr | fail) (fun hHeld => ?_)
              clear hK K
              try simp only [Act.put, List.setIfInBounds_toArray, List.set_cons_zero, List.set_cons_succ]
              refine wpAnyH_take (i := 15) (oi := { dst := some 13, op := Op.assign (Operand.tmp 57), type := 3, pos := "exact.go:3614", after := #[{ on := 12, ground := Ground.data }, { on := 14, ground := Ground.chain }, { on := 0, ground := Ground.phase }, { on := 1, ground := Ground.phase }, { on := 2, ground := Ground.phase }, { on := 3, ground := Ground.phase }, { on := 4, ground := Ground.phase }, { on := 5, ground := Ground.phase }, { on := 6, ground := Ground.phase }, { on := 7, ground := Ground.phase }, { on := 8, ground := Ground.phase }, { on := 9, ground := Ground.phase }, { on := 10, ground := Ground.phase }, { on := 11, ground := Ground.phase }, { on := 12, ground := Ground.phase }, { on := 13, ground := Ground.phase }, { on := 14, ground := Ground.phase }], guard := none }) (v := ?_) rfl (by kernel_rfl) (by kernel_rfl) (by kernel_rfl) (fun _ _ _ h => h) (Or.inl ⟨by rfl, ?_⟩) (by assumption) ?_
              rotate_left 1
              · intro w hSw
                (try dsimp only at hSw)
                first | (go_simp; done) | (go_simp; with_reducible rfl)
              try simp only [Act.put, List.setIfInBounds_toArray, List.set_cons_zero, List.set_cons_succ]
              refine wpAnyH_done (by kernel_rfl) ?_ _
              refine NoPanic.normal ?_
              go_wp2_with fail
              go_meet
              case rel => first | exact ⟨_, _, _, _, _, rfl, rfl, (((zz.put 0 (.int .i64 R.epoch)).put 1 (.int .i64 R.off)).put 2 (.slice o5a R.out.length o5c)).bx.sits, (((dUnhide Q5).setFar (.inl hlo) (.int .i64 R.epoch)).setFar (.inl hlo) (.int .i64 R.off)).setFar (.inl hlo) (.slice o5a R.out.length o5c), (.inl hlo), zz.1, hcz, hst⟩ | exact ⟨_, _, _, _, _, rfl, rfl, (((zz.put 0 (.int .i64 R.epoch)).put 1 (.int .i64 R.off)).put 2 (.slice o5a R.out.length o5c)).bx.sits, (((dUnhide Q5).setFar (.inr (Nat.le_refl _)) (.int .i64 R.epoch)).setFar (.inr (Nat.le_refl _)) (.int .i64 R.off)).setFar (.inr (Nat.le_refl _)) (.slice o5a R.out.length o5c), (.inr (Nat.le_refl _)), zz.1, hcz, hst⟩
          · go_simp
            have zz := BxZ.new (B := ws3.heap.size) _ [.int .i64 0, .int .i64 0, .slice none 0 0] 56 hcur.size
            (try replace Q0 := dHide ((dUnhide Q0).below (ha _ (.cells #[.int .i64 0, .int .i64 0, .slice none 0 0] 56))))
            (try replace Q1 := dHide ((dUnhide Q1).below (ha _ (.cells #[.int .i64 0, .int .i64 0, .slice none 0 0] 56))))
            (try replace Q2 := dHide ((dUnhide Q2).below (ha _ (.cells #[.int .i64 0, .int .i64 0, .slice none 0 0] 56))))
            (try replace Q3 := dHide ((dUnhide Q3).below (ha _ (.cells #[.int .i64 0, .int .i64 0, .slice none 0 0] 56))))
            (try replace Q5 := dHide ((dUnhide Q5).below (ha _ (.cells #[.int .i64 0, .int .i64 0, .slice none 0 0] 56))))
            replace hcur := hcur.alloc hcur.size (.cells #[.int .i64 0, .int .i64 0, .slice none 0 0] 56)
            first | generalize w5.alloc (.cells #[.int .i64 0, .int .i64 0, .slice none 0 0] 56) = wa at * | generalize wq3.alloc (.cells #[.int .i64 0, .int .i64 0, .slice none 0 0] 56) = wa at * | generalize wq2.alloc (.cells #[.int .i64 0, .int .i64 0, .slice none 0 0] 56) = wa at * | generalize wq1.alloc (.cells #[.int .i64 0, .int .i64 0, .slice none 0 0] 56) = wa at * | generalize wq0.alloc (.cells #[.int .i64 0, .int .i64 0, .slice none 0 0] 56) = wa at * | generalize wd.alloc (.cells #[.int .i64 0, .int .i64 0, .slice none 0 0] 56) = wa at * | fail
            refine hK.out _ _ (by first | exact dUnhide HC _ hcur | exact dUnhide HC _ hst | exact dUnhide HC _ hbr | fail) (fun hHeld => ?_)
            clear hK K
            try simp only [Act.put, List.setIfInBounds_toArray, List.set_cons_zero, List.set_cons_succ]
            refine wpAnyH_ready (rs := [8]) (by kernel_rfl) (by simp) ?_
            refine AllReadyH.cons (o := { dst := some 54, op := Op.call { callee := Callee.value (Operand.func 43), args := #[Operand.tmp 53], argTypes := #[77] }, type := 57, pos := "exact.go:3614", after := #[{ on := 7, ground := Ground.data }, { on := 6, ground := Ground.chain }], guard := none }) rfl (fun K hK => ?_) AllReadyH.nil
            go_simp
            refine (toAnswerS_ _ m4 _ hs4 (dUnhide A4 _ (belowThen B hcur))).mono ?_
            rintro e wq3 ⟨o3, rfl, q3, b3⟩
            replace hcur := belowThen hcur b3
            (try replace zz := BxZ.below zz b3)
            replace Q0 := dHide ((dUnhide Q0).below b3)
            replace Q1 := dHide ((dUnhide Q1).below b3)
            replace Q2 := dHide ((dUnhide Q2).below b3)
            have Q3 := dHide q3
            obtain ⟨o3a, o3c, rfl, o3l⟩ := formAnswerS q3.now.rd
            clear q3 b3
            (try go_wp2_with fail)
            refine hK.out _ _ (by first | exact dUnhide HC _ hcur | exact dUnhide HC _ hst | exact dUnhide HC _ hbr | fail) (fun hHeld => ?_)
            clear hK K
            try simp only [Act.put, List.setIfInBounds_toArray, List.set_cons_zero, List.set_cons_succ]
            refine wpAnyH_ready (rs := [9]) (by kernel_rfl) (by simp) ?_
            refine AllReadyH.cons (o := { dst := some 55, op := Op.call { callee := Callee.value (Operand.func 30), args := #[Operand.tmp 47, Operand.tmp 49, Operand.tmp 50, Operand.tmp 52, Operand.tmp 54], argTypes := #[26, 53, 3, 56, 57] }, type := 60, pos := "exact.go:3614", after := #[{ on := 1, ground := Ground.data }, { on := 3, ground := Ground.data }, { on := 4, ground := Ground.data }, { on := 6, ground := Ground.data }, { on := 8, ground := Ground.data }, { on := 8, ground := Ground.chain }], guard := none }) rfl (fun K hK => ?_) AllReadyH.nil
            go_simp
            (try have hlo := BxZ.lt zz)
            have hcz := hcur.size
            refine (dUnhide CP _ _ _ _ _ (dUnhide Q0).now.rd (dUnhide Q1).now.rd (dUnhide Q2).now.rd (dUnhide Q3).now.rd).mono ?_
            rintro e w5 ⟨u5, rfl, q5, b5⟩
            replace hcur := belowThen hcur b5
            (try replace zz := BxZ.below zz b5)
            have Q5 := dHide q5
            obtain ⟨o5a, o5c, rfl, o5l⟩ := formReader q5.now.rd
            clear q5 b5 Q0 Q1 Q2 Q3
            (try go_wp2_with fail)
            refine hK.out _ _ (by first | exact dUnhide HC _ hcur | exact dUnhide HC _ hst | exact dUnhide HC _ hbr | fail) (fun hHeld => ?_)
            clear hK K
            try simp only [Act.put, List.setIfInBounds_toArray, List.set_cons_zero, List.set_cons_succ]
            refine wpAnyH_take (i := 10) (oi := { dst := some 45, op := Op.move (Operand.tmp 55), type := 60, pos := "exact.go:3614", after := #[{ on := 9, ground := Ground.data }], guard := none }) (v := ?_) rfl (by kernel_rfl) (by kernel_rfl) (by kernel_rfl) (fun _ _ _ h => h) (Or.inl ⟨by rfl, ?_⟩) (by assumption) ?_
            rotate_left 1
            · intro w hSw
              (try dsimp only at hSw)
              first | (go_simp; done) | (go_simp; with_reducible rfl)
            try simp only [Act.put, List.setIfInBounds_toArray, List.set_cons_zero, List.set_cons_succ]
            refine wpAnyH_take (i := 11) (oi := { dst := some 56, op := Op.extract (Operand.tmp 45) 0, type := 56, pos := "exact.go:3614", after := #[{ on := 10, ground := Ground.data }], guard := none }) (v := ?_) rfl (by kernel_rfl) (by kernel_rfl) (by kernel_rfl) (fun _ _ _ h => h) (Or.inl ⟨by rfl, ?_⟩) (by assumption) ?_
            rotate_left 1
            · intro w hSw
              (try dsimp only at hSw)
              first | (go_simp; done) | (go_simp; with_reducible rfl)
            try simp only [Act.put, List.setIfInBounds_toArray, List.set_cons_zero, List.set_cons_succ]
            refine wpAnyH_take (i := 12) (oi := { dst := some 57, op := Op.extract (Operand.tmp 45) 1, type := 3, pos := "exact.go:3614", after := #[{ on := 10, ground := Ground.data }, { on := 14, ground := Ground.gcOnly Departure.lateStores }], guard := none }) (v := ?_) rfl (by kernel_rfl) (by kernel_rfl) (by kernel_rfl) (fun _ _ _ h => h) (Or.inl ⟨by rfl, ?_⟩) (by assumption) ?_
            rotate_left 1
            · intro w hSw
              (try dsimp only at hSw)
              first | (go_simp; done) | (go_simp; with_reducible rfl)
            try simp only [Act.put, List.setIfInBounds_toArray, List.set_cons_zero, List.set_cons_succ]
            refine wpAnyH_ready (rs := [14]) (by kernel_rfl) (by simp) ?_
            refine AllReadyH.cons (o := { dst := none, op := Op.store 56 (Operand.tmp 12) (Operand.tmp 56), type := 0, pos := "exact.go:3614", after := #[{ on := 13, ground := Ground.data }, { on := 11, ground := Ground.data }, { on := 9, ground := Ground.chain }, { on := 0, ground := Ground.phase }, { on := 1, ground := Ground.phase }, { on := 2, ground := Ground.phase }, { on := 3, ground := Ground.phase }, { on := 4, ground := Ground.phase }, { on := 5, ground := Ground.phase }, { on := 6, ground := Ground.phase }, { on := 7, ground := Ground.phase }, { on := 8, ground := Ground.phase }, { on := 9, ground := Ground.phase }, { on := 10, ground := Ground.phase }, { on := 11, ground := Ground.phase }, { on := 12, ground := Ground.textOnly Departure.lateStores }, { on := 13, ground := Ground.phase }], guard := none }) rfl (fun K hK => ?_) AllReadyH.nil
            obtain ⟨z0, y0⟩ := zz.2 0 _ rfl
            obtain ⟨z1, y1⟩ := zz.2 1 _ rfl
            obtain ⟨z2, y2⟩ := zz.2 2 _ rfl
            go_simp
            have hst := below_thr hcur zz.1 (.int .i64 R.epoch) (.int .i64 R.off) (.slice o5a R.out.length o5c)
            clear hcur z0 y0 z1 y1 z2 y2
            refine hK.out _ _ (by first | exact dUnhide HC _ hcur | exact dUnhide HC _ hst | exact dUnhide HC _ hbr | fail) (fun hHeld => ?_)
            clear hK K
            try simp only [Act.put, List.setIfInBounds_toArray, List.set_cons_zero, List.set_cons_succ]
            refine wpAnyH_take (i := 15) (oi := { dst := some 13, op := Op.assign (Operand.tmp 57), type := 3, pos := "exact.go:3614", after := #[{ on := 12, ground := Ground.data }, { on := 14, ground := Ground.chain }, { on := 0, ground := Ground.phase }, { on := 1, ground := Ground.phase }, { on := 2, ground := Ground.phase }, { on := 3, ground := Ground.phase }, { on := 4, ground := Ground.phase }, { on := 5, ground := Ground.phase }, { on := 6, ground := Ground.phase }, { on := 7, ground := Ground.phase }, { on := 8, ground := Ground.phase }, { on := 9, ground := Ground.phase }, { on := 10, ground := Ground.phase }, { on := 11, ground := Ground.phase }, { on := 12, ground := Ground.phase }, { on := 13, ground := Ground.phase }, { on := 14, ground := Ground.phase }], guard := none }) (v := ?_) rfl (by kernel_rfl) (by kernel_rfl) (by kernel_rfl) (fun _ _ _ h => h) (Or.inl ⟨by rfl, ?_⟩) (by assumption) ?_
            rotate_left 1
            · intro w hSw
              (try dsimp only at hSw)
              first | (go_simp; done) | (go_simp; with_reducible rfl)
            try simp only [Act.put, List.setIfInBounds_toArray, List.set_cons_zero, List.set_cons_succ]
            refine wpAnyH_done (by kernel_rfl) ?_ _
            refine NoPanic.normal ?_
            go_wp2_with fail
            go_meet
            case rel => first | exact ⟨_, _, _, _, _, rfl, rfl, (((zz.put 0 (.int .i64 R.epoch)).put 1 (.int .i64 R.off)).put 2 (.slice o5a R.out.length o5c)).bx.sits, (((dUnhide Q5).setFar (.inl hlo) (.int .i64 R.epoch)).setFar (.inl hlo) (.int .i64 R.off)).setFar (.inl hlo) (.slice o5a R.out.length o5c), (.inl hlo), zz.1, hcz, hst⟩ | exact ⟨_, _, _, _, _, rfl, rfl, (((zz.put 0 (.int .i64 R.epoch)).put 1 (.int .i64 R.off)).put 2 (.slice o5a R.out.length o5c)).bx.sits, (((dUnhide Q5).setFar (.inr (Nat.le_refl _)) (.int .i64 R.epoch)).setFar (.inr (Nat.le_refl _)) (.int .i64 R.off)).setFar (.inr (Nat.le_refl _)) (.slice o5a R.out.length o5c), (.inr (Nat.le_refl _)), zz.1, hcz, hst⟩
        · go_simp
          have zz := BxZ.new (B := ws3.heap.size) _ [.int .i64 0, .int .i64 0, .slice none 0 0] 56 hcur.size
          (try replace Q0 := dHide ((dUnhide Q0).below (ha _ (.cells #[.int .i64 0, .int .i64 0, .slice none 0 0] 56))))
          (try replace Q1 := dHide ((dUnhide Q1).below (ha _ (.cells #[.int .i64 0, .int .i64 0, .slice none 0 0] 56))))
          (try replace Q2 := dHide ((dUnhide Q2).below (ha _ (.cells #[.int .i64 0, .int .i64 0, .slice none 0 0] 56))))
          (try replace Q3 := dHide ((dUnhide Q3).below (ha _ (.cells #[.int .i64 0, .int .i64 0, .slice none 0 0] 56))))
          (try replace Q5 := dHide ((dUnhide Q5).below (ha _ (.cells #[.int .i64 0, .int .i64 0, .slice none 0 0] 56))))
          replace hcur := hcur.alloc hcur.size (.cells #[.int .i64 0, .int .i64 0, .slice none 0 0] 56)
          first | generalize w5.alloc (.cells #[.int .i64 0, .int .i64 0, .slice none 0 0] 56) = wa at * | generalize wq3.alloc (.cells #[.int .i64 0, .int .i64 0, .slice none 0 0] 56) = wa at * | generalize wq2.alloc (.cells #[.int .i64 0, .int .i64 0, .slice none 0 0] 56) = wa at * | generalize wq1.alloc (.cells #[.int .i64 0, .int .i64 0, .slice none 0 0] 56) = wa at * | generalize wq0.alloc (.cells #[.int .i64 0, .int .i64 0, .slice none 0 0] 56) = wa at * | generalize wd.alloc (.cells #[.int .i64 0, .int .i64 0, .slice none 0 0] 56) = wa at * | fail
          refine hK.out _ _ (by first | exact dUnhide HC _ hcur | exact dUnhide HC _ hst | exact dUnhide HC _ hbr | fail) (fun hHeld => ?_)
          clear hK K
          try simp only [Act.put, List.setIfInBounds_toArray, List.set_cons_zero, List.set_cons_succ]
          refine wpAnyH_ready (rs := [6]) (by kernel_rfl) (by simp) ?_
          refine AllReadyH.cons (o := { dst := some 52, op := Op.call { callee := Callee.value (Operand.func 42), args := #[Operand.tmp 51], argTypes := #[76] }, type := 56, pos := "exact.go:3614", after := #[{ on := 5, ground := Ground.data }, { on := 3, ground := Ground.chain }], guard := none }) rfl (fun K hK => ?_) AllReadyH.nil
          go_simp
          refine (toReader_ _ m3 _ hs3 (dUnhide A3 _ (belowThen B hcur))).mono ?_
          rintro e wq2 ⟨o2, rfl, q2, b2⟩
          replace hcur := belowThen hcur b2
          (try replace zz := BxZ.below zz b2)
          replace Q0 := dHide ((dUnhide Q0).below b2)
          replace Q1 := dHide ((dUnhide Q1).below b2)
          have Q2 := dHide q2
          obtain ⟨o2a, o2c, rfl, o2l⟩ := formReader q2.now.rd
          clear q2 b2
          (try go_wp2_with fail)
          refine hK.out _ _ (by first | exact dUnhide HC _ hcur | exact dUnhide HC _ hst | exact dUnhide HC _ hbr | fail) (fun hHeld => ?_)
          clear hK K
          try simp only [Act.put, List.setIfInBounds_toArray, List.set_cons_zero, List.set_cons_succ]
          refine wpAnyH_ready (rs := [8]) (by kernel_rfl) (by simp) ?_
          refine AllReadyH.cons (o := { dst := some 54, op := Op.call { callee := Callee.value (Operand.func 43), args := #[Operand.tmp 53], argTypes := #[77] }, type := 57, pos := "exact.go:3614", after := #[{ on := 7, ground := Ground.data }, { on := 6, ground := Ground.chain }], guard := none }) rfl (fun K hK => ?_) AllReadyH.nil
          go_simp
          refine (toAnswerS_ _ m4 _ hs4 (dUnhide A4 _ (belowThen B hcur))).mono ?_
          rintro e wq3 ⟨o3, rfl, q3, b3⟩
          replace hcur := belowThen hcur b3
          (try replace zz := BxZ.below zz b3)
          replace Q0 := dHide ((dUnhide Q0).below b3)
          replace Q1 := dHide ((dUnhide Q1).below b3)
          replace Q2 := dHide ((dUnhide Q2).below b3)
          have Q3 := dHide q3
          obtain ⟨o3a, o3c, rfl, o3l⟩ := formAnswerS q3.now.rd
          clear q3 b3
          (try go_wp2_with fail)
          refine hK.out _ _ (by first | exact dUnhide HC _ hcur | exact dUnhide HC _ hst | exact dUnhide HC _ hbr | fail) (fun hHeld => ?_)
          clear hK K
          try simp only [Act.put, List.setIfInBounds_toArray, List.set_cons_zero, List.set_cons_succ]
          refine wpAnyH_ready (rs := [9]) (by kernel_rfl) (by simp) ?_
          refine AllReadyH.cons (o := { dst := some 55, op := Op.call { callee := Callee.value (Operand.func 30), args := #[Operand.tmp 47, Operand.tmp 49, Operand.tmp 50, Operand.tmp 52, Operand.tmp 54], argTypes := #[26, 53, 3, 56, 57] }, type := 60, pos := "exact.go:3614", after := #[{ on := 1, ground := Ground.data }, { on := 3, ground := Ground.data }, { on := 4, ground := Ground.data }, { on := 6, ground := Ground.data }, { on := 8, ground := Ground.data }, { on := 8, ground := Ground.chain }], guard := none }) rfl (fun K hK => ?_) AllReadyH.nil
          go_simp
          (try have hlo := BxZ.lt zz)
          have hcz := hcur.size
          refine (dUnhide CP _ _ _ _ _ (dUnhide Q0).now.rd (dUnhide Q1).now.rd (dUnhide Q2).now.rd (dUnhide Q3).now.rd).mono ?_
          rintro e w5 ⟨u5, rfl, q5, b5⟩
          replace hcur := belowThen hcur b5
          (try replace zz := BxZ.below zz b5)
          have Q5 := dHide q5
          obtain ⟨o5a, o5c, rfl, o5l⟩ := formReader q5.now.rd
          clear q5 b5 Q0 Q1 Q2 Q3
          (try go_wp2_with fail)
          refine hK.out _ _ (by first | exact dUnhide HC _ hcur | exact dUnhide HC _ hst | exact dUnhide HC _ hbr | fail) (fun hHeld => ?_)
          clear hK K
          try simp only [Act.put, List.setIfInBounds_toArray, List.set_cons_zero, List.set_cons_succ]
          refine wpAnyH_take (i := 10) (oi := { dst := some 45, op := Op.move (Operand.tmp 55), type := 60, pos := "exact.go:3614", after := #[{ on := 9, ground := Ground.data }], guard := none }) (v := ?_) rfl (by kernel_rfl) (by kernel_rfl) (by kernel_rfl) (fun _ _ _ h => h) (Or.inl ⟨by rfl, ?_⟩) (by assumption) ?_
          rotate_left 1
          · intro w hSw
            (try dsimp only at hSw)
            first | (go_simp; done) | (go_simp; with_reducible rfl)
          try simp only [Act.put, List.setIfInBounds_toArray, List.set_cons_zero, List.set_cons_succ]
          refine wpAnyH_take (i := 11) (oi := { dst := some 56, op := Op.extract (Operand.tmp 45) 0, type := 56, pos := "exact.go:3614", after := #[{ on := 10, ground := Ground.data }], guard := none }) (v := ?_) rfl (by kernel_rfl) (by kernel_rfl) (by kernel_rfl) (fun _ _ _ h => h) (Or.inl ⟨by rfl, ?_⟩) (by assumption) ?_
          rotate_left 1
          · intro w hSw
            (try dsimp only at hSw)
            first | (go_simp; done) | (go_simp; with_reducible rfl)
          try simp only [Act.put, List.setIfInBounds_toArray, List.set_cons_zero, List.set_cons_succ]
          refine wpAnyH_take (i := 12) (oi := { dst := some 57, op := Op.extract (Operand.tmp 45) 1, type := 3, pos := "exact.go:3614", after := #[{ on := 10, ground := Ground.data }, { on := 14, ground := Ground.gcOnly Departure.lateStores }], guard := none }) (v := ?_) rfl (by kernel_rfl) (by kernel_rfl) (by kernel_rfl) (fun _ _ _ h => h) (Or.inl ⟨by rfl, ?_⟩) (by assumption) ?_
          rotate_left 1
          · intro w hSw
            (try dsimp only at hSw)
            first | (go_simp; done) | (go_simp; with_reducible rfl)
          try simp only [Act.put, List.setIfInBounds_toArray, List.set_cons_zero, List.set_cons_succ]
          refine wpAnyH_ready (rs := [14]) (by kernel_rfl) (by simp) ?_
          refine AllReadyH.cons (o := { dst := none, op := Op.store 56 (Operand.tmp 12) (Operand.tmp 56), type := 0, pos := "exact.go:3614", after := #[{ on := 13, ground := Ground.data }, { on := 11, ground := Ground.data }, { on := 9, ground := Ground.chain }, { on := 0, ground := Ground.phase }, { on := 1, ground := Ground.phase }, { on := 2, ground := Ground.phase }, { on := 3, ground := Ground.phase }, { on := 4, ground := Ground.phase }, { on := 5, ground := Ground.phase }, { on := 6, ground := Ground.phase }, { on := 7, ground := Ground.phase }, { on := 8, ground := Ground.phase }, { on := 9, ground := Ground.phase }, { on := 10, ground := Ground.phase }, { on := 11, ground := Ground.phase }, { on := 12, ground := Ground.textOnly Departure.lateStores }, { on := 13, ground := Ground.phase }], guard := none }) rfl (fun K hK => ?_) AllReadyH.nil
          obtain ⟨z0, y0⟩ := zz.2 0 _ rfl
          obtain ⟨z1, y1⟩ := zz.2 1 _ rfl
          obtain ⟨z2, y2⟩ := zz.2 2 _ rfl
          go_simp
          have hst := below_thr hcur zz.1 (.int .i64 R.epoch) (.int .i64 R.off) (.slice o5a R.out.length o5c)
          clear hcur z0 y0 z1 y1 z2 y2
          refine hK.out _ _ (by first | exact dUnhide HC _ hcur | exact dUnhide HC _ hst | exact dUnhide HC _ hbr | fail) (fun hHeld => ?_)
          clear hK K
          try simp only [Act.put, List.setIfInBounds_toArray, List.set_cons_zero, List.set_cons_succ]
          refine wpAnyH_take (i := 15) (oi := { dst := some 13, op := Op.assign (Operand.tmp 57), type := 3, pos := "exact.go:3614", after := #[{ on := 12, ground := Ground.data }, { on := 14, ground := Ground.chain }, { on := 0, ground := Ground.phase }, { on := 1, ground := Ground.phase }, { on := 2, ground := Ground.phase }, { on := 3, ground := Ground.phase }, { on := 4, ground := Ground.phase }, { on := 5, ground := Ground.phase }, { on := 6, ground := Ground.phase }, { on := 7, ground := Ground.phase }, { on := 8, ground := Ground.phase }, { on := 9, ground := Ground.phase }, { on := 10, ground := Ground.phase }, { on := 11, ground := Ground.phase }, { on := 12, ground := Ground.phase }, { on := 13, ground := Ground.phase }, { on := 14, ground := Ground.phase }], guard := none }) (v := ?_) rfl (by kernel_rfl) (by kernel_rfl) (by kernel_rfl) (fun _ _ _ h => h) (Or.inl ⟨by rfl, ?_⟩) (by assumption) ?_
          rotate_left 1
          · intro w hSw
            (try dsimp only at hSw)
            first | (go_simp; done) | (go_simp; with_reducible rfl)
          try simp only [Act.put, List.setIfInBounds_toArray, List.set_cons_zero, List.set_cons_succ]
          refine wpAnyH_done (by kernel_rfl) ?_ _
          refine NoPanic.normal ?_
          go_wp2_with fail
          go_meet
          case rel => first | exact ⟨_, _, _, _, _, rfl, rfl, (((zz.put 0 (.int .i64 R.epoch)).put 1 (.int .i64 R.off)).put 2 (.slice o5a R.out.length o5c)).bx.sits, (((dUnhide Q5).setFar (.inl hlo) (.int .i64 R.epoch)).setFar (.inl hlo) (.int .i64 R.off)).setFar (.inl hlo) (.slice o5a R.out.length o5c), (.inl hlo), zz.1, hcz, hst⟩ | exact ⟨_, _, _, _, _, rfl, rfl, (((zz.put 0 (.int .i64 R.epoch)).put 1 (.int .i64 R.off)).put 2 (.slice o5a R.out.length o5c)).bx.sits, (((dUnhide Q5).setFar (.inr (Nat.le_refl _)) (.int .i64 R.epoch)).setFar (.inr (Nat.le_refl _)) (.int .i64 R.off)).setFar (.inr (Nat.le_refl _)) (.slice o5a R.out.length o5c), (.inr (Nat.le_refl _)), zz.1, hcz, hst⟩
      · go_simp
        have zz := BxZ.new (B := ws3.heap.size) _ [.int .i64 0, .int .i64 0, .slice none 0 0] 56 hcur.size
        (try replace Q0 := dHide ((dUnhide Q0).below (ha _ (.cells #[.int .i64 0, .int .i64 0, .slice none 0 0] 56))))
        (try replace Q1 := dHide ((dUnhide Q1).below (ha _ (.cells #[.int .i64 0, .int .i64 0, .slice none 0 0] 56))))
        (try replace Q2 := dHide ((dUnhide Q2).below (ha _ (.cells #[.int .i64 0, .int .i64 0, .slice none 0 0] 56))))
        (try replace Q3 := dHide ((dUnhide Q3).below (ha _ (.cells #[.int .i64 0, .int .i64 0, .slice none 0 0] 56))))
        (try replace Q5 := dHide ((dUnhide Q5).below (ha _ (.cells #[.int .i64 0, .int .i64 0, .slice none 0 0] 56))))
        replace hcur := hcur.alloc hcur.size (.cells #[.int .i64 0, .int .i64 0, .slice none 0 0] 56)
        first | generalize w5.alloc (.cells #[.int .i64 0, .int .i64 0, .slice none 0 0] 56) = wa at * | generalize wq3.alloc (.cells #[.int .i64 0, .int .i64 0, .slice none 0 0] 56) = wa at * | generalize wq2.alloc (.cells #[.int .i64 0, .int .i64 0, .slice none 0 0] 56) = wa at * | generalize wq1.alloc (.cells #[.int .i64 0, .int .i64 0, .slice none 0 0] 56) = wa at * | generalize wq0.alloc (.cells #[.int .i64 0, .int .i64 0, .slice none 0 0] 56) = wa at * | generalize wd.alloc (.cells #[.int .i64 0, .int .i64 0, .slice none 0 0] 56) = wa at * | fail
        refine hK.out _ _ (by first | exact dUnhide HC _ hcur | exact dUnhide HC _ hst | exact dUnhide HC _ hbr | fail) (fun hHeld => ?_)
        clear hK K
        try simp only [Act.put, List.setIfInBounds_toArray, List.set_cons_zero, List.set_cons_succ]
        refine wpAnyH_ready (rs := [3]) (by kernel_rfl) (by simp) ?_
        refine AllReadyH.cons (o := { dst := some 49, op := Op.call { callee := Callee.value (Operand.func 41), args := #[Operand.tmp 48], argTypes := #[73] }, type := 53, pos := "exact.go:3614", after := #[{ on := 2, ground := Ground.data }, { on := 1, ground := Ground.chain }], guard := none }) rfl (fun K hK => ?_) AllReadyH.nil
        go_simp
        refine (toRegister_ _ m1 _ hs1 (dUnhide A1 _ (belowThen B hcur))).mono ?_
        rintro e wq1 ⟨o1, rfl, q1, b1⟩
        replace hcur := belowThen hcur b1
        (try replace zz := BxZ.below zz b1)
        replace Q0 := dHide ((dUnhide Q0).below b1)
        have Q1 := dHide q1
        obtain ⟨o1a, o1c, rfl, o1l⟩ := formRegister q1.now.rd
        clear q1 b1
        (try go_wp2_with fail)
        refine hK.out _ _ (by first | exact dUnhide HC _ hcur | exact dUnhide HC _ hst | exact dUnhide HC _ hbr | fail) (fun hHeld => ?_)
        clear hK K
        try simp only [Act.put, List.setIfInBounds_toArray, List.set_cons_zero, List.set_cons_succ]
        refine wpAnyH_ready (rs := [6]) (by kernel_rfl) (by simp) ?_
        refine AllReadyH.cons (o := { dst := some 52, op := Op.call { callee := Callee.value (Operand.func 42), args := #[Operand.tmp 51], argTypes := #[76] }, type := 56, pos := "exact.go:3614", after := #[{ on := 5, ground := Ground.data }, { on := 3, ground := Ground.chain }], guard := none }) rfl (fun K hK => ?_) AllReadyH.nil
        go_simp
        refine (toReader_ _ m3 _ hs3 (dUnhide A3 _ (belowThen B hcur))).mono ?_
        rintro e wq2 ⟨o2, rfl, q2, b2⟩
        replace hcur := belowThen hcur b2
        (try replace zz := BxZ.below zz b2)
        replace Q0 := dHide ((dUnhide Q0).below b2)
        replace Q1 := dHide ((dUnhide Q1).below b2)
        have Q2 := dHide q2
        obtain ⟨o2a, o2c, rfl, o2l⟩ := formReader q2.now.rd
        clear q2 b2
        (try go_wp2_with fail)
        refine hK.out _ _ (by first | exact dUnhide HC _ hcur | exact dUnhide HC _ hst | exact dUnhide HC _ hbr | fail) (fun hHeld => ?_)
        clear hK K
        try simp only [Act.put, List.setIfInBounds_toArray, List.set_cons_zero, List.set_cons_succ]
        refine wpAnyH_ready (rs := [8]) (by kernel_rfl) (by simp) ?_
        refine AllReadyH.cons (o := { dst := some 54, op := Op.call { callee := Callee.value (Operand.func 43), args := #[Operand.tmp 53], argTypes := #[77] }, type := 57, pos := "exact.go:3614", after := #[{ on := 7, ground := Ground.data }, { on := 6, ground := Ground.chain }], guard := none }) rfl (fun K hK => ?_) AllReadyH.nil
        go_simp
        refine (toAnswerS_ _ m4 _ hs4 (dUnhide A4 _ (belowThen B hcur))).mono ?_
        rintro e wq3 ⟨o3, rfl, q3, b3⟩
        replace hcur := belowThen hcur b3
        (try replace zz := BxZ.below zz b3)
        replace Q0 := dHide ((dUnhide Q0).below b3)
        replace Q1 := dHide ((dUnhide Q1).below b3)
        replace Q2 := dHide ((dUnhide Q2).below b3)
        have Q3 := dHide q3
        obtain ⟨o3a, o3c, rfl, o3l⟩ := formAnswerS q3.now.rd
        clear q3 b3
        (try go_wp2_with fail)
        refine hK.out _ _ (by first | exact dUnhide HC _ hcur | exact dUnhide HC _ hst | exact dUnhide HC _ hbr | fail) (fun hHeld => ?_)
        clear hK K
        try simp only [Act.put, List.setIfInBounds_toArray, List.set_cons_zero, List.set_cons_succ]
        refine wpAnyH_ready (rs := [9]) (by kernel_rfl) (by simp) ?_
        refine AllReadyH.cons (o := { dst := some 55, op := Op.call { callee := Callee.value (Operand.func 30), args := #[Operand.tmp 47, Operand.tmp 49, Operand.tmp 50, Operand.tmp 52, Operand.tmp 54], argTypes := #[26, 53, 3, 56, 57] }, type := 60, pos := "exact.go:3614", after := #[{ on := 1, ground := Ground.data }, { on := 3, ground := Ground.data }, { on := 4, ground := Ground.data }, { on := 6, ground := Ground.data }, { on := 8, ground := Ground.data }, { on := 8, ground := Ground.chain }], guard := none }) rfl (fun K hK => ?_) AllReadyH.nil
        go_simp
        (try have hlo := BxZ.lt zz)
        have hcz := hcur.size
        refine (dUnhide CP _ _ _ _ _ (dUnhide Q0).now.rd (dUnhide Q1).now.rd (dUnhide Q2).now.rd (dUnhide Q3).now.rd).mono ?_
        rintro e w5 ⟨u5, rfl, q5, b5⟩
        replace hcur := belowThen hcur b5
        (try replace zz := BxZ.below zz b5)
        have Q5 := dHide q5
        obtain ⟨o5a, o5c, rfl, o5l⟩ := formReader q5.now.rd
        clear q5 b5 Q0 Q1 Q2 Q3
        (try go_wp2_with fail)
        refine hK.out _ _ (by first | exact dUnhide HC _ hcur | exact dUnhide HC _ hst | exact dUnhide HC _ hbr | fail) (fun hHeld => ?_)
        clear hK K
        try simp only [Act.put, List.setIfInBounds_toArray, List.set_cons_zero, List.set_cons_succ]
        refine wpAnyH_take (i := 10) (oi := { dst := some 45, op := Op.move (Operand.tmp 55), type := 60, pos := "exact.go:3614", after := #[{ on := 9, ground := Ground.data }], guard := none }) (v := ?_) rfl (by kernel_rfl) (by kernel_rfl) (by kernel_rfl) (fun _ _ _ h => h) (Or.inl ⟨by rfl, ?_⟩) (by assumption) ?_
        rotate_left 1
        · intro w hSw
          (try dsimp only at hSw)
          first | (go_simp; done) | (go_simp; with_reducible rfl)
        try simp only [Act.put, List.setIfInBounds_toArray, List.set_cons_zero, List.set_cons_succ]
        refine wpAnyH_take (i := 11) (oi := { dst := some 56, op := Op.extract (Operand.tmp 45) 0, type := 56, pos := "exact.go:3614", after := #[{ on := 10, ground := Ground.data }], guard := none }) (v := ?_) rfl (by kernel_rfl) (by kernel_rfl) (by kernel_rfl) (fun _ _ _ h => h) (Or.inl ⟨by rfl, ?_⟩) (by assumption) ?_
        rotate_left 1
        · intro w hSw
          (try dsimp only at hSw)
          first | (go_simp; done) | (go_simp; with_reducible rfl)
        try simp only [Act.put, List.setIfInBounds_toArray, List.set_cons_zero, List.set_cons_succ]
        refine wpAnyH_take (i := 12) (oi := { dst := some 57, op := Op.extract (Operand.tmp 45) 1, type := 3, pos := "exact.go:3614", after := #[{ on := 10, ground := Ground.data }, { on := 14, ground := Ground.gcOnly Departure.lateStores }], guard := none }) (v := ?_) rfl (by kernel_rfl) (by kernel_rfl) (by kernel_rfl) (fun _ _ _ h => h) (Or.inl ⟨by rfl, ?_⟩) (by assumption) ?_
        rotate_left 1
        · intro w hSw
          (try dsimp only at hSw)
          first | (go_simp; done) | (go_simp; with_reducible rfl)
        try simp only [Act.put, List.setIfInBounds_toArray, List.set_cons_zero, List.set_cons_succ]
        refine wpAnyH_ready (rs := [14]) (by kernel_rfl) (by simp) ?_
        refine AllReadyH.cons (o := { dst := none, op := Op.store 56 (Operand.tmp 12) (Operand.tmp 56), type := 0, pos := "exact.go:3614", after := #[{ on := 13, ground := Ground.data }, { on := 11, ground := Ground.data }, { on := 9, ground := Ground.chain }, { on := 0, ground := Ground.phase }, { on := 1, ground := Ground.phase }, { on := 2, ground := Ground.phase }, { on := 3, ground := Ground.phase }, { on := 4, ground := Ground.phase }, { on := 5, ground := Ground.phase }, { on := 6, ground := Ground.phase }, { on := 7, ground := Ground.phase }, { on := 8, ground := Ground.phase }, { on := 9, ground := Ground.phase }, { on := 10, ground := Ground.phase }, { on := 11, ground := Ground.phase }, { on := 12, ground := Ground.textOnly Departure.lateStores }, { on := 13, ground := Ground.phase }], guard := none }) rfl (fun K hK => ?_) AllReadyH.nil
        obtain ⟨z0, y0⟩ := zz.2 0 _ rfl
        obtain ⟨z1, y1⟩ := zz.2 1 _ rfl
        obtain ⟨z2, y2⟩ := zz.2 2 _ rfl
        go_simp
        have hst := below_thr hcur zz.1 (.int .i64 R.epoch) (.int .i64 R.off) (.slice o5a R.out.length o5c)
        clear hcur z0 y0 z1 y1 z2 y2
        refine hK.out _ _ (by first | exact dUnhide HC _ hcur | exact dUnhide HC _ hst | exact dUnhide HC _ hbr | fail) (fun hHeld => ?_)
        clear hK K
        try simp only [Act.put, List.setIfInBounds_toArray, List.set_cons_zero, List.set_cons_succ]
        refine wpAnyH_take (i := 15) (oi := { dst := some 13, op := Op.assign (Operand.tmp 57), type := 3, pos := "exact.go:3614", after := #[{ on := 12, ground := Ground.data }, { on := 14, ground := Ground.chain }, { on := 0, ground := Ground.phase }, { on := 1, ground := Ground.phase }, { on := 2, ground := Ground.phase }, { on := 3, ground := Ground.phase }, { on := 4, ground := Ground.phase }, { on := 5, ground := Ground.phase }, { on := 6, ground := Ground.phase }, { on := 7, ground := Ground.phase }, { on := 8, ground := Ground.phase }, { on := 9, ground := Ground.phase }, { on := 10, ground := Ground.phase }, { on := 11, ground := Ground.phase }, { on := 12, ground := Ground.phase }, { on := 13, ground := Ground.phase }, { on := 14, ground := Ground.phase }], guard := none }) (v := ?_) rfl (by kernel_rfl) (by kernel_rfl) (by kernel_rfl) (fun _ _ _ h => h) (Or.inl ⟨by rfl, ?_⟩) (by assumption) ?_
        rotate_left 1
        · intro w hSw
          (try dsimp only at hSw)
          first | (go_simp; done) | (go_simp; with_reducible rfl)
        try simp only [Act.put, List.setIfInBounds_toArray, List.set_cons_zero, List.set_cons_succ]
        refine wpAnyH_done (by kernel_rfl) ?_ _
        refine NoPanic.normal ?_
        go_wp2_with fail
        go_meet
        case rel => first | exact ⟨_, _, _, _, _, rfl, rfl, (((zz.put 0 (.int .i64 R.epoch)).put 1 (.int .i64 R.off)).put 2 (.slice o5a R.out.length o5c)).bx.sits, (((dUnhide Q5).setFar (.inl hlo) (.int .i64 R.epoch)).setFar (.inl hlo) (.int .i64 R.off)).setFar (.inl hlo) (.slice o5a R.out.length o5c), (.inl hlo), zz.1, hcz, hst⟩ | exact ⟨_, _, _, _, _, rfl, rfl, (((zz.put 0 (.int .i64 R.epoch)).put 1 (.int .i64 R.off)).put 2 (.slice o5a R.out.length o5c)).bx.sits, (((dUnhide Q5).setFar (.inr (Nat.le_refl _)) (.int .i64 R.epoch)).setFar (.inr (Nat.le_refl _)) (.int .i64 R.off)).setFar (.inr (Nat.le_refl _)) (.slice o5a R.out.length o5c), (.inr (Nat.le_refl _)), zz.1, hcz, hst⟩
    · go_simp
      have zz := BxZ.new (B := ws3.heap.size) _ [.int .i64 0, .int .i64 0, .slice none 0 0] 56 hcur.size
      (try replace Q0 := dHide ((dUnhide Q0).below (ha _ (.cells #[.int .i64 0, .int .i64 0, .slice none 0 0] 56))))
      (try replace Q1 := dHide ((dUnhide Q1).below (ha _ (.cells #[.int .i64 0, .int .i64 0, .slice none 0 0] 56))))
      (try replace Q2 := dHide ((dUnhide Q2).below (ha _ (.cells #[.int .i64 0, .int .i64 0, .slice none 0 0] 56))))
      (try replace Q3 := dHide ((dUnhide Q3).below (ha _ (.cells #[.int .i64 0, .int .i64 0, .slice none 0 0] 56))))
      (try replace Q5 := dHide ((dUnhide Q5).below (ha _ (.cells #[.int .i64 0, .int .i64 0, .slice none 0 0] 56))))
      replace hcur := hcur.alloc hcur.size (.cells #[.int .i64 0, .int .i64 0, .slice none 0 0] 56)
      first | generalize w5.alloc (.cells #[.int .i64 0, .int .i64 0, .slice none 0 0] 56) = wa at * | generalize wq3.alloc (.cells #[.int .i64 0, .int .i64 0, .slice none 0 0] 56) = wa at * | generalize wq2.alloc (.cells #[.int .i64 0, .int .i64 0, .slice none 0 0] 56) = wa at * | generalize wq1.alloc (.cells #[.int .i64 0, .int .i64 0, .slice none 0 0] 56) = wa at * | generalize wq0.alloc (.cells #[.int .i64 0, .int .i64 0, .slice none 0 0] 56) = wa at * | generalize wd.alloc (.cells #[.int .i64 0, .int .i64 0, .slice none 0 0] 56) = wa at * | fail
      refine hK.out _ _ (by first | exact dUnhide HC _ hcur | exact dUnhide HC _ hst | exact dUnhide HC _ hbr | fail) (fun hHeld => ?_)
      clear hK K
      try simp only [Act.put, List.setIfInBounds_toArray, List.set_cons_zero, List.set_cons_succ]
      refine wpAnyH_ready (rs := [1]) (by kernel_rfl) (by simp) ?_
      refine AllReadyH.cons (o := { dst := some 47, op := Op.call { callee := Callee.value (Operand.func 40), args := #[Operand.tmp 46], argTypes := #[70] }, type := 26, pos := "exact.go:3614", after := #[{ on := 0, ground := Ground.data }], guard := none }) rfl (fun K hK => ?_) AllReadyH.nil
      go_simp
      refine (toConfig_ _ m0 _ hs0 (dUnhide A0 _ (belowThen B hcur))).mono ?_
      rintro e wq0 ⟨o0, rfl, q0, b0⟩
      replace hcur := belowThen hcur b0
      (try replace zz := BxZ.below zz b0)
      have Q0 := dHide q0
      obtain ⟨o0a, o0c, rfl, o0l⟩ := formConfig q0.now.rd
      clear q0 b0
      (try go_wp2_with fail)
      refine hK.out _ _ (by first | exact dUnhide HC _ hcur | exact dUnhide HC _ hst | exact dUnhide HC _ hbr | fail) (fun hHeld => ?_)
      clear hK K
      try simp only [Act.put, List.setIfInBounds_toArray, List.set_cons_zero, List.set_cons_succ]
      refine wpAnyH_ready (rs := [3]) (by kernel_rfl) (by simp) ?_
      refine AllReadyH.cons (o := { dst := some 49, op := Op.call { callee := Callee.value (Operand.func 41), args := #[Operand.tmp 48], argTypes := #[73] }, type := 53, pos := "exact.go:3614", after := #[{ on := 2, ground := Ground.data }, { on := 1, ground := Ground.chain }], guard := none }) rfl (fun K hK => ?_) AllReadyH.nil
      go_simp
      refine (toRegister_ _ m1 _ hs1 (dUnhide A1 _ (belowThen B hcur))).mono ?_
      rintro e wq1 ⟨o1, rfl, q1, b1⟩
      replace hcur := belowThen hcur b1
      (try replace zz := BxZ.below zz b1)
      replace Q0 := dHide ((dUnhide Q0).below b1)
      have Q1 := dHide q1
      obtain ⟨o1a, o1c, rfl, o1l⟩ := formRegister q1.now.rd
      clear q1 b1
      (try go_wp2_with fail)
      refine hK.out _ _ (by first | exact dUnhide HC _ hcur | exact dUnhide HC _ hst | exact dUnhide HC _ hbr | fail) (fun hHeld => ?_)
      clear hK K
      try simp only [Act.put, List.setIfInBounds_toArray, List.set_cons_zero, List.set_cons_succ]
      refine wpAnyH_ready (rs := [6]) (by kernel_rfl) (by simp) ?_
      refine AllReadyH.cons (o := { dst := some 52, op := Op.call { callee := Callee.value (Operand.func 42), args := #[Operand.tmp 51], argTypes := #[76] }, type := 56, pos := "exact.go:3614", after := #[{ on := 5, ground := Ground.data }, { on := 3, ground := Ground.chain }], guard := none }) rfl (fun K hK => ?_) AllReadyH.nil
      go_simp
      refine (toReader_ _ m3 _ hs3 (dUnhide A3 _ (belowThen B hcur))).mono ?_
      rintro e wq2 ⟨o2, rfl, q2, b2⟩
      replace hcur := belowThen hcur b2
      (try replace zz := BxZ.below zz b2)
      replace Q0 := dHide ((dUnhide Q0).below b2)
      replace Q1 := dHide ((dUnhide Q1).below b2)
      have Q2 := dHide q2
      obtain ⟨o2a, o2c, rfl, o2l⟩ := formReader q2.now.rd
      clear q2 b2
      (try go_wp2_with fail)
      refine hK.out _ _ (by first | exact dUnhide HC _ hcur | exact dUnhide HC _ hst | exact dUnhide HC _ hbr | fail) (fun hHeld => ?_)
      clear hK K
      try simp only [Act.put, List.setIfInBounds_toArray, List.set_cons_zero, List.set_cons_succ]
      refine wpAnyH_ready (rs := [8]) (by kernel_rfl) (by simp) ?_
      refine AllReadyH.cons (o := { dst := some 54, op := Op.call { callee := Callee.value (Operand.func 43), args := #[Operand.tmp 53], argTypes := #[77] }, type := 57, pos := "exact.go:3614", after := #[{ on := 7, ground := Ground.data }, { on := 6, ground := Ground.chain }], guard := none }) rfl (fun K hK => ?_) AllReadyH.nil
      go_simp
      refine (toAnswerS_ _ m4 _ hs4 (dUnhide A4 _ (belowThen B hcur))).mono ?_
      rintro e wq3 ⟨o3, rfl, q3, b3⟩
      replace hcur := belowThen hcur b3
      (try replace zz := BxZ.below zz b3)
      replace Q0 := dHide ((dUnhide Q0).below b3)
      replace Q1 := dHide ((dUnhide Q1).below b3)
      replace Q2 := dHide ((dUnhide Q2).below b3)
      have Q3 := dHide q3
      obtain ⟨o3a, o3c, rfl, o3l⟩ := formAnswerS q3.now.rd
      clear q3 b3
      (try go_wp2_with fail)
      refine hK.out _ _ (by first | exact dUnhide HC _ hcur | exact dUnhide HC _ hst | exact dUnhide HC _ hbr | fail) (fun hHeld => ?_)
      clear hK K
      try simp only [Act.put, List.setIfInBounds_toArray, List.set_cons_zero, List.set_cons_succ]
      refine wpAnyH_ready (rs := [9]) (by kernel_rfl) (by simp) ?_
      refine AllReadyH.cons (o := { dst := some 55, op := Op.call { callee := Callee.value (Operand.func 30), args := #[Operand.tmp 47, Operand.tmp 49, Operand.tmp 50, Operand.tmp 52, Operand.tmp 54], argTypes := #[26, 53, 3, 56, 57] }, type := 60, pos := "exact.go:3614", after := #[{ on := 1, ground := Ground.data }, { on := 3, ground := Ground.data }, { on := 4, ground := Ground.data }, { on := 6, ground := Ground.data }, { on := 8, ground := Ground.data }, { on := 8, ground := Ground.chain }], guard := none }) rfl (fun K hK => ?_) AllReadyH.nil
      go_simp
      (try have hlo := BxZ.lt zz)
      have hcz := hcur.size
      refine (dUnhide CP _ _ _ _ _ (dUnhide Q0).now.rd (dUnhide Q1).now.rd (dUnhide Q2).now.rd (dUnhide Q3).now.rd).mono ?_
      rintro e w5 ⟨u5, rfl, q5, b5⟩
      replace hcur := belowThen hcur b5
      (try replace zz := BxZ.below zz b5)
      have Q5 := dHide q5
      obtain ⟨o5a, o5c, rfl, o5l⟩ := formReader q5.now.rd
      clear q5 b5 Q0 Q1 Q2 Q3
      (try go_wp2_with fail)
      refine hK.out _ _ (by first | exact dUnhide HC _ hcur | exact dUnhide HC _ hst | exact dUnhide HC _ hbr | fail) (fun hHeld => ?_)
      clear hK K
      try simp only [Act.put, List.setIfInBounds_toArray, List.set_cons_zero, List.set_cons_succ]
      refine wpAnyH_take (i := 10) (oi := { dst := some 45, op := Op.move (Operand.tmp 55), type := 60, pos := "exact.go:3614", after := #[{ on := 9, ground := Ground.data }], guard := none }) (v := ?_) rfl (by kernel_rfl) (by kernel_rfl) (by kernel_rfl) (fun _ _ _ h => h) (Or.inl ⟨by rfl, ?_⟩) (by assumption) ?_
      rotate_left 1
      · intro w hSw
        (try dsimp only at hSw)
        first | (go_simp; done) | (go_simp; with_reducible rfl)
      try simp only [Act.put, List.setIfInBounds_toArray, List.set_cons_zero, List.set_cons_succ]
      refine wpAnyH_take (i := 11) (oi := { dst := some 56, op := Op.extract (Operand.tmp 45) 0, type := 56, pos := "exact.go:3614", after := #[{ on := 10, ground := Ground.data }], guard := none }) (v := ?_) rfl (by kernel_rfl) (by kernel_rfl) (by kernel_rfl) (fun _ _ _ h => h) (Or.inl ⟨by rfl, ?_⟩) (by assumption) ?_
      rotate_left 1
      · intro w hSw
        (try dsimp only at hSw)
        first | (go_simp; done) | (go_simp; with_reducible rfl)
      try simp only [Act.put, List.setIfInBounds_toArray, List.set_cons_zero, List.set_cons_succ]
      refine wpAnyH_take (i := 12) (oi := { dst := some 57, op := Op.extract (Operand.tmp 45) 1, type := 3, pos := "exact.go:3614", after := #[{ on := 10, ground := Ground.data }, { on := 14, ground := Ground.gcOnly Departure.lateStores }], guard := none }) (v := ?_) rfl (by kernel_rfl) (by kernel_rfl) (by kernel_rfl) (fun _ _ _ h => h) (Or.inl ⟨by rfl, ?_⟩) (by assumption) ?_
      rotate_left 1
      · intro w hSw
        (try dsimp only at hSw)
        first | (go_simp; done) | (go_simp; with_reducible rfl)
      try simp only [Act.put, List.setIfInBounds_toArray, List.set_cons_zero, List.set_cons_succ]
      refine wpAnyH_ready (rs := [14]) (by kernel_rfl) (by simp) ?_
      refine AllReadyH.cons (o := { dst := none, op := Op.store 56 (Operand.tmp 12) (Operand.tmp 56), type := 0, pos := "exact.go:3614", after := #[{ on := 13, ground := Ground.data }, { on := 11, ground := Ground.data }, { on := 9, ground := Ground.chain }, { on := 0, ground := Ground.phase }, { on := 1, ground := Ground.phase }, { on := 2, ground := Ground.phase }, { on := 3, ground := Ground.phase }, { on := 4, ground := Ground.phase }, { on := 5, ground := Ground.phase }, { on := 6, ground := Ground.phase }, { on := 7, ground := Ground.phase }, { on := 8, ground := Ground.phase }, { on := 9, ground := Ground.phase }, { on := 10, ground := Ground.phase }, { on := 11, ground := Ground.phase }, { on := 12, ground := Ground.textOnly Departure.lateStores }, { on := 13, ground := Ground.phase }], guard := none }) rfl (fun K hK => ?_) AllReadyH.nil
      obtain ⟨z0, y0⟩ := zz.2 0 _ rfl
      obtain ⟨z1, y1⟩ := zz.2 1 _ rfl
      obtain ⟨z2, y2⟩ := zz.2 2 _ rfl
      go_simp
      have hst := below_thr hcur zz.1 (.int .i64 R.epoch) (.int .i64 R.off) (.slice o5a R.out.length o5c)
      clear hcur z0 y0 z1 y1 z2 y2
      refine hK.out _ _ (by first | exact dUnhide HC _ hcur | exact dUnhide HC _ hst | exact dUnhide HC _ hbr | fail) (fun hHeld => ?_)
      clear hK K
      try simp only [Act.put, List.setIfInBounds_toArray, List.set_cons_zero, List.set_cons_succ]
      refine wpAnyH_take (i := 15) (oi := { dst := some 13, op := Op.assign (Operand.tmp 57), type := 3, pos := "exact.go:3614", after := #[{ on := 12, ground := Ground.data }, { on := 14, ground := Ground.chain }, { on := 0, ground := Ground.phase }, { on := 1, ground := Ground.phase }, { on := 2, ground := Ground.phase }, { on := 3, ground := Ground.phase }, { on := 4, ground := Ground.phase }, { on := 5, ground := Ground.phase }, { on := 6, ground := Ground.phase }, { on := 7, ground := Ground.phase }, { on := 8, ground := Ground.phase }, { on := 9, ground := Ground.phase }, { on := 10, ground := Ground.phase }, { on := 11, ground := Ground.phase }, { on := 12, ground := Ground.phase }, { on := 13, ground := Ground.phase }, { on := 14, ground := Ground.phase }], guard := none }) (v := ?_) rfl (by kernel_rfl) (by kernel_rfl) (by kernel_rfl) (fun _ _ _ h => h) (Or.inl ⟨by rfl, ?_⟩) (by assumption) ?_
      rotate_left 1
      · intro w hSw
        (try dsimp only at hSw)
        first | (go_simp; done) | (go_simp; with_reducible rfl)
      try simp only [Act.put, List.setIfInBounds_toArray, List.set_cons_zero, List.set_cons_succ]
      refine wpAnyH_done (by kernel_rfl) ?_ _
      refine NoPanic.normal ?_
      go_wp2_with fail
      go_meet
      case rel => first | exact ⟨_, _, _, _, _, rfl, rfl, (((zz.put 0 (.int .i64 R.epoch)).put 1 (.int .i64 R.off)).put 2 (.slice o5a R.out.length o5c)).bx.sits, (((dUnhide Q5).setFar (.inl hlo) (.int .i64 R.epoch)).setFar (.inl hlo) (.int .i64 R.off)).setFar (.inl hlo) (.slice o5a R.out.length o5c), (.inl hlo), zz.1, hcz, hst⟩ | exact ⟨_, _, _, _, _, rfl, rfl, (((zz.put 0 (.int .i64 R.epoch)).put 1 (.int .i64 R.off)).put 2 (.slice o5a R.out.length o5c)).bx.sits, (((dUnhide Q5).setFar (.inr (Nat.le_refl _)) (.int .i64 R.epoch)).setFar (.inr (Nat.le_refl _)) (.int .i64 R.off)).setFar (.inr (Nat.le_refl _)) (.slice o5a R.out.length o5c), (.inr (Nat.le_refl _)), zz.1, hcz, hst⟩
  case rest =>
    obtain ⟨bX11, lod10, hid10, uwa, uwc, rfl, rfl, X11, OW, dd10, gd10, id10, bc⟩ := hcut
    clear kd100 kd101 kd102 kd103 kd104 kd105 kd106 HC hbr
    have sz12 := dHide bc.size
    replace X0 := dHide ((dUnhide X0).below bc)
    replace X1 := dHide ((dUnhide X1).below bc)
    replace X2 := dHide ((dUnhide X2).below bc)
    replace B := belowThen B bc
    have sz13 := dHide dd10
    have sz14 := dHide gd10
    have sz15 := dHide id10
    have sz16 := dHide X11.fit
    have sz17 := dHide OW.fit
    replace X11 := dHide X11
    replace OW := dHide OW
    clear bc dd10 gd10 id10
    generalize wc = w3 at *
    clear CP
    have k18 := (dUnhide X0).now 0 _ rfl
    have k19 := (dUnhide X0).now 1 _ rfl
    go_wp2_with fail
    refine (toConfig_ _ m0 _ hs0 (dUnhide A0 _ B)).mono ?_
    rintro e w22 ⟨u21, rfl, T20, b23⟩
    clear k18 k19
    have sz24 := dHide b23.size
    replace X0 := dHide ((dUnhide X0).below b23)
    replace X1 := dHide ((dUnhide X1).below b23)
    replace X2 := dHide ((dUnhide X2).below b23)
    replace X11 := dHide ((dUnhide X11).below b23)
    replace OW := dHide ((dUnhide OW).below b23)
    replace B := belowThen B b23
    replace T20 := dHide T20
    clear b23
    obtain ⟨u21a, u21c, rfl, u21l⟩ := formConfig (dUnhide T20).now.rd
    have X25 := Sits.box w22 #[.slice u21a m0.1.length u21c, .int .i64 m0.2] 26
    have ba := ha w22 (.cells #[.slice u21a m0.1.length u21c, .int .i64 m0.2] 26)
    have sz27 := dHide ba.size
    replace X0 := dHide ((dUnhide X0).below ba)
    replace X1 := dHide ((dUnhide X1).below ba)
    replace X2 := dHide ((dUnhide X2).below ba)
    replace X11 := dHide ((dUnhide X11).below ba)
    replace OW := dHide ((dUnhide OW).below ba)
    replace T20 := dHide ((dUnhide T20).below ba)
    replace B := belowThen B ba
    have sz28 : Hid (w22.heap.size + 1 = (w22.alloc (.cells #[.slice u21a m0.1.length u21c, .int .i64 m0.2] 26)).heap.size) := by simp [Hid]
    replace X25 := dHide X25
    clear ba
    have k29 := (dUnhide X1).now 0 _ rfl
    have k30 := (dUnhide X1).now 1 _ rfl
    go_wp2_with fail
    generalize hbx26 : w22.heap.size = bx26 at *
    generalize w22.alloc (.cells #[.slice u21a m0.1.length u21c, .int .i64 m0.2] 26) = w31 at *
    have sz32 := dHide hbx26
    clear hbx26
    have k33 := (dUnhide X1).now 0 _ rfl
    have k34 := (dUnhide X1).now 1 _ rfl
    refine (toRegister_ _ m1 _ hs1 (dUnhide A1 _ B)).mono ?_
    rintro e w37 ⟨u36, rfl, T35, b38⟩
    clear k33 k34
    clear k29 k30
    have sz39 := dHide b38.size
    replace X0 := dHide ((dUnhide X0).below b38)
    replace X1 := dHide ((dUnhide X1).below b38)
    replace X2 := dHide ((dUnhide X2).below b38)
    replace X11 := dHide ((dUnhide X11).below b38)
    replace OW := dHide ((dUnhide OW).below b38)
    replace T20 := dHide ((dUnhide T20).below b38)
    replace X25 := dHide ((dUnhide X25).below b38)
    replace B := belowThen B b38
    replace T35 := dHide T35
    clear b38
    obtain ⟨u36a, u36c, rfl, u36l⟩ := formRegister (dUnhide T35).now.rd
    have X40 := Sits.box w37 #[.slice u36a m1.eras.length u36c, .int .i64 m1.trim] 53
    have ba := ha w37 (.cells #[.slice u36a m1.eras.length u36c, .int .i64 m1.trim] 53)
    have sz42 := dHide ba.size
    replace X0 := dHide ((dUnhide X0).below ba)
    replace X1 := dHide ((dUnhide X1).below ba)
    replace X2 := dHide ((dUnhide X2).below ba)
    replace X11 := dHide ((dUnhide X11).below ba)
    replace OW := dHide ((dUnhide OW).below ba)
    replace T20 := dHide ((dUnhide T20).below ba)
    replace X25 := dHide ((dUnhide X25).below ba)
    replace T35 := dHide ((dUnhide T35).below ba)
    replace B := belowThen B ba
    have sz43 : Hid (w37.heap.size + 1 = (w37.alloc (.cells #[.slice u36a m1.eras.length u36c, .int .i64 m1.trim] 53)).heap.size) := by simp [Hid]
    replace X40 := dHide X40
    clear ba
    have k44 := (dUnhide X2).now 0 _ rfl
    have k45 := (dUnhide X2).now 1 _ rfl
    have k46 := (dUnhide X2).now 2 _ rfl
    go_wp2_with fail
    generalize hbx41 : w37.heap.size = bx41 at *
    generalize w37.alloc (.cells #[.slice u36a m1.eras.length u36c, .int .i64 m1.trim] 53) = w47 at *
    have sz48 := dHide hbx41
    clear hbx41
    have k49 := (dUnhide X2).now 0 _ rfl
    have k50 := (dUnhide X2).now 1 _ rfl
    have k51 := (dUnhide X2).now 2 _ rfl
    refine (toReader_ _ m3 _ hs3 (dUnhide A3 _ B)).mono ?_
    rintro e w54 ⟨u53, rfl, T52, b55⟩
    clear k49 k50 k51
    clear k44 k45 k46
    have sz56 := dHide b55.size
    replace X0 := dHide ((dUnhide X0).below b55)
    replace X1 := dHide ((dUnhide X1).below b55)
    replace X2 := dHide ((dUnhide X2).below b55)
    replace X11 := dHide ((dUnhide X11).below b55)
    replace OW := dHide ((dUnhide OW).below b55)
    replace T20 := dHide ((dUnhide T20).below b55)
    replace X25 := dHide ((dUnhide X25).below b55)
    replace T35 := dHide ((dUnhide T35).below b55)
    replace X40 := dHide ((dUnhide X40).below b55)
    replace B := belowThen B b55
    replace T52 := dHide T52
    clear b55
    obtain ⟨u53a, u53c, rfl, u53l⟩ := formReader (dUnhide T52).now.rd
    have X57 := Sits.box w54 #[.int .i64 m3.epoch, .int .i64 m3.off, .slice u53a m3.out.length u53c] 56
    have ba := ha w54 (.cells #[.int .i64 m3.epoch, .int .i64 m3.off, .slice u53a m3.out.length u53c] 56)
    have sz59 := dHide ba.size
    replace X0 := dHide ((dUnhide X0).below ba)
    replace X1 := dHide ((dUnhide X1).below ba)
    replace X2 := dHide ((dUnhide X2).below ba)
    replace X11 := dHide ((dUnhide X11).below ba)
    replace OW := dHide ((dUnhide OW).below ba)
    replace T20 := dHide ((dUnhide T20).below ba)
    replace X25 := dHide ((dUnhide X25).below ba)
    replace T35 := dHide ((dUnhide T35).below ba)
    replace X40 := dHide ((dUnhide X40).below ba)
    replace T52 := dHide ((dUnhide T52).below ba)
    replace B := belowThen B ba
    have sz60 : Hid (w54.heap.size + 1 = (w54.alloc (.cells #[.int .i64 m3.epoch, .int .i64 m3.off, .slice u53a m3.out.length u53c] 56)).heap.size) := by simp [Hid]
    replace X57 := dHide X57
    clear ba
    go_wp2_with fail
    generalize hbx58 : w54.heap.size = bx58 at *
    generalize w54.alloc (.cells #[.int .i64 m3.epoch, .int .i64 m3.off, .slice u53a m3.out.length u53c] 56) = w61 at *
    have sz62 := dHide hbx58
    clear hbx58
    refine (toAnswerS_ _ m4 _ hs4 (dUnhide A4 _ B)).mono ?_
    rintro e w65 ⟨u64, rfl, T63, b66⟩
    have sz67 := dHide b66.size
    replace X0 := dHide ((dUnhide X0).below b66)
    replace X1 := dHide ((dUnhide X1).below b66)
    replace X2 := dHide ((dUnhide X2).below b66)
    replace X11 := dHide ((dUnhide X11).below b66)
    replace OW := dHide ((dUnhide OW).below b66)
    replace T20 := dHide ((dUnhide T20).below b66)
    replace X25 := dHide ((dUnhide X25).below b66)
    replace T35 := dHide ((dUnhide T35).below b66)
    replace X40 := dHide ((dUnhide X40).below b66)
    replace T52 := dHide ((dUnhide T52).below b66)
    replace X57 := dHide ((dUnhide X57).below b66)
    replace B := belowThen B b66
    replace T63 := dHide T63
    clear b66
    obtain ⟨u64a, u64c, rfl, u64l⟩ := formAnswerS (dUnhide T63).now.rd
    have k68 := (dUnhide X25).now 0 _ rfl
    have k69 := (dUnhide X25).now 1 _ rfl
    have k70 := (dUnhide X40).now 0 _ rfl
    have k71 := (dUnhide X40).now 1 _ rfl
    have k72 := (dUnhide X57).now 0 _ rfl
    have k73 := (dUnhide X57).now 1 _ rfl
    have k74 := (dUnhide X57).now 2 _ rfl
    go_wp2_with fail
    refine (dUnhide CI _ _ _ _ _ (dUnhide T20).now.rd (dUnhide T35).now.rd (dUnhide T52).now.rd (dUnhide T63).now.rd).mono ?_
    rintro e w75 ⟨ug, rfl, OG, b76⟩
    clear k68 k69 k70 k71 k72 k73 k74
    have sz77 := dHide b76.size
    replace X0 := dHide ((dUnhide X0).below b76)
    replace X1 := dHide ((dUnhide X1).below b76)
    replace X2 := dHide ((dUnhide X2).below b76)
    replace X11 := dHide ((dUnhide X11).below b76)
    replace OW := dHide ((dUnhide OW).below b76)
    replace T20 := dHide ((dUnhide T20).below b76)
    replace X25 := dHide ((dUnhide X25).below b76)
    replace T35 := dHide ((dUnhide T35).below b76)
    replace X40 := dHide ((dUnhide X40).below b76)
    replace T52 := dHide ((dUnhide T52).below b76)
    replace X57 := dHide ((dUnhide X57).below b76)
    replace T63 := dHide ((dUnhide T63).below b76)
    replace B := belowThen B b76
    replace OG := dHide OG
    clear b76
    obtain ⟨uga, ugc, rfl, ugl⟩ := formReader (dUnhide OG).now.rd
    have X78 := Sits.box w75 #[.int .i64 R.epoch, .int .i64 R.off, .slice uga R.out.length ugc] 56
    have ba := ha w75 (.cells #[.int .i64 R.epoch, .int .i64 R.off, .slice uga R.out.length ugc] 56)
    have sz80 := dHide ba.size
    replace X0 := dHide ((dUnhide X0).below ba)
    replace X1 := dHide ((dUnhide X1).below ba)
    replace X2 := dHide ((dUnhide X2).below ba)
    replace X11 := dHide ((dUnhide X11).below ba)
    replace OW := dHide ((dUnhide OW).below ba)
    replace T20 := dHide ((dUnhide T20).below ba)
    replace X25 := dHide ((dUnhide X25).below ba)
    replace T35 := dHide ((dUnhide T35).below ba)
    replace X40 := dHide ((dUnhide X40).below ba)
    replace T52 := dHide ((dUnhide T52).below ba)
    replace X57 := dHide ((dUnhide X57).below ba)
    replace T63 := dHide ((dUnhide T63).below ba)
    replace OG := dHide ((dUnhide OG).below ba)
    replace B := belowThen B ba
    have sz81 : Hid (w75.heap.size + 1 = (w75.alloc (.cells #[.int .i64 R.epoch, .int .i64 R.off, .slice uga R.out.length ugc] 56)).heap.size) := by simp [Hid]
    replace X78 := dHide X78
    clear ba
    have k82 := (dUnhide X78).now 0 _ rfl
    have k83 := (dUnhide X78).now 1 _ rfl
    have k84 := (dUnhide X78).now 2 _ rfl
    have k85 := (dUnhide X11).now 0 _ rfl
    have k86 := (dUnhide X11).now 1 _ rfl
    have k87 := (dUnhide X11).now 2 _ rfl
    go_wp2_with fail
    generalize hbx79 : w75.heap.size = bx79 at *
    generalize w75.alloc (.cells #[.int .i64 R.epoch, .int .i64 R.off, .slice uga R.out.length ugc] 56) = w88 at *
    have sz89 := dHide hbx79
    clear hbx79
    refine (eqReader_ _ _ _ _ (dUnhide OG).now.rd (dUnhide OW).now.rd).mono ?_
    rintro e w90 ⟨rfl, b91⟩
    clear k82 k83 k84 k85 k86 k87
    have sz92 := dHide b91.size
    replace X0 := dHide ((dUnhide X0).below b91)
    replace X1 := dHide ((dUnhide X1).below b91)
    replace X2 := dHide ((dUnhide X2).below b91)
    replace X11 := dHide ((dUnhide X11).below b91)
    replace OW := dHide ((dUnhide OW).below b91)
    replace T20 := dHide ((dUnhide T20).below b91)
    replace X25 := dHide ((dUnhide X25).below b91)
    replace T35 := dHide ((dUnhide T35).below b91)
    replace X40 := dHide ((dUnhide X40).below b91)
    replace T52 := dHide ((dUnhide T52).below b91)
    replace X57 := dHide ((dUnhide X57).below b91)
    replace T63 := dHide ((dUnhide T63).below b91)
    replace OG := dHide ((dUnhide OG).below b91)
    replace X78 := dHide ((dUnhide X78).below b91)
    replace B := belowThen B b91
    clear b91
    have k93 := (dUnhide X25).now 0 _ rfl
    have k94 := (dUnhide X25).now 1 _ rfl
    have k95 := (dUnhide X0).now 0 _ rfl
    have k96 := (dUnhide X0).now 1 _ rfl
    have hbr := Below.refl w90.heap.size w90
    go_wp2_with fail
    go_cut [88] (fun sv wx => sv = .bool false ∧ Below w90.heap.size w90 wx)
    case first =>
      go_region_held3 (fun W => W.cell? ⟨bx26, 0, none⟩ = some (.slice u21a m0.1.length u21c) ∧ W.cell? ⟨bx26, 1, none⟩ = some (.int .i64 m0.2) ∧ W.cell? ⟨w.heap.size, 0, none⟩ = some (.slice v0a m0.1.length v0c) ∧ W.cell? ⟨w.heap.size, 1, none⟩ = some (.int .i64 m0.2)) (go_keep)
        (first
          | (go_at_call 40; refine (toConfig_ _ m0 _ hs0 (dUnhide A0 _ (belowThen B hbr.drew))).mono ?_; rintro e w8 ⟨o8, rfl, q8, b8⟩; have hb8 := belowThen hbr.drew b8; have k97 := ((dUnhide X25).at hb8) 0 _ rfl; have k98 := ((dUnhide X25).at hb8) 1 _ rfl; have k99 := ((dUnhide X0).at hb8) 0 _ rfl; have k100 := ((dUnhide X0).at hb8) 1 _ rfl; have Q8 := dHide q8; obtain ⟨o8a, o8c, rfl, o8l⟩ := formConfig q8.now.rd; clear q8)
          | (go_at_call 45; refine (eqConfig_ _ _ _ _ ((dUnhide T20).at hb8).rd (dUnhide Q8).now.rd).mono ?_; rintro e w9 ⟨rfl, b9⟩; have hb9 := belowThen hb8 b9; have k101 := ((dUnhide X25).at hb9) 0 _ rfl; have k102 := ((dUnhide X25).at hb9) 1 _ rfl; have k103 := ((dUnhide X0).at hb9) 0 _ rfl; have k104 := ((dUnhide X0).at hb9) 1 _ rfl))
      all_goals
        go_wp2_with fail
        go_meet
        case rel => exact ⟨rfl, hb9⟩
    case rest =>
      obtain ⟨rfl, bc⟩ := hcut
      clear hbr
      clear k93 k94 k95 k96
      have sz105 := dHide bc.size
      replace X0 := dHide ((dUnhide X0).below bc)
      replace X1 := dHide ((dUnhide X1).below bc)
      replace X2 := dHide ((dUnhide X2).below bc)
      replace X11 := dHide ((dUnhide X11).below bc)
      replace OW := dHide ((dUnhide OW).below bc)
      replace T20 := dHide ((dUnhide T20).below bc)
      replace X25 := dHide ((dUnhide X25).below bc)
      replace T35 := dHide ((dUnhide T35).below bc)
      replace X40 := dHide ((dUnhide X40).below bc)
      replace T52 := dHide ((dUnhide T52).below bc)
      replace X57 := dHide ((dUnhide X57).below bc)
      replace T63 := dHide ((dUnhide T63).below bc)
      replace OG := dHide ((dUnhide OG).below bc)
      replace X78 := dHide ((dUnhide X78).below bc)
      replace B := belowThen B bc
      generalize wc = w106 at *
      clear bc
      have k107 := (dUnhide X40).now 0 _ rfl
      have k108 := (dUnhide X40).now 1 _ rfl
      have k109 := (dUnhide X1).now 0 _ rfl
      have k110 := (dUnhide X1).now 1 _ rfl
      have hbr := Below.refl w106.heap.size w106
      go_wp2_with fail
      go_cut [93] (fun sv wx => sv = .bool false ∧ Below w106.heap.size w106 wx)
      case first =>
        go_region_held3 (fun W => W.cell? ⟨bx41, 0, none⟩ = some (.slice u36a m1.eras.length u36c) ∧ W.cell? ⟨bx41, 1, none⟩ = some (.int .i64 m1.trim) ∧ W.cell? ⟨w.heap.size + 1, 0, none⟩ = some (.slice v1a m1.eras.length v1c) ∧ W.cell? ⟨w.heap.size + 1, 1, none⟩ = some (.int .i64 m1.trim)) (go_keep)
          (first
            | (go_at_call 41; refine (toRegister_ _ m1 _ hs1 (dUnhide A1 _ (belowThen B hbr.drew))).mono ?_; rintro e w8 ⟨o8, rfl, q8, b8⟩; have hb8 := belowThen hbr.drew b8; have k111 := ((dUnhide X40).at hb8) 0 _ rfl; have k112 := ((dUnhide X40).at hb8) 1 _ rfl; have k113 := ((dUnhide X1).at hb8) 0 _ rfl; have k114 := ((dUnhide X1).at hb8) 1 _ rfl; have Q8 := dHide q8; obtain ⟨o8a, o8c, rfl, o8l⟩ := formRegister q8.now.rd; clear q8)
            | (go_at_call 46; refine (eqRegister_ _ _ _ _ ((dUnhide T35).at hb8).rd (dUnhide Q8).now.rd).mono ?_; rintro e w9 ⟨rfl, b9⟩; have hb9 := belowThen hb8 b9; have k115 := ((dUnhide X40).at hb9) 0 _ rfl; have k116 := ((dUnhide X40).at hb9) 1 _ rfl; have k117 := ((dUnhide X1).at hb9) 0 _ rfl; have k118 := ((dUnhide X1).at hb9) 1 _ rfl))
        all_goals
          go_wp2_with fail
          go_meet
          case rel => exact ⟨rfl, hb9⟩
      case rest =>
        obtain ⟨rfl, bc⟩ := hcut
        clear hbr
        clear k107 k108 k109 k110
        have sz119 := dHide bc.size
        replace X0 := dHide ((dUnhide X0).below bc)
        replace X1 := dHide ((dUnhide X1).below bc)
        replace X2 := dHide ((dUnhide X2).below bc)
        replace X11 := dHide ((dUnhide X11).below bc)
        replace OW := dHide ((dUnhide OW).below bc)
        replace T20 := dHide ((dUnhide T20).below bc)
        replace X25 := dHide ((dUnhide X25).below bc)
        replace T35 := dHide ((dUnhide T35).below bc)
        replace X40 := dHide ((dUnhide X40).below bc)
        replace T52 := dHide ((dUnhide T52).below bc)
        replace X57 := dHide ((dUnhide X57).below bc)
        replace T63 := dHide ((dUnhide T63).below bc)
        replace OG := dHide ((dUnhide OG).below bc)
        replace X78 := dHide ((dUnhide X78).below bc)
        replace B := belowThen B bc
        generalize wc = w120 at *
        clear bc
        have k121 := (dUnhide X57).now 0 _ rfl
        have k122 := (dUnhide X57).now 1 _ rfl
        have k123 := (dUnhide X57).now 2 _ rfl
        have k124 := (dUnhide X2).now 0 _ rfl
        have k125 := (dUnhide X2).now 1 _ rfl
        have k126 := (dUnhide X2).now 2 _ rfl
        have hbr := Below.refl w120.heap.size w120
        go_wp2_with fail
        go_cut [98] (fun sv wx => sv = .bool false ∧ Below w120.heap.size w120 wx)
        case first =>
          go_region_held3 (fun W => W.cell? ⟨bx58, 0, none⟩ = some (.int .i64 m3.epoch) ∧ W.cell? ⟨bx58, 1, none⟩ = some (.int .i64 m3.off) ∧ W.cell? ⟨bx58, 2, none⟩ = some (.slice u53a m3.out.length u53c) ∧ W.cell? ⟨w.heap.size + 1 + 1, 0, none⟩ = some (.int .i64 m3.epoch) ∧ W.cell? ⟨w.heap.size + 1 + 1, 1, none⟩ = some (.int .i64 m3.off) ∧ W.cell? ⟨w.heap.size + 1 + 1, 2, none⟩ = some (.slice v3a m3.out.length v3c)) (go_keep)
            (first
              | (go_at_call 42; refine (toReader_ _ m3 _ hs3 (dUnhide A3 _ (belowThen B hbr.drew))).mono ?_; rintro e w8 ⟨o8, rfl, q8, b8⟩; have hb8 := belowThen hbr.drew b8; have k127 := ((dUnhide X57).at hb8) 0 _ rfl; have k128 := ((dUnhide X57).at hb8) 1 _ rfl; have k129 := ((dUnhide X57).at hb8) 2 _ rfl; have k130 := ((dUnhide X2).at hb8) 0 _ rfl; have k131 := ((dUnhide X2).at hb8) 1 _ rfl; have k132 := ((dUnhide X2).at hb8) 2 _ rfl; have Q8 := dHide q8; obtain ⟨o8a, o8c, rfl, o8l⟩ := formReader q8.now.rd; clear q8)
              | (go_at_call 44; refine (eqReader_ _ _ _ _ ((dUnhide T52).at hb8).rd (dUnhide Q8).now.rd).mono ?_; rintro e w9 ⟨rfl, b9⟩; have hb9 := belowThen hb8 b9; have k133 := ((dUnhide X57).at hb9) 0 _ rfl; have k134 := ((dUnhide X57).at hb9) 1 _ rfl; have k135 := ((dUnhide X57).at hb9) 2 _ rfl; have k136 := ((dUnhide X2).at hb9) 0 _ rfl; have k137 := ((dUnhide X2).at hb9) 1 _ rfl; have k138 := ((dUnhide X2).at hb9) 2 _ rfl))
          all_goals
            go_wp2_with fail
            go_meet
            case rel => exact ⟨rfl, hb9⟩
        case rest =>
          obtain ⟨rfl, bc⟩ := hcut
          clear hbr
          clear k121 k122 k123 k124 k125 k126
          have sz139 := dHide bc.size
          replace X0 := dHide ((dUnhide X0).below bc)
          replace X1 := dHide ((dUnhide X1).below bc)
          replace X2 := dHide ((dUnhide X2).below bc)
          replace X11 := dHide ((dUnhide X11).below bc)
          replace OW := dHide ((dUnhide OW).below bc)
          replace T20 := dHide ((dUnhide T20).below bc)
          replace X25 := dHide ((dUnhide X25).below bc)
          replace T35 := dHide ((dUnhide T35).below bc)
          replace X40 := dHide ((dUnhide X40).below bc)
          replace T52 := dHide ((dUnhide T52).below bc)
          replace X57 := dHide ((dUnhide X57).below bc)
          replace T63 := dHide ((dUnhide T63).below bc)
          replace OG := dHide ((dUnhide OG).below bc)
          replace X78 := dHide ((dUnhide X78).below bc)
          replace B := belowThen B bc
          generalize wc = w140 at *
          clear bc
          go_wp2_with fail
          refine (toAnswerS_ _ m4 _ hs4 (dUnhide A4 _ B)).mono ?_
          rintro e w143 ⟨u142, rfl, T141, b144⟩
          have sz145 := dHide b144.size
          replace X0 := dHide ((dUnhide X0).below b144)
          replace X1 := dHide ((dUnhide X1).below b144)
          replace X2 := dHide ((dUnhide X2).below b144)
          replace X11 := dHide ((dUnhide X11).below b144)
          replace OW := dHide ((dUnhide OW).below b144)
          replace T20 := dHide ((dUnhide T20).below b144)
          replace X25 := dHide ((dUnhide X25).below b144)
          replace T35 := dHide ((dUnhide T35).below b144)
          replace X40 := dHide ((dUnhide X40).below b144)
          replace T52 := dHide ((dUnhide T52).below b144)
          replace X57 := dHide ((dUnhide X57).below b144)
          replace T63 := dHide ((dUnhide T63).below b144)
          replace OG := dHide ((dUnhide OG).below b144)
          replace X78 := dHide ((dUnhide X78).below b144)
          replace B := belowThen B b144
          replace T141 := dHide T141
          clear b144
          obtain ⟨u142a, u142c, rfl, u142l⟩ := formAnswerS (dUnhide T141).now.rd
          go_wp2_with fail
          refine (eqAnswerS_ _ _ _ _ (dUnhide T63).now.rd (dUnhide T141).now.rd).mono ?_
          rintro e w146 ⟨rfl, b147⟩
          clear T141
          have sz148 := dHide b147.size
          replace X0 := dHide ((dUnhide X0).below b147)
          replace X1 := dHide ((dUnhide X1).below b147)
          replace X2 := dHide ((dUnhide X2).below b147)
          replace X11 := dHide ((dUnhide X11).below b147)
          replace OW := dHide ((dUnhide OW).below b147)
          replace T20 := dHide ((dUnhide T20).below b147)
          replace X25 := dHide ((dUnhide X25).below b147)
          replace T35 := dHide ((dUnhide T35).below b147)
          replace X40 := dHide ((dUnhide X40).below b147)
          replace T52 := dHide ((dUnhide T52).below b147)
          replace X57 := dHide ((dUnhide X57).below b147)
          replace T63 := dHide ((dUnhide T63).below b147)
          replace OG := dHide ((dUnhide OG).below b147)
          replace X78 := dHide ((dUnhide X78).below b147)
          replace B := belowThen B b147
          clear b147
          have k149 := (dUnhide X25).now 0 _ rfl
          have k150 := (dUnhide X25).now 1 _ rfl
          go_wp2_with fail
          refine (markConfig_ _ _ _ _ 1 _ (by omega) (by omega) (dUnhide T20)).mono ?_
          rintro e w151 ⟨rfl, M153, b152⟩
          clear k149 k150
          replace X0 := dHide ((dUnhide X0).wr b152 (by have := dUnhide sz0; have := dUnhide sz1; have := dUnhide sz4; have := dUnhide sz8; have := dUnhide sz9; have := dUnhide sz12; have := dUnhide sz13; have := dUnhide sz14; have := dUnhide sz15; have := dUnhide sz16; have := dUnhide sz17; have := dUnhide sz24; have := dUnhide sz27; have := dUnhide sz28; have := dUnhide sz32; have := dUnhide sz39; have := dUnhide sz42; have := dUnhide sz43; have := dUnhide sz48; have := dUnhide sz56; have := dUnhide sz59; have := dUnhide sz60; have := dUnhide sz62; have := dUnhide sz67; have := dUnhide sz77; have := dUnhide sz80; have := dUnhide sz81; have := dUnhide sz89; have := dUnhide sz92; have := dUnhide sz105; have := dUnhide sz119; have := dUnhide sz139; have := dUnhide sz145; have := dUnhide sz148; omega))
          replace X1 := dHide ((dUnhide X1).wr b152 (by have := dUnhide sz0; have := dUnhide sz1; have := dUnhide sz4; have := dUnhide sz8; have := dUnhide sz9; have := dUnhide sz12; have := dUnhide sz13; have := dUnhide sz14; have := dUnhide sz15; have := dUnhide sz16; have := dUnhide sz17; have := dUnhide sz24; have := dUnhide sz27; have := dUnhide sz28; have := dUnhide sz32; have := dUnhide sz39; have := dUnhide sz42; have := dUnhide sz43; have := dUnhide sz48; have := dUnhide sz56; have := dUnhide sz59; have := dUnhide sz60; have := dUnhide sz62; have := dUnhide sz67; have := dUnhide sz77; have := dUnhide sz80; have := dUnhide sz81; have := dUnhide sz89; have := dUnhide sz92; have := dUnhide sz105; have := dUnhide sz119; have := dUnhide sz139; have := dUnhide sz145; have := dUnhide sz148; omega))
          replace X2 := dHide ((dUnhide X2).wr b152 (by have := dUnhide sz0; have := dUnhide sz1; have := dUnhide sz4; have := dUnhide sz8; have := dUnhide sz9; have := dUnhide sz12; have := dUnhide sz13; have := dUnhide sz14; have := dUnhide sz15; have := dUnhide sz16; have := dUnhide sz17; have := dUnhide sz24; have := dUnhide sz27; have := dUnhide sz28; have := dUnhide sz32; have := dUnhide sz39; have := dUnhide sz42; have := dUnhide sz43; have := dUnhide sz48; have := dUnhide sz56; have := dUnhide sz59; have := dUnhide sz60; have := dUnhide sz62; have := dUnhide sz67; have := dUnhide sz77; have := dUnhide sz80; have := dUnhide sz81; have := dUnhide sz89; have := dUnhide sz92; have := dUnhide sz105; have := dUnhide sz119; have := dUnhide sz139; have := dUnhide sz145; have := dUnhide sz148; omega))
          replace X11 := dHide ((dUnhide X11).wr b152 (by have := dUnhide sz0; have := dUnhide sz1; have := dUnhide sz4; have := dUnhide sz8; have := dUnhide sz9; have := dUnhide sz12; have := dUnhide sz13; have := dUnhide sz14; have := dUnhide sz15; have := dUnhide sz16; have := dUnhide sz17; have := dUnhide sz24; have := dUnhide sz27; have := dUnhide sz28; have := dUnhide sz32; have := dUnhide sz39; have := dUnhide sz42; have := dUnhide sz43; have := dUnhide sz48; have := dUnhide sz56; have := dUnhide sz59; have := dUnhide sz60; have := dUnhide sz62; have := dUnhide sz67; have := dUnhide sz77; have := dUnhide sz80; have := dUnhide sz81; have := dUnhide sz89; have := dUnhide sz92; have := dUnhide sz105; have := dUnhide sz119; have := dUnhide sz139; have := dUnhide sz145; have := dUnhide sz148; omega))
          replace OW := dHide ((dUnhide OW).wr b152 (by have := dUnhide sz0; have := dUnhide sz1; have := dUnhide sz4; have := dUnhide sz8; have := dUnhide sz9; have := dUnhide sz12; have := dUnhide sz13; have := dUnhide sz14; have := dUnhide sz15; have := dUnhide sz16; have := dUnhide sz17; have := dUnhide sz24; have := dUnhide sz27; have := dUnhide sz28; have := dUnhide sz32; have := dUnhide sz39; have := dUnhide sz42; have := dUnhide sz43; have := dUnhide sz48; have := dUnhide sz56; have := dUnhide sz59; have := dUnhide sz60; have := dUnhide sz62; have := dUnhide sz67; have := dUnhide sz77; have := dUnhide sz80; have := dUnhide sz81; have := dUnhide sz89; have := dUnhide sz92; have := dUnhide sz105; have := dUnhide sz119; have := dUnhide sz139; have := dUnhide sz145; have := dUnhide sz148; omega))
          replace X25 := dHide ((dUnhide X25).wr b152 (by have := dUnhide sz0; have := dUnhide sz1; have := dUnhide sz4; have := dUnhide sz8; have := dUnhide sz9; have := dUnhide sz12; have := dUnhide sz13; have := dUnhide sz14; have := dUnhide sz15; have := dUnhide sz16; have := dUnhide sz17; have := dUnhide sz24; have := dUnhide sz27; have := dUnhide sz28; have := dUnhide sz32; have := dUnhide sz39; have := dUnhide sz42; have := dUnhide sz43; have := dUnhide sz48; have := dUnhide sz56; have := dUnhide sz59; have := dUnhide sz60; have := dUnhide sz62; have := dUnhide sz67; have := dUnhide sz77; have := dUnhide sz80; have := dUnhide sz81; have := dUnhide sz89; have := dUnhide sz92; have := dUnhide sz105; have := dUnhide sz119; have := dUnhide sz139; have := dUnhide sz145; have := dUnhide sz148; omega))
          replace T35 := dHide ((dUnhide T35).wr b152 (by have := dUnhide sz0; have := dUnhide sz1; have := dUnhide sz4; have := dUnhide sz8; have := dUnhide sz9; have := dUnhide sz12; have := dUnhide sz13; have := dUnhide sz14; have := dUnhide sz15; have := dUnhide sz16; have := dUnhide sz17; have := dUnhide sz24; have := dUnhide sz27; have := dUnhide sz28; have := dUnhide sz32; have := dUnhide sz39; have := dUnhide sz42; have := dUnhide sz43; have := dUnhide sz48; have := dUnhide sz56; have := dUnhide sz59; have := dUnhide sz60; have := dUnhide sz62; have := dUnhide sz67; have := dUnhide sz77; have := dUnhide sz80; have := dUnhide sz81; have := dUnhide sz89; have := dUnhide sz92; have := dUnhide sz105; have := dUnhide sz119; have := dUnhide sz139; have := dUnhide sz145; have := dUnhide sz148; omega))
          replace X40 := dHide ((dUnhide X40).wr b152 (by have := dUnhide sz0; have := dUnhide sz1; have := dUnhide sz4; have := dUnhide sz8; have := dUnhide sz9; have := dUnhide sz12; have := dUnhide sz13; have := dUnhide sz14; have := dUnhide sz15; have := dUnhide sz16; have := dUnhide sz17; have := dUnhide sz24; have := dUnhide sz27; have := dUnhide sz28; have := dUnhide sz32; have := dUnhide sz39; have := dUnhide sz42; have := dUnhide sz43; have := dUnhide sz48; have := dUnhide sz56; have := dUnhide sz59; have := dUnhide sz60; have := dUnhide sz62; have := dUnhide sz67; have := dUnhide sz77; have := dUnhide sz80; have := dUnhide sz81; have := dUnhide sz89; have := dUnhide sz92; have := dUnhide sz105; have := dUnhide sz119; have := dUnhide sz139; have := dUnhide sz145; have := dUnhide sz148; omega))
          replace T52 := dHide ((dUnhide T52).wr b152 (by have := dUnhide sz0; have := dUnhide sz1; have := dUnhide sz4; have := dUnhide sz8; have := dUnhide sz9; have := dUnhide sz12; have := dUnhide sz13; have := dUnhide sz14; have := dUnhide sz15; have := dUnhide sz16; have := dUnhide sz17; have := dUnhide sz24; have := dUnhide sz27; have := dUnhide sz28; have := dUnhide sz32; have := dUnhide sz39; have := dUnhide sz42; have := dUnhide sz43; have := dUnhide sz48; have := dUnhide sz56; have := dUnhide sz59; have := dUnhide sz60; have := dUnhide sz62; have := dUnhide sz67; have := dUnhide sz77; have := dUnhide sz80; have := dUnhide sz81; have := dUnhide sz89; have := dUnhide sz92; have := dUnhide sz105; have := dUnhide sz119; have := dUnhide sz139; have := dUnhide sz145; have := dUnhide sz148; omega))
          replace X57 := dHide ((dUnhide X57).wr b152 (by have := dUnhide sz0; have := dUnhide sz1; have := dUnhide sz4; have := dUnhide sz8; have := dUnhide sz9; have := dUnhide sz12; have := dUnhide sz13; have := dUnhide sz14; have := dUnhide sz15; have := dUnhide sz16; have := dUnhide sz17; have := dUnhide sz24; have := dUnhide sz27; have := dUnhide sz28; have := dUnhide sz32; have := dUnhide sz39; have := dUnhide sz42; have := dUnhide sz43; have := dUnhide sz48; have := dUnhide sz56; have := dUnhide sz59; have := dUnhide sz60; have := dUnhide sz62; have := dUnhide sz67; have := dUnhide sz77; have := dUnhide sz80; have := dUnhide sz81; have := dUnhide sz89; have := dUnhide sz92; have := dUnhide sz105; have := dUnhide sz119; have := dUnhide sz139; have := dUnhide sz145; have := dUnhide sz148; omega))
          replace T63 := dHide ((dUnhide T63).wr b152 (by have := dUnhide sz0; have := dUnhide sz1; have := dUnhide sz4; have := dUnhide sz8; have := dUnhide sz9; have := dUnhide sz12; have := dUnhide sz13; have := dUnhide sz14; have := dUnhide sz15; have := dUnhide sz16; have := dUnhide sz17; have := dUnhide sz24; have := dUnhide sz27; have := dUnhide sz28; have := dUnhide sz32; have := dUnhide sz39; have := dUnhide sz42; have := dUnhide sz43; have := dUnhide sz48; have := dUnhide sz56; have := dUnhide sz59; have := dUnhide sz60; have := dUnhide sz62; have := dUnhide sz67; have := dUnhide sz77; have := dUnhide sz80; have := dUnhide sz81; have := dUnhide sz89; have := dUnhide sz92; have := dUnhide sz105; have := dUnhide sz119; have := dUnhide sz139; have := dUnhide sz145; have := dUnhide sz148; omega))
          replace OG := dHide ((dUnhide OG).wr b152 (by have := dUnhide sz0; have := dUnhide sz1; have := dUnhide sz4; have := dUnhide sz8; have := dUnhide sz9; have := dUnhide sz12; have := dUnhide sz13; have := dUnhide sz14; have := dUnhide sz15; have := dUnhide sz16; have := dUnhide sz17; have := dUnhide sz24; have := dUnhide sz27; have := dUnhide sz28; have := dUnhide sz32; have := dUnhide sz39; have := dUnhide sz42; have := dUnhide sz43; have := dUnhide sz48; have := dUnhide sz56; have := dUnhide sz59; have := dUnhide sz60; have := dUnhide sz62; have := dUnhide sz67; have := dUnhide sz77; have := dUnhide sz80; have := dUnhide sz81; have := dUnhide sz89; have := dUnhide sz92; have := dUnhide sz105; have := dUnhide sz119; have := dUnhide sz139; have := dUnhide sz145; have := dUnhide sz148; omega))
          replace X78 := dHide ((dUnhide X78).wr b152 (by have := dUnhide sz0; have := dUnhide sz1; have := dUnhide sz4; have := dUnhide sz8; have := dUnhide sz9; have := dUnhide sz12; have := dUnhide sz13; have := dUnhide sz14; have := dUnhide sz15; have := dUnhide sz16; have := dUnhide sz17; have := dUnhide sz24; have := dUnhide sz27; have := dUnhide sz28; have := dUnhide sz32; have := dUnhide sz39; have := dUnhide sz42; have := dUnhide sz43; have := dUnhide sz48; have := dUnhide sz56; have := dUnhide sz59; have := dUnhide sz60; have := dUnhide sz62; have := dUnhide sz67; have := dUnhide sz77; have := dUnhide sz80; have := dUnhide sz81; have := dUnhide sz89; have := dUnhide sz92; have := dUnhide sz105; have := dUnhide sz119; have := dUnhide sz139; have := dUnhide sz145; have := dUnhide sz148; omega))
          replace B := b152.below B B.size (by have := dUnhide sz0; have := dUnhide sz1; have := dUnhide sz4; have := dUnhide sz8; have := dUnhide sz9; have := dUnhide sz12; have := dUnhide sz13; have := dUnhide sz14; have := dUnhide sz15; have := dUnhide sz16; have := dUnhide sz17; have := dUnhide sz24; have := dUnhide sz27; have := dUnhide sz28; have := dUnhide sz32; have := dUnhide sz39; have := dUnhide sz42; have := dUnhide sz43; have := dUnhide sz48; have := dUnhide sz56; have := dUnhide sz59; have := dUnhide sz60; have := dUnhide sz62; have := dUnhide sz67; have := dUnhide sz77; have := dUnhide sz80; have := dUnhide sz81; have := dUnhide sz89; have := dUnhide sz92; have := dUnhide sz105; have := dUnhide sz119; have := dUnhide sz139; have := dUnhide sz145; have := dUnhide sz148; omega)
          have sz154 := dHide b152.size
          replace M153 := dHide M153
          clear b152 T20
          have k155 := (dUnhide X40).now 0 _ rfl
          have k156 := (dUnhide X40).now 1 _ rfl
          go_wp2_with fail
          refine (markRegister_ _ _ _ _ (1 + cntConfig m0) _ (by omega) (by omega) (dUnhide T35)).mono ?_
          rintro e w157 ⟨rfl, M159, b158⟩
          clear k155 k156
          replace X0 := dHide ((dUnhide X0).wr b158 (by have := dUnhide sz0; have := dUnhide sz1; have := dUnhide sz4; have := dUnhide sz8; have := dUnhide sz9; have := dUnhide sz12; have := dUnhide sz13; have := dUnhide sz14; have := dUnhide sz15; have := dUnhide sz16; have := dUnhide sz17; have := dUnhide sz24; have := dUnhide sz27; have := dUnhide sz28; have := dUnhide sz32; have := dUnhide sz39; have := dUnhide sz42; have := dUnhide sz43; have := dUnhide sz48; have := dUnhide sz56; have := dUnhide sz59; have := dUnhide sz60; have := dUnhide sz62; have := dUnhide sz67; have := dUnhide sz77; have := dUnhide sz80; have := dUnhide sz81; have := dUnhide sz89; have := dUnhide sz92; have := dUnhide sz105; have := dUnhide sz119; have := dUnhide sz139; have := dUnhide sz145; have := dUnhide sz148; have := dUnhide sz154; omega))
          replace X1 := dHide ((dUnhide X1).wr b158 (by have := dUnhide sz0; have := dUnhide sz1; have := dUnhide sz4; have := dUnhide sz8; have := dUnhide sz9; have := dUnhide sz12; have := dUnhide sz13; have := dUnhide sz14; have := dUnhide sz15; have := dUnhide sz16; have := dUnhide sz17; have := dUnhide sz24; have := dUnhide sz27; have := dUnhide sz28; have := dUnhide sz32; have := dUnhide sz39; have := dUnhide sz42; have := dUnhide sz43; have := dUnhide sz48; have := dUnhide sz56; have := dUnhide sz59; have := dUnhide sz60; have := dUnhide sz62; have := dUnhide sz67; have := dUnhide sz77; have := dUnhide sz80; have := dUnhide sz81; have := dUnhide sz89; have := dUnhide sz92; have := dUnhide sz105; have := dUnhide sz119; have := dUnhide sz139; have := dUnhide sz145; have := dUnhide sz148; have := dUnhide sz154; omega))
          replace X2 := dHide ((dUnhide X2).wr b158 (by have := dUnhide sz0; have := dUnhide sz1; have := dUnhide sz4; have := dUnhide sz8; have := dUnhide sz9; have := dUnhide sz12; have := dUnhide sz13; have := dUnhide sz14; have := dUnhide sz15; have := dUnhide sz16; have := dUnhide sz17; have := dUnhide sz24; have := dUnhide sz27; have := dUnhide sz28; have := dUnhide sz32; have := dUnhide sz39; have := dUnhide sz42; have := dUnhide sz43; have := dUnhide sz48; have := dUnhide sz56; have := dUnhide sz59; have := dUnhide sz60; have := dUnhide sz62; have := dUnhide sz67; have := dUnhide sz77; have := dUnhide sz80; have := dUnhide sz81; have := dUnhide sz89; have := dUnhide sz92; have := dUnhide sz105; have := dUnhide sz119; have := dUnhide sz139; have := dUnhide sz145; have := dUnhide sz148; have := dUnhide sz154; omega))
          replace X11 := dHide ((dUnhide X11).wr b158 (by have := dUnhide sz0; have := dUnhide sz1; have := dUnhide sz4; have := dUnhide sz8; have := dUnhide sz9; have := dUnhide sz12; have := dUnhide sz13; have := dUnhide sz14; have := dUnhide sz15; have := dUnhide sz16; have := dUnhide sz17; have := dUnhide sz24; have := dUnhide sz27; have := dUnhide sz28; have := dUnhide sz32; have := dUnhide sz39; have := dUnhide sz42; have := dUnhide sz43; have := dUnhide sz48; have := dUnhide sz56; have := dUnhide sz59; have := dUnhide sz60; have := dUnhide sz62; have := dUnhide sz67; have := dUnhide sz77; have := dUnhide sz80; have := dUnhide sz81; have := dUnhide sz89; have := dUnhide sz92; have := dUnhide sz105; have := dUnhide sz119; have := dUnhide sz139; have := dUnhide sz145; have := dUnhide sz148; have := dUnhide sz154; omega))
          replace OW := dHide ((dUnhide OW).wr b158 (by have := dUnhide sz0; have := dUnhide sz1; have := dUnhide sz4; have := dUnhide sz8; have := dUnhide sz9; have := dUnhide sz12; have := dUnhide sz13; have := dUnhide sz14; have := dUnhide sz15; have := dUnhide sz16; have := dUnhide sz17; have := dUnhide sz24; have := dUnhide sz27; have := dUnhide sz28; have := dUnhide sz32; have := dUnhide sz39; have := dUnhide sz42; have := dUnhide sz43; have := dUnhide sz48; have := dUnhide sz56; have := dUnhide sz59; have := dUnhide sz60; have := dUnhide sz62; have := dUnhide sz67; have := dUnhide sz77; have := dUnhide sz80; have := dUnhide sz81; have := dUnhide sz89; have := dUnhide sz92; have := dUnhide sz105; have := dUnhide sz119; have := dUnhide sz139; have := dUnhide sz145; have := dUnhide sz148; have := dUnhide sz154; omega))
          replace X25 := dHide ((dUnhide X25).wr b158 (by have := dUnhide sz0; have := dUnhide sz1; have := dUnhide sz4; have := dUnhide sz8; have := dUnhide sz9; have := dUnhide sz12; have := dUnhide sz13; have := dUnhide sz14; have := dUnhide sz15; have := dUnhide sz16; have := dUnhide sz17; have := dUnhide sz24; have := dUnhide sz27; have := dUnhide sz28; have := dUnhide sz32; have := dUnhide sz39; have := dUnhide sz42; have := dUnhide sz43; have := dUnhide sz48; have := dUnhide sz56; have := dUnhide sz59; have := dUnhide sz60; have := dUnhide sz62; have := dUnhide sz67; have := dUnhide sz77; have := dUnhide sz80; have := dUnhide sz81; have := dUnhide sz89; have := dUnhide sz92; have := dUnhide sz105; have := dUnhide sz119; have := dUnhide sz139; have := dUnhide sz145; have := dUnhide sz148; have := dUnhide sz154; omega))
          replace X40 := dHide ((dUnhide X40).wr b158 (by have := dUnhide sz0; have := dUnhide sz1; have := dUnhide sz4; have := dUnhide sz8; have := dUnhide sz9; have := dUnhide sz12; have := dUnhide sz13; have := dUnhide sz14; have := dUnhide sz15; have := dUnhide sz16; have := dUnhide sz17; have := dUnhide sz24; have := dUnhide sz27; have := dUnhide sz28; have := dUnhide sz32; have := dUnhide sz39; have := dUnhide sz42; have := dUnhide sz43; have := dUnhide sz48; have := dUnhide sz56; have := dUnhide sz59; have := dUnhide sz60; have := dUnhide sz62; have := dUnhide sz67; have := dUnhide sz77; have := dUnhide sz80; have := dUnhide sz81; have := dUnhide sz89; have := dUnhide sz92; have := dUnhide sz105; have := dUnhide sz119; have := dUnhide sz139; have := dUnhide sz145; have := dUnhide sz148; have := dUnhide sz154; omega))
          replace T52 := dHide ((dUnhide T52).wr b158 (by have := dUnhide sz0; have := dUnhide sz1; have := dUnhide sz4; have := dUnhide sz8; have := dUnhide sz9; have := dUnhide sz12; have := dUnhide sz13; have := dUnhide sz14; have := dUnhide sz15; have := dUnhide sz16; have := dUnhide sz17; have := dUnhide sz24; have := dUnhide sz27; have := dUnhide sz28; have := dUnhide sz32; have := dUnhide sz39; have := dUnhide sz42; have := dUnhide sz43; have := dUnhide sz48; have := dUnhide sz56; have := dUnhide sz59; have := dUnhide sz60; have := dUnhide sz62; have := dUnhide sz67; have := dUnhide sz77; have := dUnhide sz80; have := dUnhide sz81; have := dUnhide sz89; have := dUnhide sz92; have := dUnhide sz105; have := dUnhide sz119; have := dUnhide sz139; have := dUnhide sz145; have := dUnhide sz148; have := dUnhide sz154; omega))
          replace X57 := dHide ((dUnhide X57).wr b158 (by have := dUnhide sz0; have := dUnhide sz1; have := dUnhide sz4; have := dUnhide sz8; have := dUnhide sz9; have := dUnhide sz12; have := dUnhide sz13; have := dUnhide sz14; have := dUnhide sz15; have := dUnhide sz16; have := dUnhide sz17; have := dUnhide sz24; have := dUnhide sz27; have := dUnhide sz28; have := dUnhide sz32; have := dUnhide sz39; have := dUnhide sz42; have := dUnhide sz43; have := dUnhide sz48; have := dUnhide sz56; have := dUnhide sz59; have := dUnhide sz60; have := dUnhide sz62; have := dUnhide sz67; have := dUnhide sz77; have := dUnhide sz80; have := dUnhide sz81; have := dUnhide sz89; have := dUnhide sz92; have := dUnhide sz105; have := dUnhide sz119; have := dUnhide sz139; have := dUnhide sz145; have := dUnhide sz148; have := dUnhide sz154; omega))
          replace T63 := dHide ((dUnhide T63).wr b158 (by have := dUnhide sz0; have := dUnhide sz1; have := dUnhide sz4; have := dUnhide sz8; have := dUnhide sz9; have := dUnhide sz12; have := dUnhide sz13; have := dUnhide sz14; have := dUnhide sz15; have := dUnhide sz16; have := dUnhide sz17; have := dUnhide sz24; have := dUnhide sz27; have := dUnhide sz28; have := dUnhide sz32; have := dUnhide sz39; have := dUnhide sz42; have := dUnhide sz43; have := dUnhide sz48; have := dUnhide sz56; have := dUnhide sz59; have := dUnhide sz60; have := dUnhide sz62; have := dUnhide sz67; have := dUnhide sz77; have := dUnhide sz80; have := dUnhide sz81; have := dUnhide sz89; have := dUnhide sz92; have := dUnhide sz105; have := dUnhide sz119; have := dUnhide sz139; have := dUnhide sz145; have := dUnhide sz148; have := dUnhide sz154; omega))
          replace OG := dHide ((dUnhide OG).wr b158 (by have := dUnhide sz0; have := dUnhide sz1; have := dUnhide sz4; have := dUnhide sz8; have := dUnhide sz9; have := dUnhide sz12; have := dUnhide sz13; have := dUnhide sz14; have := dUnhide sz15; have := dUnhide sz16; have := dUnhide sz17; have := dUnhide sz24; have := dUnhide sz27; have := dUnhide sz28; have := dUnhide sz32; have := dUnhide sz39; have := dUnhide sz42; have := dUnhide sz43; have := dUnhide sz48; have := dUnhide sz56; have := dUnhide sz59; have := dUnhide sz60; have := dUnhide sz62; have := dUnhide sz67; have := dUnhide sz77; have := dUnhide sz80; have := dUnhide sz81; have := dUnhide sz89; have := dUnhide sz92; have := dUnhide sz105; have := dUnhide sz119; have := dUnhide sz139; have := dUnhide sz145; have := dUnhide sz148; have := dUnhide sz154; omega))
          replace X78 := dHide ((dUnhide X78).wr b158 (by have := dUnhide sz0; have := dUnhide sz1; have := dUnhide sz4; have := dUnhide sz8; have := dUnhide sz9; have := dUnhide sz12; have := dUnhide sz13; have := dUnhide sz14; have := dUnhide sz15; have := dUnhide sz16; have := dUnhide sz17; have := dUnhide sz24; have := dUnhide sz27; have := dUnhide sz28; have := dUnhide sz32; have := dUnhide sz39; have := dUnhide sz42; have := dUnhide sz43; have := dUnhide sz48; have := dUnhide sz56; have := dUnhide sz59; have := dUnhide sz60; have := dUnhide sz62; have := dUnhide sz67; have := dUnhide sz77; have := dUnhide sz80; have := dUnhide sz81; have := dUnhide sz89; have := dUnhide sz92; have := dUnhide sz105; have := dUnhide sz119; have := dUnhide sz139; have := dUnhide sz145; have := dUnhide sz148; have := dUnhide sz154; omega))
          replace M153 := dHide ((dUnhide M153).wr b158 (by have := dUnhide sz0; have := dUnhide sz1; have := dUnhide sz4; have := dUnhide sz8; have := dUnhide sz9; have := dUnhide sz12; have := dUnhide sz13; have := dUnhide sz14; have := dUnhide sz15; have := dUnhide sz16; have := dUnhide sz17; have := dUnhide sz24; have := dUnhide sz27; have := dUnhide sz28; have := dUnhide sz32; have := dUnhide sz39; have := dUnhide sz42; have := dUnhide sz43; have := dUnhide sz48; have := dUnhide sz56; have := dUnhide sz59; have := dUnhide sz60; have := dUnhide sz62; have := dUnhide sz67; have := dUnhide sz77; have := dUnhide sz80; have := dUnhide sz81; have := dUnhide sz89; have := dUnhide sz92; have := dUnhide sz105; have := dUnhide sz119; have := dUnhide sz139; have := dUnhide sz145; have := dUnhide sz148; have := dUnhide sz154; omega))
          replace B := b158.below B B.size (by have := dUnhide sz0; have := dUnhide sz1; have := dUnhide sz4; have := dUnhide sz8; have := dUnhide sz9; have := dUnhide sz12; have := dUnhide sz13; have := dUnhide sz14; have := dUnhide sz15; have := dUnhide sz16; have := dUnhide sz17; have := dUnhide sz24; have := dUnhide sz27; have := dUnhide sz28; have := dUnhide sz32; have := dUnhide sz39; have := dUnhide sz42; have := dUnhide sz43; have := dUnhide sz48; have := dUnhide sz56; have := dUnhide sz59; have := dUnhide sz60; have := dUnhide sz62; have := dUnhide sz67; have := dUnhide sz77; have := dUnhide sz80; have := dUnhide sz81; have := dUnhide sz89; have := dUnhide sz92; have := dUnhide sz105; have := dUnhide sz119; have := dUnhide sz139; have := dUnhide sz145; have := dUnhide sz148; have := dUnhide sz154; omega)
          have sz160 := dHide b158.size
          replace M159 := dHide M159
          clear b158 T35
          have k161 := (dUnhide X57).now 0 _ rfl
          have k162 := (dUnhide X57).now 1 _ rfl
          have k163 := (dUnhide X57).now 2 _ rfl
          go_wp2_with fail
          refine (markReader_ _ _ _ _ (1 + cntConfig m0 + cntRegister m1) _ (by omega) (by omega) (dUnhide T52)).mono ?_
          rintro e w164 ⟨rfl, M166, b165⟩
          clear k161 k162 k163
          replace X0 := dHide ((dUnhide X0).wr b165 (by have := dUnhide sz0; have := dUnhide sz1; have := dUnhide sz4; have := dUnhide sz8; have := dUnhide sz9; have := dUnhide sz12; have := dUnhide sz13; have := dUnhide sz14; have := dUnhide sz15; have := dUnhide sz16; have := dUnhide sz17; have := dUnhide sz24; have := dUnhide sz27; have := dUnhide sz28; have := dUnhide sz32; have := dUnhide sz39; have := dUnhide sz42; have := dUnhide sz43; have := dUnhide sz48; have := dUnhide sz56; have := dUnhide sz59; have := dUnhide sz60; have := dUnhide sz62; have := dUnhide sz67; have := dUnhide sz77; have := dUnhide sz80; have := dUnhide sz81; have := dUnhide sz89; have := dUnhide sz92; have := dUnhide sz105; have := dUnhide sz119; have := dUnhide sz139; have := dUnhide sz145; have := dUnhide sz148; have := dUnhide sz154; have := dUnhide sz160; omega))
          replace X1 := dHide ((dUnhide X1).wr b165 (by have := dUnhide sz0; have := dUnhide sz1; have := dUnhide sz4; have := dUnhide sz8; have := dUnhide sz9; have := dUnhide sz12; have := dUnhide sz13; have := dUnhide sz14; have := dUnhide sz15; have := dUnhide sz16; have := dUnhide sz17; have := dUnhide sz24; have := dUnhide sz27; have := dUnhide sz28; have := dUnhide sz32; have := dUnhide sz39; have := dUnhide sz42; have := dUnhide sz43; have := dUnhide sz48; have := dUnhide sz56; have := dUnhide sz59; have := dUnhide sz60; have := dUnhide sz62; have := dUnhide sz67; have := dUnhide sz77; have := dUnhide sz80; have := dUnhide sz81; have := dUnhide sz89; have := dUnhide sz92; have := dUnhide sz105; have := dUnhide sz119; have := dUnhide sz139; have := dUnhide sz145; have := dUnhide sz148; have := dUnhide sz154; have := dUnhide sz160; omega))
          replace X2 := dHide ((dUnhide X2).wr b165 (by have := dUnhide sz0; have := dUnhide sz1; have := dUnhide sz4; have := dUnhide sz8; have := dUnhide sz9; have := dUnhide sz12; have := dUnhide sz13; have := dUnhide sz14; have := dUnhide sz15; have := dUnhide sz16; have := dUnhide sz17; have := dUnhide sz24; have := dUnhide sz27; have := dUnhide sz28; have := dUnhide sz32; have := dUnhide sz39; have := dUnhide sz42; have := dUnhide sz43; have := dUnhide sz48; have := dUnhide sz56; have := dUnhide sz59; have := dUnhide sz60; have := dUnhide sz62; have := dUnhide sz67; have := dUnhide sz77; have := dUnhide sz80; have := dUnhide sz81; have := dUnhide sz89; have := dUnhide sz92; have := dUnhide sz105; have := dUnhide sz119; have := dUnhide sz139; have := dUnhide sz145; have := dUnhide sz148; have := dUnhide sz154; have := dUnhide sz160; omega))
          replace X11 := dHide ((dUnhide X11).wr b165 (by have := dUnhide sz0; have := dUnhide sz1; have := dUnhide sz4; have := dUnhide sz8; have := dUnhide sz9; have := dUnhide sz12; have := dUnhide sz13; have := dUnhide sz14; have := dUnhide sz15; have := dUnhide sz16; have := dUnhide sz17; have := dUnhide sz24; have := dUnhide sz27; have := dUnhide sz28; have := dUnhide sz32; have := dUnhide sz39; have := dUnhide sz42; have := dUnhide sz43; have := dUnhide sz48; have := dUnhide sz56; have := dUnhide sz59; have := dUnhide sz60; have := dUnhide sz62; have := dUnhide sz67; have := dUnhide sz77; have := dUnhide sz80; have := dUnhide sz81; have := dUnhide sz89; have := dUnhide sz92; have := dUnhide sz105; have := dUnhide sz119; have := dUnhide sz139; have := dUnhide sz145; have := dUnhide sz148; have := dUnhide sz154; have := dUnhide sz160; omega))
          replace OW := dHide ((dUnhide OW).wr b165 (by have := dUnhide sz0; have := dUnhide sz1; have := dUnhide sz4; have := dUnhide sz8; have := dUnhide sz9; have := dUnhide sz12; have := dUnhide sz13; have := dUnhide sz14; have := dUnhide sz15; have := dUnhide sz16; have := dUnhide sz17; have := dUnhide sz24; have := dUnhide sz27; have := dUnhide sz28; have := dUnhide sz32; have := dUnhide sz39; have := dUnhide sz42; have := dUnhide sz43; have := dUnhide sz48; have := dUnhide sz56; have := dUnhide sz59; have := dUnhide sz60; have := dUnhide sz62; have := dUnhide sz67; have := dUnhide sz77; have := dUnhide sz80; have := dUnhide sz81; have := dUnhide sz89; have := dUnhide sz92; have := dUnhide sz105; have := dUnhide sz119; have := dUnhide sz139; have := dUnhide sz145; have := dUnhide sz148; have := dUnhide sz154; have := dUnhide sz160; omega))
          replace X25 := dHide ((dUnhide X25).wr b165 (by have := dUnhide sz0; have := dUnhide sz1; have := dUnhide sz4; have := dUnhide sz8; have := dUnhide sz9; have := dUnhide sz12; have := dUnhide sz13; have := dUnhide sz14; have := dUnhide sz15; have := dUnhide sz16; have := dUnhide sz17; have := dUnhide sz24; have := dUnhide sz27; have := dUnhide sz28; have := dUnhide sz32; have := dUnhide sz39; have := dUnhide sz42; have := dUnhide sz43; have := dUnhide sz48; have := dUnhide sz56; have := dUnhide sz59; have := dUnhide sz60; have := dUnhide sz62; have := dUnhide sz67; have := dUnhide sz77; have := dUnhide sz80; have := dUnhide sz81; have := dUnhide sz89; have := dUnhide sz92; have := dUnhide sz105; have := dUnhide sz119; have := dUnhide sz139; have := dUnhide sz145; have := dUnhide sz148; have := dUnhide sz154; have := dUnhide sz160; omega))
          replace X40 := dHide ((dUnhide X40).wr b165 (by have := dUnhide sz0; have := dUnhide sz1; have := dUnhide sz4; have := dUnhide sz8; have := dUnhide sz9; have := dUnhide sz12; have := dUnhide sz13; have := dUnhide sz14; have := dUnhide sz15; have := dUnhide sz16; have := dUnhide sz17; have := dUnhide sz24; have := dUnhide sz27; have := dUnhide sz28; have := dUnhide sz32; have := dUnhide sz39; have := dUnhide sz42; have := dUnhide sz43; have := dUnhide sz48; have := dUnhide sz56; have := dUnhide sz59; have := dUnhide sz60; have := dUnhide sz62; have := dUnhide sz67; have := dUnhide sz77; have := dUnhide sz80; have := dUnhide sz81; have := dUnhide sz89; have := dUnhide sz92; have := dUnhide sz105; have := dUnhide sz119; have := dUnhide sz139; have := dUnhide sz145; have := dUnhide sz148; have := dUnhide sz154; have := dUnhide sz160; omega))
          replace X57 := dHide ((dUnhide X57).wr b165 (by have := dUnhide sz0; have := dUnhide sz1; have := dUnhide sz4; have := dUnhide sz8; have := dUnhide sz9; have := dUnhide sz12; have := dUnhide sz13; have := dUnhide sz14; have := dUnhide sz15; have := dUnhide sz16; have := dUnhide sz17; have := dUnhide sz24; have := dUnhide sz27; have := dUnhide sz28; have := dUnhide sz32; have := dUnhide sz39; have := dUnhide sz42; have := dUnhide sz43; have := dUnhide sz48; have := dUnhide sz56; have := dUnhide sz59; have := dUnhide sz60; have := dUnhide sz62; have := dUnhide sz67; have := dUnhide sz77; have := dUnhide sz80; have := dUnhide sz81; have := dUnhide sz89; have := dUnhide sz92; have := dUnhide sz105; have := dUnhide sz119; have := dUnhide sz139; have := dUnhide sz145; have := dUnhide sz148; have := dUnhide sz154; have := dUnhide sz160; omega))
          replace T63 := dHide ((dUnhide T63).wr b165 (by have := dUnhide sz0; have := dUnhide sz1; have := dUnhide sz4; have := dUnhide sz8; have := dUnhide sz9; have := dUnhide sz12; have := dUnhide sz13; have := dUnhide sz14; have := dUnhide sz15; have := dUnhide sz16; have := dUnhide sz17; have := dUnhide sz24; have := dUnhide sz27; have := dUnhide sz28; have := dUnhide sz32; have := dUnhide sz39; have := dUnhide sz42; have := dUnhide sz43; have := dUnhide sz48; have := dUnhide sz56; have := dUnhide sz59; have := dUnhide sz60; have := dUnhide sz62; have := dUnhide sz67; have := dUnhide sz77; have := dUnhide sz80; have := dUnhide sz81; have := dUnhide sz89; have := dUnhide sz92; have := dUnhide sz105; have := dUnhide sz119; have := dUnhide sz139; have := dUnhide sz145; have := dUnhide sz148; have := dUnhide sz154; have := dUnhide sz160; omega))
          replace OG := dHide ((dUnhide OG).wr b165 (by have := dUnhide sz0; have := dUnhide sz1; have := dUnhide sz4; have := dUnhide sz8; have := dUnhide sz9; have := dUnhide sz12; have := dUnhide sz13; have := dUnhide sz14; have := dUnhide sz15; have := dUnhide sz16; have := dUnhide sz17; have := dUnhide sz24; have := dUnhide sz27; have := dUnhide sz28; have := dUnhide sz32; have := dUnhide sz39; have := dUnhide sz42; have := dUnhide sz43; have := dUnhide sz48; have := dUnhide sz56; have := dUnhide sz59; have := dUnhide sz60; have := dUnhide sz62; have := dUnhide sz67; have := dUnhide sz77; have := dUnhide sz80; have := dUnhide sz81; have := dUnhide sz89; have := dUnhide sz92; have := dUnhide sz105; have := dUnhide sz119; have := dUnhide sz139; have := dUnhide sz145; have := dUnhide sz148; have := dUnhide sz154; have := dUnhide sz160; omega))
          replace X78 := dHide ((dUnhide X78).wr b165 (by have := dUnhide sz0; have := dUnhide sz1; have := dUnhide sz4; have := dUnhide sz8; have := dUnhide sz9; have := dUnhide sz12; have := dUnhide sz13; have := dUnhide sz14; have := dUnhide sz15; have := dUnhide sz16; have := dUnhide sz17; have := dUnhide sz24; have := dUnhide sz27; have := dUnhide sz28; have := dUnhide sz32; have := dUnhide sz39; have := dUnhide sz42; have := dUnhide sz43; have := dUnhide sz48; have := dUnhide sz56; have := dUnhide sz59; have := dUnhide sz60; have := dUnhide sz62; have := dUnhide sz67; have := dUnhide sz77; have := dUnhide sz80; have := dUnhide sz81; have := dUnhide sz89; have := dUnhide sz92; have := dUnhide sz105; have := dUnhide sz119; have := dUnhide sz139; have := dUnhide sz145; have := dUnhide sz148; have := dUnhide sz154; have := dUnhide sz160; omega))
          replace M153 := dHide ((dUnhide M153).wr b165 (by have := dUnhide sz0; have := dUnhide sz1; have := dUnhide sz4; have := dUnhide sz8; have := dUnhide sz9; have := dUnhide sz12; have := dUnhide sz13; have := dUnhide sz14; have := dUnhide sz15; have := dUnhide sz16; have := dUnhide sz17; have := dUnhide sz24; have := dUnhide sz27; have := dUnhide sz28; have := dUnhide sz32; have := dUnhide sz39; have := dUnhide sz42; have := dUnhide sz43; have := dUnhide sz48; have := dUnhide sz56; have := dUnhide sz59; have := dUnhide sz60; have := dUnhide sz62; have := dUnhide sz67; have := dUnhide sz77; have := dUnhide sz80; have := dUnhide sz81; have := dUnhide sz89; have := dUnhide sz92; have := dUnhide sz105; have := dUnhide sz119; have := dUnhide sz139; have := dUnhide sz145; have := dUnhide sz148; have := dUnhide sz154; have := dUnhide sz160; omega))
          replace M159 := dHide ((dUnhide M159).wr b165 (by have := dUnhide sz0; have := dUnhide sz1; have := dUnhide sz4; have := dUnhide sz8; have := dUnhide sz9; have := dUnhide sz12; have := dUnhide sz13; have := dUnhide sz14; have := dUnhide sz15; have := dUnhide sz16; have := dUnhide sz17; have := dUnhide sz24; have := dUnhide sz27; have := dUnhide sz28; have := dUnhide sz32; have := dUnhide sz39; have := dUnhide sz42; have := dUnhide sz43; have := dUnhide sz48; have := dUnhide sz56; have := dUnhide sz59; have := dUnhide sz60; have := dUnhide sz62; have := dUnhide sz67; have := dUnhide sz77; have := dUnhide sz80; have := dUnhide sz81; have := dUnhide sz89; have := dUnhide sz92; have := dUnhide sz105; have := dUnhide sz119; have := dUnhide sz139; have := dUnhide sz145; have := dUnhide sz148; have := dUnhide sz154; have := dUnhide sz160; omega))
          replace B := b165.below B B.size (by have := dUnhide sz0; have := dUnhide sz1; have := dUnhide sz4; have := dUnhide sz8; have := dUnhide sz9; have := dUnhide sz12; have := dUnhide sz13; have := dUnhide sz14; have := dUnhide sz15; have := dUnhide sz16; have := dUnhide sz17; have := dUnhide sz24; have := dUnhide sz27; have := dUnhide sz28; have := dUnhide sz32; have := dUnhide sz39; have := dUnhide sz42; have := dUnhide sz43; have := dUnhide sz48; have := dUnhide sz56; have := dUnhide sz59; have := dUnhide sz60; have := dUnhide sz62; have := dUnhide sz67; have := dUnhide sz77; have := dUnhide sz80; have := dUnhide sz81; have := dUnhide sz89; have := dUnhide sz92; have := dUnhide sz105; have := dUnhide sz119; have := dUnhide sz139; have := dUnhide sz145; have := dUnhide sz148; have := dUnhide sz154; have := dUnhide sz160; omega)
          have sz167 := dHide b165.size
          replace M166 := dHide M166
          clear b165 T52
          go_wp2_with fail
          refine (markAnswerS_ _ _ _ _ (1 + cntConfig m0 + cntRegister m1 + cntReader m3) _ (by omega) (by omega) (dUnhide T63)).mono ?_
          rintro e w168 ⟨rfl, M170, b169⟩
          replace X0 := dHide ((dUnhide X0).wr b169 (by have := dUnhide sz0; have := dUnhide sz1; have := dUnhide sz4; have := dUnhide sz8; have := dUnhide sz9; have := dUnhide sz12; have := dUnhide sz13; have := dUnhide sz14; have := dUnhide sz15; have := dUnhide sz16; have := dUnhide sz17; have := dUnhide sz24; have := dUnhide sz27; have := dUnhide sz28; have := dUnhide sz32; have := dUnhide sz39; have := dUnhide sz42; have := dUnhide sz43; have := dUnhide sz48; have := dUnhide sz56; have := dUnhide sz59; have := dUnhide sz60; have := dUnhide sz62; have := dUnhide sz67; have := dUnhide sz77; have := dUnhide sz80; have := dUnhide sz81; have := dUnhide sz89; have := dUnhide sz92; have := dUnhide sz105; have := dUnhide sz119; have := dUnhide sz139; have := dUnhide sz145; have := dUnhide sz148; have := dUnhide sz154; have := dUnhide sz160; have := dUnhide sz167; omega))
          replace X1 := dHide ((dUnhide X1).wr b169 (by have := dUnhide sz0; have := dUnhide sz1; have := dUnhide sz4; have := dUnhide sz8; have := dUnhide sz9; have := dUnhide sz12; have := dUnhide sz13; have := dUnhide sz14; have := dUnhide sz15; have := dUnhide sz16; have := dUnhide sz17; have := dUnhide sz24; have := dUnhide sz27; have := dUnhide sz28; have := dUnhide sz32; have := dUnhide sz39; have := dUnhide sz42; have := dUnhide sz43; have := dUnhide sz48; have := dUnhide sz56; have := dUnhide sz59; have := dUnhide sz60; have := dUnhide sz62; have := dUnhide sz67; have := dUnhide sz77; have := dUnhide sz80; have := dUnhide sz81; have := dUnhide sz89; have := dUnhide sz92; have := dUnhide sz105; have := dUnhide sz119; have := dUnhide sz139; have := dUnhide sz145; have := dUnhide sz148; have := dUnhide sz154; have := dUnhide sz160; have := dUnhide sz167; omega))
          replace X2 := dHide ((dUnhide X2).wr b169 (by have := dUnhide sz0; have := dUnhide sz1; have := dUnhide sz4; have := dUnhide sz8; have := dUnhide sz9; have := dUnhide sz12; have := dUnhide sz13; have := dUnhide sz14; have := dUnhide sz15; have := dUnhide sz16; have := dUnhide sz17; have := dUnhide sz24; have := dUnhide sz27; have := dUnhide sz28; have := dUnhide sz32; have := dUnhide sz39; have := dUnhide sz42; have := dUnhide sz43; have := dUnhide sz48; have := dUnhide sz56; have := dUnhide sz59; have := dUnhide sz60; have := dUnhide sz62; have := dUnhide sz67; have := dUnhide sz77; have := dUnhide sz80; have := dUnhide sz81; have := dUnhide sz89; have := dUnhide sz92; have := dUnhide sz105; have := dUnhide sz119; have := dUnhide sz139; have := dUnhide sz145; have := dUnhide sz148; have := dUnhide sz154; have := dUnhide sz160; have := dUnhide sz167; omega))
          replace X11 := dHide ((dUnhide X11).wr b169 (by have := dUnhide sz0; have := dUnhide sz1; have := dUnhide sz4; have := dUnhide sz8; have := dUnhide sz9; have := dUnhide sz12; have := dUnhide sz13; have := dUnhide sz14; have := dUnhide sz15; have := dUnhide sz16; have := dUnhide sz17; have := dUnhide sz24; have := dUnhide sz27; have := dUnhide sz28; have := dUnhide sz32; have := dUnhide sz39; have := dUnhide sz42; have := dUnhide sz43; have := dUnhide sz48; have := dUnhide sz56; have := dUnhide sz59; have := dUnhide sz60; have := dUnhide sz62; have := dUnhide sz67; have := dUnhide sz77; have := dUnhide sz80; have := dUnhide sz81; have := dUnhide sz89; have := dUnhide sz92; have := dUnhide sz105; have := dUnhide sz119; have := dUnhide sz139; have := dUnhide sz145; have := dUnhide sz148; have := dUnhide sz154; have := dUnhide sz160; have := dUnhide sz167; omega))
          replace OW := dHide ((dUnhide OW).wr b169 (by have := dUnhide sz0; have := dUnhide sz1; have := dUnhide sz4; have := dUnhide sz8; have := dUnhide sz9; have := dUnhide sz12; have := dUnhide sz13; have := dUnhide sz14; have := dUnhide sz15; have := dUnhide sz16; have := dUnhide sz17; have := dUnhide sz24; have := dUnhide sz27; have := dUnhide sz28; have := dUnhide sz32; have := dUnhide sz39; have := dUnhide sz42; have := dUnhide sz43; have := dUnhide sz48; have := dUnhide sz56; have := dUnhide sz59; have := dUnhide sz60; have := dUnhide sz62; have := dUnhide sz67; have := dUnhide sz77; have := dUnhide sz80; have := dUnhide sz81; have := dUnhide sz89; have := dUnhide sz92; have := dUnhide sz105; have := dUnhide sz119; have := dUnhide sz139; have := dUnhide sz145; have := dUnhide sz148; have := dUnhide sz154; have := dUnhide sz160; have := dUnhide sz167; omega))
          replace X25 := dHide ((dUnhide X25).wr b169 (by have := dUnhide sz0; have := dUnhide sz1; have := dUnhide sz4; have := dUnhide sz8; have := dUnhide sz9; have := dUnhide sz12; have := dUnhide sz13; have := dUnhide sz14; have := dUnhide sz15; have := dUnhide sz16; have := dUnhide sz17; have := dUnhide sz24; have := dUnhide sz27; have := dUnhide sz28; have := dUnhide sz32; have := dUnhide sz39; have := dUnhide sz42; have := dUnhide sz43; have := dUnhide sz48; have := dUnhide sz56; have := dUnhide sz59; have := dUnhide sz60; have := dUnhide sz62; have := dUnhide sz67; have := dUnhide sz77; have := dUnhide sz80; have := dUnhide sz81; have := dUnhide sz89; have := dUnhide sz92; have := dUnhide sz105; have := dUnhide sz119; have := dUnhide sz139; have := dUnhide sz145; have := dUnhide sz148; have := dUnhide sz154; have := dUnhide sz160; have := dUnhide sz167; omega))
          replace X40 := dHide ((dUnhide X40).wr b169 (by have := dUnhide sz0; have := dUnhide sz1; have := dUnhide sz4; have := dUnhide sz8; have := dUnhide sz9; have := dUnhide sz12; have := dUnhide sz13; have := dUnhide sz14; have := dUnhide sz15; have := dUnhide sz16; have := dUnhide sz17; have := dUnhide sz24; have := dUnhide sz27; have := dUnhide sz28; have := dUnhide sz32; have := dUnhide sz39; have := dUnhide sz42; have := dUnhide sz43; have := dUnhide sz48; have := dUnhide sz56; have := dUnhide sz59; have := dUnhide sz60; have := dUnhide sz62; have := dUnhide sz67; have := dUnhide sz77; have := dUnhide sz80; have := dUnhide sz81; have := dUnhide sz89; have := dUnhide sz92; have := dUnhide sz105; have := dUnhide sz119; have := dUnhide sz139; have := dUnhide sz145; have := dUnhide sz148; have := dUnhide sz154; have := dUnhide sz160; have := dUnhide sz167; omega))
          replace X57 := dHide ((dUnhide X57).wr b169 (by have := dUnhide sz0; have := dUnhide sz1; have := dUnhide sz4; have := dUnhide sz8; have := dUnhide sz9; have := dUnhide sz12; have := dUnhide sz13; have := dUnhide sz14; have := dUnhide sz15; have := dUnhide sz16; have := dUnhide sz17; have := dUnhide sz24; have := dUnhide sz27; have := dUnhide sz28; have := dUnhide sz32; have := dUnhide sz39; have := dUnhide sz42; have := dUnhide sz43; have := dUnhide sz48; have := dUnhide sz56; have := dUnhide sz59; have := dUnhide sz60; have := dUnhide sz62; have := dUnhide sz67; have := dUnhide sz77; have := dUnhide sz80; have := dUnhide sz81; have := dUnhide sz89; have := dUnhide sz92; have := dUnhide sz105; have := dUnhide sz119; have := dUnhide sz139; have := dUnhide sz145; have := dUnhide sz148; have := dUnhide sz154; have := dUnhide sz160; have := dUnhide sz167; omega))
          replace OG := dHide ((dUnhide OG).wr b169 (by have := dUnhide sz0; have := dUnhide sz1; have := dUnhide sz4; have := dUnhide sz8; have := dUnhide sz9; have := dUnhide sz12; have := dUnhide sz13; have := dUnhide sz14; have := dUnhide sz15; have := dUnhide sz16; have := dUnhide sz17; have := dUnhide sz24; have := dUnhide sz27; have := dUnhide sz28; have := dUnhide sz32; have := dUnhide sz39; have := dUnhide sz42; have := dUnhide sz43; have := dUnhide sz48; have := dUnhide sz56; have := dUnhide sz59; have := dUnhide sz60; have := dUnhide sz62; have := dUnhide sz67; have := dUnhide sz77; have := dUnhide sz80; have := dUnhide sz81; have := dUnhide sz89; have := dUnhide sz92; have := dUnhide sz105; have := dUnhide sz119; have := dUnhide sz139; have := dUnhide sz145; have := dUnhide sz148; have := dUnhide sz154; have := dUnhide sz160; have := dUnhide sz167; omega))
          replace X78 := dHide ((dUnhide X78).wr b169 (by have := dUnhide sz0; have := dUnhide sz1; have := dUnhide sz4; have := dUnhide sz8; have := dUnhide sz9; have := dUnhide sz12; have := dUnhide sz13; have := dUnhide sz14; have := dUnhide sz15; have := dUnhide sz16; have := dUnhide sz17; have := dUnhide sz24; have := dUnhide sz27; have := dUnhide sz28; have := dUnhide sz32; have := dUnhide sz39; have := dUnhide sz42; have := dUnhide sz43; have := dUnhide sz48; have := dUnhide sz56; have := dUnhide sz59; have := dUnhide sz60; have := dUnhide sz62; have := dUnhide sz67; have := dUnhide sz77; have := dUnhide sz80; have := dUnhide sz81; have := dUnhide sz89; have := dUnhide sz92; have := dUnhide sz105; have := dUnhide sz119; have := dUnhide sz139; have := dUnhide sz145; have := dUnhide sz148; have := dUnhide sz154; have := dUnhide sz160; have := dUnhide sz167; omega))
          replace M153 := dHide ((dUnhide M153).wr b169 (by have := dUnhide sz0; have := dUnhide sz1; have := dUnhide sz4; have := dUnhide sz8; have := dUnhide sz9; have := dUnhide sz12; have := dUnhide sz13; have := dUnhide sz14; have := dUnhide sz15; have := dUnhide sz16; have := dUnhide sz17; have := dUnhide sz24; have := dUnhide sz27; have := dUnhide sz28; have := dUnhide sz32; have := dUnhide sz39; have := dUnhide sz42; have := dUnhide sz43; have := dUnhide sz48; have := dUnhide sz56; have := dUnhide sz59; have := dUnhide sz60; have := dUnhide sz62; have := dUnhide sz67; have := dUnhide sz77; have := dUnhide sz80; have := dUnhide sz81; have := dUnhide sz89; have := dUnhide sz92; have := dUnhide sz105; have := dUnhide sz119; have := dUnhide sz139; have := dUnhide sz145; have := dUnhide sz148; have := dUnhide sz154; have := dUnhide sz160; have := dUnhide sz167; omega))
          replace M159 := dHide ((dUnhide M159).wr b169 (by have := dUnhide sz0; have := dUnhide sz1; have := dUnhide sz4; have := dUnhide sz8; have := dUnhide sz9; have := dUnhide sz12; have := dUnhide sz13; have := dUnhide sz14; have := dUnhide sz15; have := dUnhide sz16; have := dUnhide sz17; have := dUnhide sz24; have := dUnhide sz27; have := dUnhide sz28; have := dUnhide sz32; have := dUnhide sz39; have := dUnhide sz42; have := dUnhide sz43; have := dUnhide sz48; have := dUnhide sz56; have := dUnhide sz59; have := dUnhide sz60; have := dUnhide sz62; have := dUnhide sz67; have := dUnhide sz77; have := dUnhide sz80; have := dUnhide sz81; have := dUnhide sz89; have := dUnhide sz92; have := dUnhide sz105; have := dUnhide sz119; have := dUnhide sz139; have := dUnhide sz145; have := dUnhide sz148; have := dUnhide sz154; have := dUnhide sz160; have := dUnhide sz167; omega))
          replace M166 := dHide ((dUnhide M166).wr b169 (by have := dUnhide sz0; have := dUnhide sz1; have := dUnhide sz4; have := dUnhide sz8; have := dUnhide sz9; have := dUnhide sz12; have := dUnhide sz13; have := dUnhide sz14; have := dUnhide sz15; have := dUnhide sz16; have := dUnhide sz17; have := dUnhide sz24; have := dUnhide sz27; have := dUnhide sz28; have := dUnhide sz32; have := dUnhide sz39; have := dUnhide sz42; have := dUnhide sz43; have := dUnhide sz48; have := dUnhide sz56; have := dUnhide sz59; have := dUnhide sz60; have := dUnhide sz62; have := dUnhide sz67; have := dUnhide sz77; have := dUnhide sz80; have := dUnhide sz81; have := dUnhide sz89; have := dUnhide sz92; have := dUnhide sz105; have := dUnhide sz119; have := dUnhide sz139; have := dUnhide sz145; have := dUnhide sz148; have := dUnhide sz154; have := dUnhide sz160; have := dUnhide sz167; omega))
          replace B := b169.below B B.size (by have := dUnhide sz0; have := dUnhide sz1; have := dUnhide sz4; have := dUnhide sz8; have := dUnhide sz9; have := dUnhide sz12; have := dUnhide sz13; have := dUnhide sz14; have := dUnhide sz15; have := dUnhide sz16; have := dUnhide sz17; have := dUnhide sz24; have := dUnhide sz27; have := dUnhide sz28; have := dUnhide sz32; have := dUnhide sz39; have := dUnhide sz42; have := dUnhide sz43; have := dUnhide sz48; have := dUnhide sz56; have := dUnhide sz59; have := dUnhide sz60; have := dUnhide sz62; have := dUnhide sz67; have := dUnhide sz77; have := dUnhide sz80; have := dUnhide sz81; have := dUnhide sz89; have := dUnhide sz92; have := dUnhide sz105; have := dUnhide sz119; have := dUnhide sz139; have := dUnhide sz145; have := dUnhide sz148; have := dUnhide sz154; have := dUnhide sz160; have := dUnhide sz167; omega)
          have sz171 := dHide b169.size
          replace M170 := dHide M170
          clear b169 T63
          clear M153 M159 M166 M170 X25 X40 X57
          have hk : ¬ (((1 + cntConfig m0 + cntRegister m1 + cntReader m3 + cntAnswerS m4 : Nat) : Int) < 0) := by omega
          have k172 := (dUnhide X78).now 0 _ rfl
          have k173 := (dUnhide X78).now 1 _ rfl
          have k174 := (dUnhide X78).now 2 _ rfl
          have k175 := (dUnhide X11).now 0 _ rfl
          have k176 := (dUnhide X11).now 1 _ rfl
          have k177 := (dUnhide X11).now 2 _ rfl
          go_wp2_with fail
          refine (eqReader_ _ _ _ _ (dUnhide OG).now.rd (dUnhide OW).now.rd).mono ?_
          rintro e w178 ⟨rfl, b179⟩
          clear k172 k173 k174 k175 k176 k177
          have sz180 := dHide b179.size
          replace X0 := dHide ((dUnhide X0).below b179)
          replace X1 := dHide ((dUnhide X1).below b179)
          replace X2 := dHide ((dUnhide X2).below b179)
          replace X11 := dHide ((dUnhide X11).below b179)
          replace OW := dHide ((dUnhide OW).below b179)
          replace OG := dHide ((dUnhide OG).below b179)
          replace X78 := dHide ((dUnhide X78).below b179)
          replace B := belowThen B b179
          clear b179
          have k181 := (dUnhide X78).now 0 _ rfl
          have k182 := (dUnhide X78).now 1 _ rfl
          have k183 := (dUnhide X78).now 2 _ rfl
          go_wp2_with fail
          refine (markReader_ _ _ _ _ 1 _ (by omega) (by omega) (dUnhide OG)).mono ?_
          rintro e w184 ⟨rfl, M186, b185⟩
          clear k181 k182 k183
          replace X0 := dHide ((dUnhide X0).wr b185 (by have := dUnhide sz0; have := dUnhide sz1; have := dUnhide sz4; have := dUnhide sz8; have := dUnhide sz9; have := dUnhide sz12; have := dUnhide sz13; have := dUnhide sz14; have := dUnhide sz15; have := dUnhide sz16; have := dUnhide sz17; have := dUnhide sz24; have := dUnhide sz27; have := dUnhide sz28; have := dUnhide sz32; have := dUnhide sz39; have := dUnhide sz42; have := dUnhide sz43; have := dUnhide sz48; have := dUnhide sz56; have := dUnhide sz59; have := dUnhide sz60; have := dUnhide sz62; have := dUnhide sz67; have := dUnhide sz77; have := dUnhide sz80; have := dUnhide sz81; have := dUnhide sz89; have := dUnhide sz92; have := dUnhide sz105; have := dUnhide sz119; have := dUnhide sz139; have := dUnhide sz145; have := dUnhide sz148; have := dUnhide sz154; have := dUnhide sz160; have := dUnhide sz167; have := dUnhide sz171; have := dUnhide sz180; omega))
          replace X1 := dHide ((dUnhide X1).wr b185 (by have := dUnhide sz0; have := dUnhide sz1; have := dUnhide sz4; have := dUnhide sz8; have := dUnhide sz9; have := dUnhide sz12; have := dUnhide sz13; have := dUnhide sz14; have := dUnhide sz15; have := dUnhide sz16; have := dUnhide sz17; have := dUnhide sz24; have := dUnhide sz27; have := dUnhide sz28; have := dUnhide sz32; have := dUnhide sz39; have := dUnhide sz42; have := dUnhide sz43; have := dUnhide sz48; have := dUnhide sz56; have := dUnhide sz59; have := dUnhide sz60; have := dUnhide sz62; have := dUnhide sz67; have := dUnhide sz77; have := dUnhide sz80; have := dUnhide sz81; have := dUnhide sz89; have := dUnhide sz92; have := dUnhide sz105; have := dUnhide sz119; have := dUnhide sz139; have := dUnhide sz145; have := dUnhide sz148; have := dUnhide sz154; have := dUnhide sz160; have := dUnhide sz167; have := dUnhide sz171; have := dUnhide sz180; omega))
          replace X2 := dHide ((dUnhide X2).wr b185 (by have := dUnhide sz0; have := dUnhide sz1; have := dUnhide sz4; have := dUnhide sz8; have := dUnhide sz9; have := dUnhide sz12; have := dUnhide sz13; have := dUnhide sz14; have := dUnhide sz15; have := dUnhide sz16; have := dUnhide sz17; have := dUnhide sz24; have := dUnhide sz27; have := dUnhide sz28; have := dUnhide sz32; have := dUnhide sz39; have := dUnhide sz42; have := dUnhide sz43; have := dUnhide sz48; have := dUnhide sz56; have := dUnhide sz59; have := dUnhide sz60; have := dUnhide sz62; have := dUnhide sz67; have := dUnhide sz77; have := dUnhide sz80; have := dUnhide sz81; have := dUnhide sz89; have := dUnhide sz92; have := dUnhide sz105; have := dUnhide sz119; have := dUnhide sz139; have := dUnhide sz145; have := dUnhide sz148; have := dUnhide sz154; have := dUnhide sz160; have := dUnhide sz167; have := dUnhide sz171; have := dUnhide sz180; omega))
          replace X11 := dHide ((dUnhide X11).wr b185 (by have := dUnhide sz0; have := dUnhide sz1; have := dUnhide sz4; have := dUnhide sz8; have := dUnhide sz9; have := dUnhide sz12; have := dUnhide sz13; have := dUnhide sz14; have := dUnhide sz15; have := dUnhide sz16; have := dUnhide sz17; have := dUnhide sz24; have := dUnhide sz27; have := dUnhide sz28; have := dUnhide sz32; have := dUnhide sz39; have := dUnhide sz42; have := dUnhide sz43; have := dUnhide sz48; have := dUnhide sz56; have := dUnhide sz59; have := dUnhide sz60; have := dUnhide sz62; have := dUnhide sz67; have := dUnhide sz77; have := dUnhide sz80; have := dUnhide sz81; have := dUnhide sz89; have := dUnhide sz92; have := dUnhide sz105; have := dUnhide sz119; have := dUnhide sz139; have := dUnhide sz145; have := dUnhide sz148; have := dUnhide sz154; have := dUnhide sz160; have := dUnhide sz167; have := dUnhide sz171; have := dUnhide sz180; omega))
          replace OW := dHide ((dUnhide OW).wr b185 (by have := dUnhide sz0; have := dUnhide sz1; have := dUnhide sz4; have := dUnhide sz8; have := dUnhide sz9; have := dUnhide sz12; have := dUnhide sz13; have := dUnhide sz14; have := dUnhide sz15; have := dUnhide sz16; have := dUnhide sz17; have := dUnhide sz24; have := dUnhide sz27; have := dUnhide sz28; have := dUnhide sz32; have := dUnhide sz39; have := dUnhide sz42; have := dUnhide sz43; have := dUnhide sz48; have := dUnhide sz56; have := dUnhide sz59; have := dUnhide sz60; have := dUnhide sz62; have := dUnhide sz67; have := dUnhide sz77; have := dUnhide sz80; have := dUnhide sz81; have := dUnhide sz89; have := dUnhide sz92; have := dUnhide sz105; have := dUnhide sz119; have := dUnhide sz139; have := dUnhide sz145; have := dUnhide sz148; have := dUnhide sz154; have := dUnhide sz160; have := dUnhide sz167; have := dUnhide sz171; have := dUnhide sz180; omega))
          replace X78 := dHide ((dUnhide X78).wr b185 (by have := dUnhide sz0; have := dUnhide sz1; have := dUnhide sz4; have := dUnhide sz8; have := dUnhide sz9; have := dUnhide sz12; have := dUnhide sz13; have := dUnhide sz14; have := dUnhide sz15; have := dUnhide sz16; have := dUnhide sz17; have := dUnhide sz24; have := dUnhide sz27; have := dUnhide sz28; have := dUnhide sz32; have := dUnhide sz39; have := dUnhide sz42; have := dUnhide sz43; have := dUnhide sz48; have := dUnhide sz56; have := dUnhide sz59; have := dUnhide sz60; have := dUnhide sz62; have := dUnhide sz67; have := dUnhide sz77; have := dUnhide sz80; have := dUnhide sz81; have := dUnhide sz89; have := dUnhide sz92; have := dUnhide sz105; have := dUnhide sz119; have := dUnhide sz139; have := dUnhide sz145; have := dUnhide sz148; have := dUnhide sz154; have := dUnhide sz160; have := dUnhide sz167; have := dUnhide sz171; have := dUnhide sz180; omega))
          replace B := b185.below B B.size (by have := dUnhide sz0; have := dUnhide sz1; have := dUnhide sz4; have := dUnhide sz8; have := dUnhide sz9; have := dUnhide sz12; have := dUnhide sz13; have := dUnhide sz14; have := dUnhide sz15; have := dUnhide sz16; have := dUnhide sz17; have := dUnhide sz24; have := dUnhide sz27; have := dUnhide sz28; have := dUnhide sz32; have := dUnhide sz39; have := dUnhide sz42; have := dUnhide sz43; have := dUnhide sz48; have := dUnhide sz56; have := dUnhide sz59; have := dUnhide sz60; have := dUnhide sz62; have := dUnhide sz67; have := dUnhide sz77; have := dUnhide sz80; have := dUnhide sz81; have := dUnhide sz89; have := dUnhide sz92; have := dUnhide sz105; have := dUnhide sz119; have := dUnhide sz139; have := dUnhide sz145; have := dUnhide sz148; have := dUnhide sz154; have := dUnhide sz160; have := dUnhide sz167; have := dUnhide sz171; have := dUnhide sz180; omega)
          have sz187 := dHide b185.size
          replace M186 := dHide M186
          clear b185 OG
          have k188 := (dUnhide X78).now 0 _ rfl
          have k189 := (dUnhide X78).now 1 _ rfl
          have k190 := (dUnhide X78).now 2 _ rfl
          go_wp2_with fail
          refine (heldReader_ _ R 1 _ (by omega) (by omega) (dUnhide M186).now.rd).mono ?_
          rintro e w191 ⟨rfl, b192⟩
          clear k188 k189 k190
          have sz193 := dHide b192.size
          replace X0 := dHide ((dUnhide X0).below b192)
          replace X1 := dHide ((dUnhide X1).below b192)
          replace X2 := dHide ((dUnhide X2).below b192)
          replace X11 := dHide ((dUnhide X11).below b192)
          replace OW := dHide ((dUnhide OW).below b192)
          replace X78 := dHide ((dUnhide X78).below b192)
          replace M186 := dHide ((dUnhide M186).below b192)
          replace B := belowThen B b192
          clear b192
          have hq : ¬ (((1 + cntReader R : Nat) : Int) < 0) := by omega
          go_wp2_with fail
          have hC : ∀ W, Below w191.heap.size w191 W → W.cell? ⟨w.heap.size, 0, none⟩ = some (.slice v0a m0.1.length v0c) ∧ W.cell? ⟨w.heap.size, 1, none⟩ = some (.int .i64 m0.2) ∧ W.cell? ⟨w.heap.size + 1, 0, none⟩ = some (.slice v1a m1.eras.length v1c) ∧ W.cell? ⟨w.heap.size + 1, 1, none⟩ = some (.int .i64 m1.trim) ∧ W.cell? ⟨w.heap.size + 1 + 1, 0, none⟩ = some (.int .i64 m3.epoch) ∧ W.cell? ⟨w.heap.size + 1 + 1, 1, none⟩ = some (.int .i64 m3.off) ∧ W.cell? ⟨w.heap.size + 1 + 1, 2, none⟩ = some (.slice v3a m3.out.length v3c) := fun W hb =>
            ⟨(dUnhide X0).at hb 0 _ rfl, (dUnhide X0).at hb 1 _ rfl, (dUnhide X1).at hb 0 _ rfl, (dUnhide X1).at hb 1 _ rfl, (dUnhide X2).at hb 0 _ rfl, (dUnhide X2).at hb 1 _ rfl, (dUnhide X2).at hb 2 _ rfl⟩
          have HC := dHide hC
          have hbr := Below.refl w191.heap.size w191
          obtain ⟨kd1950, kd1951, kd1952, kd1953, kd1954, kd1955, kd1956⟩ := hC w191 hbr
          clear hC
          go_cut [23, 24] (fun sv t1 wx => ∃ (bv lo hi : Nat) (a : Option Addr) (c : Nat), sv = .pointer (some ⟨bv, 0, none⟩) ∧ t1 = .int .i64 s1 ∧ Sits (Box bv #[.int .i64 R.epoch, .int .i64 R.off, .slice a R.out.length c]) bv (bv + 1) wx ∧ Sits (OwReader lo hi (.agg #[.int .i64 R.epoch, .int .i64 R.off, .slice a R.out.length c]) R) lo hi wx ∧ (bv < lo ∨ hi ≤ bv) ∧ w191.heap.size ≤ bv ∧ w191.heap.size ≤ lo ∧ Below w191.heap.size w191 wx)
          case first =>
            clear kd1950 kd1951 kd1952 kd1953 kd1954 kd1955 kd1956
            have hcur := hbr.drew
            refine wp_region_noPanic ?_
            refine wp_region_held_drew (S := fun W => W.cell? ⟨w.heap.size, 0, none⟩ = some (.slice v0a m0.1.length v0c) ∧ W.cell? ⟨w.heap.size, 1, none⟩ = some (.int .i64 m0.2) ∧ W.cell? ⟨w.heap.size + 1, 0, none⟩ = some (.slice v1a m1.eras.length v1c) ∧ W.cell? ⟨w.heap.size + 1, 1, none⟩ = some (.int .i64 m1.trim) ∧ W.cell? ⟨w.heap.size + 1 + 1, 0, none⟩ = some (.int .i64 m3.epoch) ∧ W.cell? ⟨w.heap.size + 1 + 1, 1, none⟩ = some (.int .i64 m3.off) ∧ W.cell? ⟨w.heap.size + 1 + 1, 2, none⟩ = some (.slice v3a m3.out.length v3c)) (by kernel_rfl) (by first | exact dUnhide HC _ hcur | exact dUnhide HC _ hst | exact dUnhide HC _ hbr | fail) (fun hHeld => ?_)
            clear hbr
            generalize w191.drew = wd at *
            refine wpAnyH_take (i := 0) (oi := { dst := some 141, op := Op.load 70 (Operand.tmp 5), type := 70, pos := "exact.go:3653", after := #[], guard := none }) (v := ?_) rfl (by kernel_rfl) (by kernel_rfl) (by kernel_rfl) (fun _ _ _ h => h) (Or.inl ⟨by rfl, ?_⟩) (by assumption) ?_
            rotate_left 1
            · intro w hSw
              (try dsimp only at hSw)
              first | (go_simp; done) | (go_simp; with_reducible rfl)
            try simp only [Act.put, List.setIfInBounds_toArray, List.set_cons_zero, List.set_cons_succ]
            refine wpAnyH_take (i := 2) (oi := { dst := some 143, op := Op.load 73 (Operand.tmp 6), type := 73, pos := "exact.go:3653", after := #[], guard := none }) (v := ?_) rfl (by kernel_rfl) (by kernel_rfl) (by kernel_rfl) (fun _ _ _ h => h) (Or.inl ⟨by rfl, ?_⟩) (by assumption) ?_
            rotate_left 1
            · intro w hSw
              (try dsimp only at hSw)
              first | (go_simp; done) | (go_simp; with_reducible rfl)
            try simp only [Act.put, List.setIfInBounds_toArray, List.set_cons_zero, List.set_cons_succ]
            refine wpAnyH_take (i := 4) (oi := { dst := some 145, op := Op.move (Operand.tmp 2), type := 3, pos := "exact.go:3653", after := #[], guard := none }) (v := ?_) rfl (by kernel_rfl) (by kernel_rfl) (by kernel_rfl) (fun _ _ _ h => h) (Or.inl ⟨by rfl, ?_⟩) (by assumption) ?_
            rotate_left 1
            · intro w hSw
              (try dsimp only at hSw)
              first | (go_simp; done) | (go_simp; with_reducible rfl)
            try simp only [Act.put, List.setIfInBounds_toArray, List.set_cons_zero, List.set_cons_succ]
            refine wpAnyH_take (i := 5) (oi := { dst := some 146, op := Op.load 76 (Operand.tmp 8), type := 76, pos := "exact.go:3653", after := #[], guard := none }) (v := ?_) rfl (by kernel_rfl) (by kernel_rfl) (by kernel_rfl) (fun _ _ _ h => h) (Or.inl ⟨by rfl, ?_⟩) (by assumption) ?_
            rotate_left 1
            · intro w hSw
              (try dsimp only at hSw)
              first | (go_simp; done) | (go_simp; with_reducible rfl)
            try simp only [Act.put, List.setIfInBounds_toArray, List.set_cons_zero, List.set_cons_succ]
            refine wpAnyH_take (i := 7) (oi := { dst := some 148, op := Op.move (Operand.tmp 4), type := 77, pos := "exact.go:3653", after := #[], guard := none }) (v := ?_) rfl (by kernel_rfl) (by kernel_rfl) (by kernel_rfl) (fun _ _ _ h => h) (Or.inl ⟨by rfl, ?_⟩) (by assumption) ?_
            rotate_left 1
            · intro w hSw
              (try dsimp only at hSw)
              first | (go_simp; done) | (go_simp; with_reducible rfl)
            try simp only [Act.put, List.setIfInBounds_toArray, List.set_cons_zero, List.set_cons_succ]
            refine wpAnyH_ready (rs := [1, 13]) (by kernel_rfl) (by simp) ?_
            refine AllReadyH.cons (o := { dst := some 142, op := Op.call { callee := Callee.value (Operand.func 40), args := #[Operand.tmp 141], argTypes := #[70] }, type := 26, pos := "exact.go:3653", after := #[{ on := 0, ground := Ground.data }], guard := none }) rfl (fun K hK => ?_) (AllReadyH.cons (o := { dst := some 23, op := Op.alloc 56, type := 0, pos := "exact.go:3653", after := #[], guard := none }) rfl (fun K hK => ?_) AllReadyH.nil)
            · go_simp
              refine (toConfig_ _ m0 _ hs0 (dUnhide A0 _ (belowThen B hcur))).mono ?_
              rintro e wq0 ⟨o0, rfl, q0, b0⟩
              replace hcur := belowThen hcur b0
              (try replace zz := BxZ.below zz b0)
              have Q0 := dHide q0
              obtain ⟨o0a, o0c, rfl, o0l⟩ := formConfig q0.now.rd
              clear q0 b0
              (try go_wp2_with fail)
              refine hK.out _ _ (by first | exact dUnhide HC _ hcur | exact dUnhide HC _ hst | exact dUnhide HC _ hbr | fail) (fun hHeld => ?_)
              clear hK K
              try simp only [Act.put, List.setIfInBounds_toArray, List.set_cons_zero, List.set_cons_succ]
              refine wpAnyH_ready (rs := [3, 13]) (by kernel_rfl) (by simp) ?_
              refine AllReadyH.cons (o := { dst := some 144, op := Op.call { callee := Callee.value (Operand.func 41), args := #[Operand.tmp 143], argTypes := #[73] }, type := 53, pos := "exact.go:3653", after := #[{ on := 2, ground := Ground.data }, { on := 1, ground := Ground.chain }], guard := none }) rfl (fun K hK => ?_) (AllReadyH.cons (o := { dst := some 23, op := Op.alloc 56, type := 0, pos := "exact.go:3653", after := #[], guard := none }) rfl (fun K hK => ?_) AllReadyH.nil)
              · go_simp
                refine (toRegister_ _ m1 _ hs1 (dUnhide A1 _ (belowThen B hcur))).mono ?_
                rintro e wq1 ⟨o1, rfl, q1, b1⟩
                replace hcur := belowThen hcur b1
                (try replace zz := BxZ.below zz b1)
                replace Q0 := dHide ((dUnhide Q0).below b1)
                have Q1 := dHide q1
                obtain ⟨o1a, o1c, rfl, o1l⟩ := formRegister q1.now.rd
                clear q1 b1
                (try go_wp2_with fail)
                refine hK.out _ _ (by first | exact dUnhide HC _ hcur | exact dUnhide HC _ hst | exact dUnhide HC _ hbr | fail) (fun hHeld => ?_)
                clear hK K
                try simp only [Act.put, List.setIfInBounds_toArray, List.set_cons_zero, List.set_cons_succ]
                refine wpAnyH_ready (rs := [6, 13]) (by kernel_rfl) (by simp) ?_
                refine AllReadyH.cons (o := { dst := some 147, op := Op.call { callee := Callee.value (Operand.func 42), args := #[Operand.tmp 146], argTypes := #[76] }, type := 56, pos := "exact.go:3653", after := #[{ on := 5, ground := Ground.data }, { on := 3, ground := Ground.chain }], guard := none }) rfl (fun K hK => ?_) (AllReadyH.cons (o := { dst := some 23, op := Op.alloc 56, type := 0, pos := "exact.go:3653", after := #[], guard := none }) rfl (fun K hK => ?_) AllReadyH.nil)
                · go_simp
                  refine (toReader_ _ m3 _ hs3 (dUnhide A3 _ (belowThen B hcur))).mono ?_
                  rintro e wq2 ⟨o2, rfl, q2, b2⟩
                  replace hcur := belowThen hcur b2
                  (try replace zz := BxZ.below zz b2)
                  replace Q0 := dHide ((dUnhide Q0).below b2)
                  replace Q1 := dHide ((dUnhide Q1).below b2)
                  have Q2 := dHide q2
                  obtain ⟨o2a, o2c, rfl, o2l⟩ := formReader q2.now.rd
                  clear q2 b2
                  (try go_wp2_with fail)
                  refine hK.out _ _ (by first | exact dUnhide HC _ hcur | exact dUnhide HC _ hst | exact dUnhide HC _ hbr | fail) (fun hHeld => ?_)
                  clear hK K
                  try simp only [Act.put, List.setIfInBounds_toArray, List.set_cons_zero, List.set_cons_succ]
                  refine wpAnyH_ready (rs := [8, 13]) (by kernel_rfl) (by simp) ?_
                  refine AllReadyH.cons (o := { dst := some 149, op := Op.call { callee := Callee.value (Operand.func 43), args := #[Operand.tmp 148], argTypes := #[77] }, type := 57, pos := "exact.go:3653", after := #[{ on := 7, ground := Ground.data }, { on := 6, ground := Ground.chain }], guard := none }) rfl (fun K hK => ?_) (AllReadyH.cons (o := { dst := some 23, op := Op.alloc 56, type := 0, pos := "exact.go:3653", after := #[], guard := none }) rfl (fun K hK => ?_) AllReadyH.nil)
                  · go_simp
                    refine (toAnswerS_ _ m4 _ hs4 (dUnhide A4 _ (belowThen B hcur))).mono ?_
                    rintro e wq3 ⟨o3, rfl, q3, b3⟩
                    replace hcur := belowThen hcur b3
                    (try replace zz := BxZ.below zz b3)
                    replace Q0 := dHide ((dUnhide Q0).below b3)
                    replace Q1 := dHide ((dUnhide Q1).below b3)
                    replace Q2 := dHide ((dUnhide Q2).below b3)
                    have Q3 := dHide q3
                    obtain ⟨o3a, o3c, rfl, o3l⟩ := formAnswerS q3.now.rd
                    clear q3 b3
                    (try go_wp2_with fail)
                    refine hK.out _ _ (by first | exact dUnhide HC _ hcur | exact dUnhide HC _ hst | exact dUnhide HC _ hbr | fail) (fun hHeld => ?_)
                    clear hK K
                    try simp only [Act.put, List.setIfInBounds_toArray, List.set_cons_zero, List.set_cons_succ]
                    refine wpAnyH_ready (rs := [9, 13]) (by kernel_rfl) (by simp) ?_
                    refine AllReadyH.cons (o := { dst := some 150, op := Op.call { callee := Callee.value (Operand.func 29), args := #[Operand.tmp 142, Operand.tmp 144, Operand.tmp 145, Operand.tmp 147, Operand.tmp 149], argTypes := #[26, 53, 3, 56, 57] }, type := 60, pos := "exact.go:3653", after := #[{ on := 1, ground := Ground.data }, { on := 3, ground := Ground.data }, { on := 4, ground := Ground.data }, { on := 6, ground := Ground.data }, { on := 8, ground := Ground.data }, { on := 8, ground := Ground.chain }], guard := none }) rfl (fun K hK => ?_) (AllReadyH.cons (o := { dst := some 23, op := Op.alloc 56, type := 0, pos := "exact.go:3653", after := #[], guard := none }) rfl (fun K hK => ?_) AllReadyH.nil)
                    · go_simp
                      (try have hlo := BxZ.lt zz)
                      have hcz := hcur.size
                      refine (dUnhide CI _ _ _ _ _ (dUnhide Q0).now.rd (dUnhide Q1).now.rd (dUnhide Q2).now.rd (dUnhide Q3).now.rd).mono ?_
                      rintro e w5 ⟨u5, rfl, q5, b5⟩
                      replace hcur := belowThen hcur b5
                      (try replace zz := BxZ.below zz b5)
                      have Q5 := dHide q5
                      obtain ⟨o5a, o5c, rfl, o5l⟩ := formReader q5.now.rd
                      clear q5 b5 Q0 Q1 Q2 Q3
                      (try go_wp2_with fail)
                      refine hK.out _ _ (by first | exact dUnhide HC _ hcur | exact dUnhide HC _ hst | exact dUnhide HC _ hbr | fail) (fun hHeld => ?_)
                      clear hK K
                      try simp only [Act.put, List.setIfInBounds_toArray, List.set_cons_zero, List.set_cons_succ]
                      refine wpAnyH_take (i := 10) (oi := { dst := some 140, op := Op.move (Operand.tmp 150), type := 60, pos := "exact.go:3653", after := #[{ on := 9, ground := Ground.data }], guard := none }) (v := ?_) rfl (by kernel_rfl) (by kernel_rfl) (by kernel_rfl) (fun _ _ _ h => h) (Or.inl ⟨by rfl, ?_⟩) (by assumption) ?_
                      rotate_left 1
                      · intro w hSw
                        (try dsimp only at hSw)
                        first | (go_simp; done) | (go_simp; with_reducible rfl)
                      try simp only [Act.put, List.setIfInBounds_toArray, List.set_cons_zero, List.set_cons_succ]
                      refine wpAnyH_take (i := 11) (oi := { dst := some 151, op := Op.extract (Operand.tmp 140) 0, type := 56, pos := "exact.go:3653", after := #[{ on := 10, ground := Ground.data }], guard := none }) (v := ?_) rfl (by kernel_rfl) (by kernel_rfl) (by kernel_rfl) (fun _ _ _ h => h) (Or.inl ⟨by rfl, ?_⟩) (by assumption) ?_
                      rotate_left 1
                      · intro w hSw
                        (try dsimp only at hSw)
                        first | (go_simp; done) | (go_simp; with_reducible rfl)
                      try simp only [Act.put, List.setIfInBounds_toArray, List.set_cons_zero, List.set_cons_succ]
                      refine wpAnyH_take (i := 12) (oi := { dst := some 152, op := Op.extract (Operand.tmp 140) 1, type := 3, pos := "exact.go:3653", after := #[{ on := 10, ground := Ground.data }, { on := 14, ground := Ground.gcOnly Departure.lateStores }], guard := none }) (v := ?_) rfl (by kernel_rfl) (by kernel_rfl) (by kernel_rfl) (fun _ _ _ h => h) (Or.inl ⟨by rfl, ?_⟩) (by assumption) ?_
                      rotate_left 1
                      · intro w hSw
                        (try dsimp only at hSw)
                        first | (go_simp; done) | (go_simp; with_reducible rfl)
                      try simp only [Act.put, List.setIfInBounds_toArray, List.set_cons_zero, List.set_cons_succ]
                      refine wpAnyH_ready (rs := [13]) (by kernel_rfl) (by simp) ?_
                      refine AllReadyH.cons (o := { dst := some 23, op := Op.alloc 56, type := 0, pos := "exact.go:3653", after := #[], guard := none }) rfl (fun K hK => ?_) AllReadyH.nil
                      go_simp
                      have zz := BxZ.new (B := w191.heap.size) _ [.int .i64 0, .int .i64 0, .slice none 0 0] 56 hcur.size
                      (try replace Q0 := dHide ((dUnhide Q0).below (ha _ (.cells #[.int .i64 0, .int .i64 0, .slice none 0 0] 56))))
                      (try replace Q1 := dHide ((dUnhide Q1).below (ha _ (.cells #[.int .i64 0, .int .i64 0, .slice none 0 0] 56))))
                      (try replace Q2 := dHide ((dUnhide Q2).below (ha _ (.cells #[.int .i64 0, .int .i64 0, .slice none 0 0] 56))))
                      (try replace Q3 := dHide ((dUnhide Q3).below (ha _ (.cells #[.int .i64 0, .int .i64 0, .slice none 0 0] 56))))
                      (try replace Q5 := dHide ((dUnhide Q5).below (ha _ (.cells #[.int .i64 0, .int .i64 0, .slice none 0 0] 56))))
                      replace hcur := hcur.alloc hcur.size (.cells #[.int .i64 0, .int .i64 0, .slice none 0 0] 56)
                      first | generalize w5.alloc (.cells #[.int .i64 0, .int .i64 0, .slice none 0 0] 56) = wa at * | generalize wq3.alloc (.cells #[.int .i64 0, .int .i64 0, .slice none 0 0] 56) = wa at * | generalize wq2.alloc (.cells #[.int .i64 0, .int .i64 0, .slice none 0 0] 56) = wa at * | generalize wq1.alloc (.cells #[.int .i64 0, .int .i64 0, .slice none 0 0] 56) = wa at * | generalize wq0.alloc (.cells #[.int .i64 0, .int .i64 0, .slice none 0 0] 56) = wa at * | generalize wd.alloc (.cells #[.int .i64 0, .int .i64 0, .slice none 0 0] 56) = wa at * | fail
                      refine hK.out _ _ (by first | exact dUnhide HC _ hcur | exact dUnhide HC _ hst | exact dUnhide HC _ hbr | fail) (fun hHeld => ?_)
                      clear hK K
                      try simp only [Act.put, List.setIfInBounds_toArray, List.set_cons_zero, List.set_cons_succ]
                      refine wpAnyH_ready (rs := [14]) (by kernel_rfl) (by simp) ?_
                      refine AllReadyH.cons (o := { dst := none, op := Op.store 56 (Operand.tmp 23) (Operand.tmp 151), type := 0, pos := "exact.go:3653", after := #[{ on := 13, ground := Ground.data }, { on := 11, ground := Ground.data }, { on := 9, ground := Ground.chain }, { on := 0, ground := Ground.phase }, { on := 1, ground := Ground.phase }, { on := 2, ground := Ground.phase }, { on := 3, ground := Ground.phase }, { on := 4, ground := Ground.phase }, { on := 5, ground := Ground.phase }, { on := 6, ground := Ground.phase }, { on := 7, ground := Ground.phase }, { on := 8, ground := Ground.phase }, { on := 9, ground := Ground.phase }, { on := 10, ground := Ground.phase }, { on := 11, ground := Ground.phase }, { on := 12, ground := Ground.textOnly Departure.lateStores }, { on := 13, ground := Ground.phase }], guard := none }) rfl (fun K hK => ?_) AllReadyH.nil
                      obtain ⟨z0, y0⟩ := zz.2 0 _ rfl
                      obtain ⟨z1, y1⟩ := zz.2 1 _ rfl
                      obtain ⟨z2, y2⟩ := zz.2 2 _ rfl
                      go_simp
                      have hst := below_thr hcur zz.1 (.int .i64 R.epoch) (.int .i64 R.off) (.slice o5a R.out.length o5c)
                      clear hcur z0 y0 z1 y1 z2 y2
                      refine hK.out _ _ (by first | exact dUnhide HC _ hcur | exact dUnhide HC _ hst | exact dUnhide HC _ hbr | fail) (fun hHeld => ?_)
                      clear hK K
                      try simp only [Act.put, List.setIfInBounds_toArray, List.set_cons_zero, List.set_cons_succ]
                      refine wpAnyH_take (i := 15) (oi := { dst := some 24, op := Op.assign (Operand.tmp 152), type := 3, pos := "exact.go:3653", after := #[{ on := 12, ground := Ground.data }, { on := 14, ground := Ground.chain }, { on := 0, ground := Ground.phase }, { on := 1, ground := Ground.phase }, { on := 2, ground := Ground.phase }, { on := 3, ground := Ground.phase }, { on := 4, ground := Ground.phase }, { on := 5, ground := Ground.phase }, { on := 6, ground := Ground.phase }, { on := 7, ground := Ground.phase }, { on := 8, ground := Ground.phase }, { on := 9, ground := Ground.phase }, { on := 10, ground := Ground.phase }, { on := 11, ground := Ground.phase }, { on := 12, ground := Ground.phase }, { on := 13, ground := Ground.phase }, { on := 14, ground := Ground.phase }], guard := none }) (v := ?_) rfl (by kernel_rfl) (by kernel_rfl) (by kernel_rfl) (fun _ _ _ h => h) (Or.inl ⟨by rfl, ?_⟩) (by assumption) ?_
                      rotate_left 1
                      · intro w hSw
                        (try dsimp only at hSw)
                        first | (go_simp; done) | (go_simp; with_reducible rfl)
                      try simp only [Act.put, List.setIfInBounds_toArray, List.set_cons_zero, List.set_cons_succ]
                      refine wpAnyH_done (by kernel_rfl) ?_ _
                      refine NoPanic.normal ?_
                      go_wp2_with fail
                      go_meet
                      case rel => first | exact ⟨_, _, _, _, _, rfl, rfl, (((zz.put 0 (.int .i64 R.epoch)).put 1 (.int .i64 R.off)).put 2 (.slice o5a R.out.length o5c)).bx.sits, (((dUnhide Q5).setFar (.inl hlo) (.int .i64 R.epoch)).setFar (.inl hlo) (.int .i64 R.off)).setFar (.inl hlo) (.slice o5a R.out.length o5c), (.inl hlo), zz.1, hcz, hst⟩ | exact ⟨_, _, _, _, _, rfl, rfl, (((zz.put 0 (.int .i64 R.epoch)).put 1 (.int .i64 R.off)).put 2 (.slice o5a R.out.length o5c)).bx.sits, (((dUnhide Q5).setFar (.inr (Nat.le_refl _)) (.int .i64 R.epoch)).setFar (.inr (Nat.le_refl _)) (.int .i64 R.off)).setFar (.inr (Nat.le_refl _)) (.slice o5a R.out.length o5c), (.inr (Nat.le_refl _)), zz.1, hcz, hst⟩
                    · go_simp
                      have zz := BxZ.new (B := w191.heap.size) _ [.int .i64 0, .int .i64 0, .slice none 0 0] 56 hcur.size
                      (try replace Q0 := dHide ((dUnhide Q0).below (ha _ (.cells #[.int .i64 0, .int .i64 0, .slice none 0 0] 56))))
                      (try replace Q1 := dHide ((dUnhide Q1).below (ha _ (.cells #[.int .i64 0, .int .i64 0, .slice none 0 0] 56))))
                      (try replace Q2 := dHide ((dUnhide Q2).below (ha _ (.cells #[.int .i64 0, .int .i64 0, .slice none 0 0] 56))))
                      (try replace Q3 := dHide ((dUnhide Q3).below (ha _ (.cells #[.int .i64 0, .int .i64 0, .slice none 0 0] 56))))
                      (try replace Q5 := dHide ((dUnhide Q5).below (ha _ (.cells #[.int .i64 0, .int .i64 0, .slice none 0 0] 56))))
                      replace hcur := hcur.alloc hcur.size (.cells #[.int .i64 0, .int .i64 0, .slice none 0 0] 56)
                      first | generalize w5.alloc (.cells #[.int .i64 0, .int .i64 0, .slice none 0 0] 56) = wa at * | generalize wq3.alloc (.cells #[.int .i64 0, .int .i64 0, .slice none 0 0] 56) = wa at * | generalize wq2.alloc (.cells #[.int .i64 0, .int .i64 0, .slice none 0 0] 56) = wa at * | generalize wq1.alloc (.cells #[.int .i64 0, .int .i64 0, .slice none 0 0] 56) = wa at * | generalize wq0.alloc (.cells #[.int .i64 0, .int .i64 0, .slice none 0 0] 56) = wa at * | generalize wd.alloc (.cells #[.int .i64 0, .int .i64 0, .slice none 0 0] 56) = wa at * | fail
                      refine hK.out _ _ (by first | exact dUnhide HC _ hcur | exact dUnhide HC _ hst | exact dUnhide HC _ hbr | fail) (fun hHeld => ?_)
                      clear hK K
                      try simp only [Act.put, List.setIfInBounds_toArray, List.set_cons_zero, List.set_cons_succ]
                      refine wpAnyH_ready (rs := [9]) (by kernel_rfl) (by simp) ?_
                      refine AllReadyH.cons (o := { dst := some 150, op := Op.call { callee := Callee.value (Operand.func 29), args := #[Operand.tmp 142, Operand.tmp 144, Operand.tmp 145, Operand.tmp 147, Operand.tmp 149], argTypes := #[26, 53, 3, 56, 57] }, type := 60, pos := "exact.go:3653", after := #[{ on := 1, ground := Ground.data }, { on := 3, ground := Ground.data }, { on := 4, ground := Ground.data }, { on := 6, ground := Ground.data }, { on := 8, ground := Ground.data }, { on := 8, ground := Ground.chain }], guard := none }) rfl (fun K hK => ?_) AllReadyH.nil
                      go_simp
                      (try have hlo := BxZ.lt zz)
                      have hcz := hcur.size
                      refine (dUnhide CI _ _ _ _ _ (dUnhide Q0).now.rd (dUnhide Q1).now.rd (dUnhide Q2).now.rd (dUnhide Q3).now.rd).mono ?_
                      rintro e w5 ⟨u5, rfl, q5, b5⟩
                      replace hcur := belowThen hcur b5
                      (try replace zz := BxZ.below zz b5)
                      have Q5 := dHide q5
                      obtain ⟨o5a, o5c, rfl, o5l⟩ := formReader q5.now.rd
                      clear q5 b5 Q0 Q1 Q2 Q3
                      (try go_wp2_with fail)
                      refine hK.out _ _ (by first | exact dUnhide HC _ hcur | exact dUnhide HC _ hst | exact dUnhide HC _ hbr | fail) (fun hHeld => ?_)
                      clear hK K
                      try simp only [Act.put, List.setIfInBounds_toArray, List.set_cons_zero, List.set_cons_succ]
                      refine wpAnyH_take (i := 10) (oi := { dst := some 140, op := Op.move (Operand.tmp 150), type := 60, pos := "exact.go:3653", after := #[{ on := 9, ground := Ground.data }], guard := none }) (v := ?_) rfl (by kernel_rfl) (by kernel_rfl) (by kernel_rfl) (fun _ _ _ h => h) (Or.inl ⟨by rfl, ?_⟩) (by assumption) ?_
                      rotate_left 1
                      · intro w hSw
                        (try dsimp only at hSw)
                        first | (go_simp; done) | (go_simp; with_reducible rfl)
                      try simp only [Act.put, List.setIfInBounds_toArray, List.set_cons_zero, List.set_cons_succ]
                      refine wpAnyH_take (i := 11) (oi := { dst := some 151, op := Op.extract (Operand.tmp 140) 0, type := 56, pos := "exact.go:3653", after := #[{ on := 10, ground := Ground.data }], guard := none }) (v := ?_) rfl (by kernel_rfl) (by kernel_rfl) (by kernel_rfl) (fun _ _ _ h => h) (Or.inl ⟨by rfl, ?_⟩) (by assumption) ?_
                      rotate_left 1
                      · intro w hSw
                        (try dsimp only at hSw)
                        first | (go_simp; done) | (go_simp; with_reducible rfl)
                      try simp only [Act.put, List.setIfInBounds_toArray, List.set_cons_zero, List.set_cons_succ]
                      refine wpAnyH_take (i := 12) (oi := { dst := some 152, op := Op.extract (Operand.tmp 140) 1, type := 3, pos := "exact.go:3653", after := #[{ on := 10, ground := Ground.data }, { on := 14, ground := Ground.gcOnly Departure.lateStores }], guard := none }) (v := ?_) rfl (by kernel_rfl) (by kernel_rfl) (by kernel_rfl) (fun _ _ _ h => h) (Or.inl ⟨by rfl, ?_⟩) (by assumption) ?_
                      rotate_left 1
                      · intro w hSw
                        (try dsimp only at hSw)
                        first | (go_simp; done) | (go_simp; with_reducible rfl)
                      try simp only [Act.put, List.setIfInBounds_toArray, List.set_cons_zero, List.set_cons_succ]
                      refine wpAnyH_ready (rs := [14]) (by kernel_rfl) (by simp) ?_
                      refine AllReadyH.cons (o := { dst := none, op := Op.store 56 (Operand.tmp 23) (Operand.tmp 151), type := 0, pos := "exact.go:3653", after := #[{ on := 13, ground := Ground.data }, { on := 11, ground := Ground.data }, { on := 9, ground := Ground.chain }, { on := 0, ground := Ground.phase }, { on := 1, ground := Ground.phase }, { on := 2, ground := Ground.phase }, { on := 3, ground := Ground.phase }, { on := 4, ground := Ground.phase }, { on := 5, ground := Ground.phase }, { on := 6, ground := Ground.phase }, { on := 7, ground := Ground.phase }, { on := 8, ground := Ground.phase }, { on := 9, ground := Ground.phase }, { on := 10, ground := Ground.phase }, { on := 11, ground := Ground.phase }, { on := 12, ground := Ground.textOnly Departure.lateStores }, { on := 13, ground := Ground.phase }], guard := none }) rfl (fun K hK => ?_) AllReadyH.nil
                      obtain ⟨z0, y0⟩ := zz.2 0 _ rfl
                      obtain ⟨z1, y1⟩ := zz.2 1 _ rfl
                      obtain ⟨z2, y2⟩ := zz.2 2 _ rfl
                      go_simp
                      have hst := below_thr hcur zz.1 (.int .i64 R.epoch) (.int .i64 R.off) (.slice o5a R.out.length o5c)
                      clear hcur z0 y0 z1 y1 z2 y2
                      refine hK.out _ _ (by first | exact dUnhide HC _ hcur | exact dUnhide HC _ hst | exact dUnhide HC _ hbr | fail) (fun hHeld => ?_)
                      clear hK K
                      try simp only [Act.put, List.setIfInBounds_toArray, List.set_cons_zero, List.set_cons_succ]
                      refine wpAnyH_take (i := 15) (oi := { dst := some 24, op := Op.assign (Operand.tmp 152), type := 3, pos := "exact.go:3653", after := #[{ on := 12, ground := Ground.data }, { on := 14, ground := Ground.chain }, { on := 0, ground := Ground.phase }, { on := 1, ground := Ground.phase }, { on := 2, ground := Ground.phase }, { on := 3, ground := Ground.phase }, { on := 4, ground := Ground.phase }, { on := 5, ground := Ground.phase }, { on := 6, ground := Ground.phase }, { on := 7, ground := Ground.phase }, { on := 8, ground := Ground.phase }, { on := 9, ground := Ground.phase }, { on := 10, ground := Ground.phase }, { on := 11, ground := Ground.phase }, { on := 12, ground := Ground.phase }, { on := 13, ground := Ground.phase }, { on := 14, ground := Ground.phase }], guard := none }) (v := ?_) rfl (by kernel_rfl) (by kernel_rfl) (by kernel_rfl) (fun _ _ _ h => h) (Or.inl ⟨by rfl, ?_⟩) (by assumption) ?_
                      rotate_left 1
                      · intro w hSw
                        (try dsimp only at hSw)
                        first | (go_simp; done) | (go_simp; with_reducible rfl)
                      try simp only [Act.put, List.setIfInBounds_toArray, List.set_cons_zero, List.set_cons_succ]
                      refine wpAnyH_done (by kernel_rfl) ?_ _
                      refine NoPanic.normal ?_
                      go_wp2_with fail
                      go_meet
                      case rel => first | exact ⟨_, _, _, _, _, rfl, rfl, (((zz.put 0 (.int .i64 R.epoch)).put 1 (.int .i64 R.off)).put 2 (.slice o5a R.out.length o5c)).bx.sits, (((dUnhide Q5).setFar (.inl hlo) (.int .i64 R.epoch)).setFar (.inl hlo) (.int .i64 R.off)).setFar (.inl hlo) (.slice o5a R.out.length o5c), (.inl hlo), zz.1, hcz, hst⟩ | exact ⟨_, _, _, _, _, rfl, rfl, (((zz.put 0 (.int .i64 R.epoch)).put 1 (.int .i64 R.off)).put 2 (.slice o5a R.out.length o5c)).bx.sits, (((dUnhide Q5).setFar (.inr (Nat.le_refl _)) (.int .i64 R.epoch)).setFar (.inr (Nat.le_refl _)) (.int .i64 R.off)).setFar (.inr (Nat.le_refl _)) (.slice o5a R.out.length o5c), (.inr (Nat.le_refl _)), zz.1, hcz, hst⟩
                  · go_simp
                    have zz := BxZ.new (B := w191.heap.size) _ [.int .i64 0, .int .i64 0, .slice none 0 0] 56 hcur.size
                    (try replace Q0 := dHide ((dUnhide Q0).below (ha _ (.cells #[.int .i64 0, .int .i64 0, .slice none 0 0] 56))))
                    (try replace Q1 := dHide ((dUnhide Q1).below (ha _ (.cells #[.int .i64 0, .int .i64 0, .slice none 0 0] 56))))
                    (try replace Q2 := dHide ((dUnhide Q2).below (ha _ (.cells #[.int .i64 0, .int .i64 0, .slice none 0 0] 56))))
                    (try replace Q3 := dHide ((dUnhide Q3).below (ha _ (.cells #[.int .i64 0, .int .i64 0, .slice none 0 0] 56))))
                    (try replace Q5 := dHide ((dUnhide Q5).below (ha _ (.cells #[.int .i64 0, .int .i64 0, .slice none 0 0] 56))))
                    replace hcur := hcur.alloc hcur.size (.cells #[.int .i64 0, .int .i64 0, .slice none 0 0] 56)
                    first | generalize w5.alloc (.cells #[.int .i64 0, .int .i64 0, .slice none 0 0] 56) = wa at * | generalize wq3.alloc (.cells #[.int .i64 0, .int .i64 0, .slice none 0 0] 56) = wa at * | generalize wq2.alloc (.cells #[.int .i64 0, .int .i64 0, .slice none 0 0] 56) = wa at * | generalize wq1.alloc (.cells #[.int .i64 0, .int .i64 0, .slice none 0 0] 56) = wa at * | generalize wq0.alloc (.cells #[.int .i64 0, .int .i64 0, .slice none 0 0] 56) = wa at * | generalize wd.alloc (.cells #[.int .i64 0, .int .i64 0, .slice none 0 0] 56) = wa at * | fail
                    refine hK.out _ _ (by first | exact dUnhide HC _ hcur | exact dUnhide HC _ hst | exact dUnhide HC _ hbr | fail) (fun hHeld => ?_)
                    clear hK K
                    try simp only [Act.put, List.setIfInBounds_toArray, List.set_cons_zero, List.set_cons_succ]
                    refine wpAnyH_ready (rs := [8]) (by kernel_rfl) (by simp) ?_
                    refine AllReadyH.cons (o := { dst := some 149, op := Op.call { callee := Callee.value (Operand.func 43), args := #[Operand.tmp 148], argTypes := #[77] }, type := 57, pos := "exact.go:3653", after := #[{ on := 7, ground := Ground.data }, { on := 6, ground := Ground.chain }], guard := none }) rfl (fun K hK => ?_) AllReadyH.nil
                    go_simp
                    refine (toAnswerS_ _ m4 _ hs4 (dUnhide A4 _ (belowThen B hcur))).mono ?_
                    rintro e wq3 ⟨o3, rfl, q3, b3⟩
                    replace hcur := belowThen hcur b3
                    (try replace zz := BxZ.below zz b3)
                    replace Q0 := dHide ((dUnhide Q0).below b3)
                    replace Q1 := dHide ((dUnhide Q1).below b3)
                    replace Q2 := dHide ((dUnhide Q2).below b3)
                    have Q3 := dHide q3
                    obtain ⟨o3a, o3c, rfl, o3l⟩ := formAnswerS q3.now.rd
                    clear q3 b3
                    (try go_wp2_with fail)
                    refine hK.out _ _ (by first | exact dUnhide HC _ hcur | exact dUnhide HC _ hst | exact dUnhide HC _ hbr | fail) (fun hHeld => ?_)
                    clear hK K
                    try simp only [Act.put, List.setIfInBounds_toArray, List.set_cons_zero, List.set_cons_succ]
                    refine wpAnyH_ready (rs := [9]) (by kernel_rfl) (by simp) ?_
                    refine AllReadyH.cons (o := { dst := some 150, op := Op.call { callee := Callee.value (Operand.func 29), args := #[Operand.tmp 142, Operand.tmp 144, Operand.tmp 145, Operand.tmp 147, Operand.tmp 149], argTypes := #[26, 53, 3, 56, 57] }, type := 60, pos := "exact.go:3653", after := #[{ on := 1, ground := Ground.data }, { on := 3, ground := Ground.data }, { on := 4, ground := Ground.data }, { on := 6, ground := Ground.data }, { on := 8, ground := Ground.data }, { on := 8, ground := Ground.chain }], guard := none }) rfl (fun K hK => ?_) AllReadyH.nil
                    go_simp
                    (try have hlo := BxZ.lt zz)
                    have hcz := hcur.size
                    refine (dUnhide CI _ _ _ _ _ (dUnhide Q0).now.rd (dUnhide Q1).now.rd (dUnhide Q2).now.rd (dUnhide Q3).now.rd).mono ?_
                    rintro e w5 ⟨u5, rfl, q5, b5⟩
                    replace hcur := belowThen hcur b5
                    (try replace zz := BxZ.below zz b5)
                    have Q5 := dHide q5
                    obtain ⟨o5a, o5c, rfl, o5l⟩ := formReader q5.now.rd
                    clear q5 b5 Q0 Q1 Q2 Q3
                    (try go_wp2_with fail)
                    refine hK.out _ _ (by first | exact dUnhide HC _ hcur | exact dUnhide HC _ hst | exact dUnhide HC _ hbr | fail) (fun hHeld => ?_)
                    clear hK K
                    try simp only [Act.put, List.setIfInBounds_toArray, List.set_cons_zero, List.set_cons_succ]
                    refine wpAnyH_take (i := 10) (oi := { dst := some 140, op := Op.move (Operand.tmp 150), type := 60, pos := "exact.go:3653", after := #[{ on := 9, ground := Ground.data }], guard := none }) (v := ?_) rfl (by kernel_rfl) (by kernel_rfl) (by kernel_rfl) (fun _ _ _ h => h) (Or.inl ⟨by rfl, ?_⟩) (by assumption) ?_
                    rotate_left 1
                    · intro w hSw
                      (try dsimp only at hSw)
                      first | (go_simp; done) | (go_simp; with_reducible rfl)
                    try simp only [Act.put, List.setIfInBounds_toArray, List.set_cons_zero, List.set_cons_succ]
                    refine wpAnyH_take (i := 11) (oi := { dst := some 151, op := Op.extract (Operand.tmp 140) 0, type := 56, pos := "exact.go:3653", after := #[{ on := 10, ground := Ground.data }], guard := none }) (v := ?_) rfl (by kernel_rfl) (by kernel_rfl) (by kernel_rfl) (fun _ _ _ h => h) (Or.inl ⟨by rfl, ?_⟩) (by assumption) ?_
                    rotate_left 1
                    · intro w hSw
                      (try dsimp only at hSw)
                      first | (go_simp; done) | (go_simp; with_reducible rfl)
                    try simp only [Act.put, List.setIfInBounds_toArray, List.set_cons_zero, List.set_cons_succ]
                    refine wpAnyH_take (i := 12) (oi := { dst := some 152, op := Op.extract (Operand.tmp 140) 1, type := 3, pos := "exact.go:3653", after := #[{ on := 10, ground := Ground.data }, { on := 14, ground := Ground.gcOnly Departure.lateStores }], guard := none }) (v := ?_) rfl (by kernel_rfl) (by kernel_rfl) (by kernel_rfl) (fun _ _ _ h => h) (Or.inl ⟨by rfl, ?_⟩) (by assumption) ?_
                    rotate_left 1
                    · intro w hSw
                      (try dsimp only at hSw)
                      first | (go_simp; done) | (go_simp; with_reducible rfl)
                    try simp only [Act.put, List.setIfInBounds_toArray, List.set_cons_zero, List.set_cons_succ]
                    refine wpAnyH_ready (rs := [14]) (by kernel_rfl) (by simp) ?_
                    refine AllReadyH.cons (o := { dst := none, op := Op.store 56 (Operand.tmp 23) (Operand.tmp 151), type := 0, pos := "exact.go:3653", after := #[{ on := 13, ground := Ground.data }, { on := 11, ground := Ground.data }, { on := 9, ground := Ground.chain }, { on := 0, ground := Ground.phase }, { on := 1, ground := Ground.phase }, { on := 2, ground := Ground.phase }, { on := 3, ground := Ground.phase }, { on := 4, ground := Ground.phase }, { on := 5, ground := Ground.phase }, { on := 6, ground := Ground.phase }, { on := 7, ground := Ground.phase }, { on := 8, ground := Ground.phase }, { on := 9, ground := Ground.phase }, { on := 10, ground := Ground.phase }, { on := 11, ground := Ground.phase }, { on := 12, ground := Ground.textOnly Departure.lateStores }, { on := 13, ground := Ground.phase }], guard := none }) rfl (fun K hK => ?_) AllReadyH.nil
                    obtain ⟨z0, y0⟩ := zz.2 0 _ rfl
                    obtain ⟨z1, y1⟩ := zz.2 1 _ rfl
                    obtain ⟨z2, y2⟩ := zz.2 2 _ rfl
                    go_simp
                    have hst := below_thr hcur zz.1 (.int .i64 R.epoch) (.int .i64 R.off) (.slice o5a R.out.length o5c)
                    clear hcur z0 y0 z1 y1 z2 y2
                    refine hK.out _ _ (by first | exact dUnhide HC _ hcur | exact dUnhide HC _ hst | exact dUnhide HC _ hbr | fail) (fun hHeld => ?_)
                    clear hK K
                    try simp only [Act.put, List.setIfInBounds_toArray, List.set_cons_zero, List.set_cons_succ]
                    refine wpAnyH_take (i := 15) (oi := { dst := some 24, op := Op.assign (Operand.tmp 152), type := 3, pos := "exact.go:3653", after := #[{ on := 12, ground := Ground.data }, { on := 14, ground := Ground.chain }, { on := 0, ground := Ground.phase }, { on := 1, ground := Ground.phase }, { on := 2, ground := Ground.phase }, { on := 3, ground := Ground.phase }, { on := 4, ground := Ground.phase }, { on := 5, ground := Ground.phase }, { on := 6, ground := Ground.phase }, { on := 7, ground := Ground.phase }, { on := 8, ground := Ground.phase }, { on := 9, ground := Ground.phase }, { on := 10, ground := Ground.phase }, { on := 11, ground := Ground.phase }, { on := 12, ground := Ground.phase }, { on := 13, ground := Ground.phase }, { on := 14, ground := Ground.phase }], guard := none }) (v := ?_) rfl (by kernel_rfl) (by kernel_rfl) (by kernel_rfl) (fun _ _ _ h => h) (Or.inl ⟨by rfl, ?_⟩) (by assumption) ?_
                    rotate_left 1
                    · intro w hSw
                      (try dsimp only at hSw)
                      first | (go_simp; done) | (go_simp; with_reducible rfl)
                    try simp only [Act.put, List.setIfInBounds_toArray, List.set_cons_zero, List.set_cons_succ]
                    refine wpAnyH_done (by kernel_rfl) ?_ _
                    refine NoPanic.normal ?_
                    go_wp2_with fail
                    go_meet
                    case rel => first | exact ⟨_, _, _, _, _, rfl, rfl, (((zz.put 0 (.int .i64 R.epoch)).put 1 (.int .i64 R.off)).put 2 (.slice o5a R.out.length o5c)).bx.sits, (((dUnhide Q5).setFar (.inl hlo) (.int .i64 R.epoch)).setFar (.inl hlo) (.int .i64 R.off)).setFar (.inl hlo) (.slice o5a R.out.length o5c), (.inl hlo), zz.1, hcz, hst⟩ | exact ⟨_, _, _, _, _, rfl, rfl, (((zz.put 0 (.int .i64 R.epoch)).put 1 (.int .i64 R.off)).put 2 (.slice o5a R.out.length o5c)).bx.sits, (((dUnhide Q5).setFar (.inr (Nat.le_refl _)) (.int .i64 R.epoch)).setFar (.inr (Nat.le_refl _)) (.int .i64 R.off)).setFar (.inr (Nat.le_refl _)) (.slice o5a R.out.length o5c), (.inr (Nat.le_refl _)), zz.1, hcz, hst⟩
                · go_simp
                  have zz := BxZ.new (B := w191.heap.size) _ [.int .i64 0, .int .i64 0, .slice none 0 0] 56 hcur.size
                  (try replace Q0 := dHide ((dUnhide Q0).below (ha _ (.cells #[.int .i64 0, .int .i64 0, .slice none 0 0] 56))))
                  (try replace Q1 := dHide ((dUnhide Q1).below (ha _ (.cells #[.int .i64 0, .int .i64 0, .slice none 0 0] 56))))
                  (try replace Q2 := dHide ((dUnhide Q2).below (ha _ (.cells #[.int .i64 0, .int .i64 0, .slice none 0 0] 56))))
                  (try replace Q3 := dHide ((dUnhide Q3).below (ha _ (.cells #[.int .i64 0, .int .i64 0, .slice none 0 0] 56))))
                  (try replace Q5 := dHide ((dUnhide Q5).below (ha _ (.cells #[.int .i64 0, .int .i64 0, .slice none 0 0] 56))))
                  replace hcur := hcur.alloc hcur.size (.cells #[.int .i64 0, .int .i64 0, .slice none 0 0] 56)
                  first | generalize w5.alloc (.cells #[.int .i64 0, .int .i64 0, .slice none 0 0] 56) = wa at * | generalize wq3.alloc (.cells #[.int .i64 0, .int .i64 0, .slice none 0 0] 56) = wa at * | generalize wq2.alloc (.cells #[.int .i64 0, .int .i64 0, .slice none 0 0] 56) = wa at * | generalize wq1.alloc (.cells #[.int .i64 0, .int .i64 0, .slice none 0 0] 56) = wa at * | generalize wq0.alloc (.cells #[.int .i64 0, .int .i64 0, .slice none 0 0] 56) = wa at * | generalize wd.alloc (.cells #[.int .i64 0, .int .i64 0, .slice none 0 0] 56) = wa at * | fail
                  refine hK.out _ _ (by first | exact dUnhide HC _ hcur | exact dUnhide HC _ hst | exact dUnhide HC _ hbr | fail) (fun hHeld => ?_)
                  clear hK K
                  try simp only [Act.put, List.setIfInBounds_toArray, List.set_cons_zero, List.set_cons_succ]
                  refine wpAnyH_ready (rs := [6]) (by kernel_rfl) (by simp) ?_
                  refine AllReadyH.cons (o := { dst := some 147, op := Op.call { callee := Callee.value (Operand.func 42), args := #[Operand.tmp 146], argTypes := #[76] }, type := 56, pos := "exact.go:3653", after := #[{ on := 5, ground := Ground.data }, { on := 3, ground := Ground.chain }], guard := none }) rfl (fun K hK => ?_) AllReadyH.nil
                  go_simp
                  refine (toReader_ _ m3 _ hs3 (dUnhide A3 _ (belowThen B hcur))).mono ?_
                  rintro e wq2 ⟨o2, rfl, q2, b2⟩
                  replace hcur := belowThen hcur b2
                  (try replace zz := BxZ.below zz b2)
                  replace Q0 := dHide ((dUnhide Q0).below b2)
                  replace Q1 := dHide ((dUnhide Q1).below b2)
                  have Q2 := dHide q2
                  obtain ⟨o2a, o2c, rfl, o2l⟩ := formReader q2.now.rd
                  clear q2 b2
                  (try go_wp2_with fail)
                  refine hK.out _ _ (by first | exact dUnhide HC _ hcur | exact dUnhide HC _ hst | exact dUnhide HC _ hbr | fail) (fun hHeld => ?_)
                  clear hK K
                  try simp only [Act.put, List.setIfInBounds_toArray, List.set_cons_zero, List.set_cons_succ]
                  refine wpAnyH_ready (rs := [8]) (by kernel_rfl) (by simp) ?_
                  refine AllReadyH.cons (o := { dst := some 149, op := Op.call { callee := Callee.value (Operand.func 43), args := #[Operand.tmp 148], argTypes := #[77] }, type := 57, pos := "exact.go:3653", after := #[{ on := 7, ground := Ground.data }, { on := 6, ground := Ground.chain }], guard := none }) rfl (fun K hK => ?_) AllReadyH.nil
                  go_simp
                  refine (toAnswerS_ _ m4 _ hs4 (dUnhide A4 _ (belowThen B hcur))).mono ?_
                  rintro e wq3 ⟨o3, rfl, q3, b3⟩
                  replace hcur := belowThen hcur b3
                  (try replace zz := BxZ.below zz b3)
                  replace Q0 := dHide ((dUnhide Q0).below b3)
                  replace Q1 := dHide ((dUnhide Q1).below b3)
                  replace Q2 := dHide ((dUnhide Q2).below b3)
                  have Q3 := dHide q3
                  obtain ⟨o3a, o3c, rfl, o3l⟩ := formAnswerS q3.now.rd
                  clear q3 b3
                  (try go_wp2_with fail)
                  refine hK.out _ _ (by first | exact dUnhide HC _ hcur | exact dUnhide HC _ hst | exact dUnhide HC _ hbr | fail) (fun hHeld => ?_)
                  clear hK K
                  try simp only [Act.put, List.setIfInBounds_toArray, List.set_cons_zero, List.set_cons_succ]
                  refine wpAnyH_ready (rs := [9]) (by kernel_rfl) (by simp) ?_
                  refine AllReadyH.cons (o := { dst := some 150, op := Op.call { callee := Callee.value (Operand.func 29), args := #[Operand.tmp 142, Operand.tmp 144, Operand.tmp 145, Operand.tmp 147, Operand.tmp 149], argTypes := #[26, 53, 3, 56, 57] }, type := 60, pos := "exact.go:3653", after := #[{ on := 1, ground := Ground.data }, { on := 3, ground := Ground.data }, { on := 4, ground := Ground.data }, { on := 6, ground := Ground.data }, { on := 8, ground := Ground.data }, { on := 8, ground := Ground.chain }], guard := none }) rfl (fun K hK => ?_) AllReadyH.nil
                  go_simp
                  (try have hlo := BxZ.lt zz)
                  have hcz := hcur.size
                  refine (dUnhide CI _ _ _ _ _ (dUnhide Q0).now.rd (dUnhide Q1).now.rd (dUnhide Q2).now.rd (dUnhide Q3).now.rd).mono ?_
                  rintro e w5 ⟨u5, rfl, q5, b5⟩
                  replace hcur := belowThen hcur b5
                  (try replace zz := BxZ.below zz b5)
                  have Q5 := dHide q5
                  obtain ⟨o5a, o5c, rfl, o5l⟩ := formReader q5.now.rd
                  clear q5 b5 Q0 Q1 Q2 Q3
                  (try go_wp2_with fail)
                  refine hK.out _ _ (by first | exact dUnhide HC _ hcur | exact dUnhide HC _ hst | exact dUnhide HC _ hbr | fail) (fun hHeld => ?_)
                  clear hK K
                  try simp only [Act.put, List.setIfInBounds_toArray, List.set_cons_zero, List.set_cons_succ]
                  refine wpAnyH_take (i := 10) (oi := { dst := some 140, op := Op.move (Operand.tmp 150), type := 60, pos := "exact.go:3653", after := #[{ on := 9, ground := Ground.data }], guard := none }) (v := ?_) rfl (by kernel_rfl) (by kernel_rfl) (by kernel_rfl) (fun _ _ _ h => h) (Or.inl ⟨by rfl, ?_⟩) (by assumption) ?_
                  rotate_left 1
                  · intro w hSw
                    (try dsimp only at hSw)
                    first | (go_simp; done) | (go_simp; with_reducible rfl)
                  try simp only [Act.put, List.setIfInBounds_toArray, List.set_cons_zero, List.set_cons_succ]
                  refine wpAnyH_take (i := 11) (oi := { dst := some 151, op := Op.extract (Operand.tmp 140) 0, type := 56, pos := "exact.go:3653", after := #[{ on := 10, ground := Ground.data }], guard := none }) (v := ?_) rfl (by kernel_rfl) (by kernel_rfl) (by kernel_rfl) (fun _ _ _ h => h) (Or.inl ⟨by rfl, ?_⟩) (by assumption) ?_
                  rotate_left 1
                  · intro w hSw
                    (try dsimp only at hSw)
                    first | (go_simp; done) | (go_simp; with_reducible rfl)
                  try simp only [Act.put, List.setIfInBounds_toArray, List.set_cons_zero, List.set_cons_succ]
                  refine wpAnyH_take (i := 12) (oi := { dst := some 152, op := Op.extract (Operand.tmp 140) 1, type := 3, pos := "exact.go:3653", after := #[{ on := 10, ground := Ground.data }, { on := 14, ground := Ground.gcOnly Departure.lateStores }], guard := none }) (v := ?_) rfl (by kernel_rfl) (by kernel_rfl) (by kernel_rfl) (fun _ _ _ h => h) (Or.inl ⟨by rfl, ?_⟩) (by assumption) ?_
                  rotate_left 1
                  · intro w hSw
                    (try dsimp only at hSw)
                    first | (go_simp; done) | (go_simp; with_reducible rfl)
                  try simp only [Act.put, List.setIfInBounds_toArray, List.set_cons_zero, List.set_cons_succ]
                  refine wpAnyH_ready (rs := [14]) (by kernel_rfl) (by simp) ?_
                  refine AllReadyH.cons (o := { dst := none, op := Op.store 56 (Operand.tmp 23) (Operand.tmp 151), type := 0, pos := "exact.go:3653", after := #[{ on := 13, ground := Ground.data }, { on := 11, ground := Ground.data }, { on := 9, ground := Ground.chain }, { on := 0, ground := Ground.phase }, { on := 1, ground := Ground.phase }, { on := 2, ground := Ground.phase }, { on := 3, ground := Ground.phase }, { on := 4, ground := Ground.phase }, { on := 5, ground := Ground.phase }, { on := 6, ground := Ground.phase }, { on := 7, ground := Ground.phase }, { on := 8, ground := Ground.phase }, { on := 9, ground := Ground.phase }, { on := 10, ground := Ground.phase }, { on := 11, ground := Ground.phase }, { on := 12, ground := Ground.textOnly Departure.lateStores }, { on := 13, ground := Ground.phase }], guard := none }) rfl (fun K hK => ?_) AllReadyH.nil
                  obtain ⟨z0, y0⟩ := zz.2 0 _ rfl
                  obtain ⟨z1, y1⟩ := zz.2 1 _ rfl
                  obtain ⟨z2, y2⟩ := zz.2 2 _ rfl
                  go_simp
                  have hst := below_thr hcur zz.1 (.int .i64 R.epoch) (.int .i64 R.off) (.slice o5a R.out.length o5c)
                  clear hcur z0 y0 z1 y1 z2 y2
                  refine hK.out _ _ (by first | exact dUnhide HC _ hcur | exact dUnhide HC _ hst | exact dUnhide HC _ hbr | fail) (fun hHeld => ?_)
                  clear hK K
                  try simp only [Act.put, List.setIfInBounds_toArray, List.set_cons_zero, List.set_cons_succ]
                  refine wpAnyH_take (i := 15) (oi := { dst := some 24, op := Op.assign (Operand.tmp 152), type := 3, pos := "exact.go:3653", after := #[{ on := 12, ground := Ground.data }, { on := 14, ground := Ground.chain }, { on := 0, ground := Ground.phase }, { on := 1, ground := Ground.phase }, { on := 2, ground := Ground.phase }, { on := 3, ground := Ground.phase }, { on := 4, ground := Ground.phase }, { on := 5, ground := Ground.phase }, { on := 6, ground := Ground.phase }, { on := 7, ground := Ground.phase }, { on := 8, ground := Ground.phase }, { on := 9, ground := Ground.phase }, { on := 10, ground := Ground.phase }, { on := 11, ground := Ground.phase }, { on := 12, ground := Ground.phase }, { on := 13, ground := Ground.phase }, { on := 14, ground := Ground.phase }], guard := none }) (v := ?_) rfl (by kernel_rfl) (by kernel_rfl) (by kernel_rfl) (fun _ _ _ h => h) (Or.inl ⟨by rfl, ?_⟩) (by assumption) ?_
                  rotate_left 1
                  · intro w hSw
                    (try dsimp only at hSw)
                    first | (go_simp; done) | (go_simp; with_reducible rfl)
                  try simp only [Act.put, List.setIfInBounds_toArray, List.set_cons_zero, List.set_cons_succ]
                  refine wpAnyH_done (by kernel_rfl) ?_ _
                  refine NoPanic.normal ?_
                  go_wp2_with fail
                  go_meet
                  case rel => first | exact ⟨_, _, _, _, _, rfl, rfl, (((zz.put 0 (.int .i64 R.epoch)).put 1 (.int .i64 R.off)).put 2 (.slice o5a R.out.length o5c)).bx.sits, (((dUnhide Q5).setFar (.inl hlo) (.int .i64 R.epoch)).setFar (.inl hlo) (.int .i64 R.off)).setFar (.inl hlo) (.slice o5a R.out.length o5c), (.inl hlo), zz.1, hcz, hst⟩ | exact ⟨_, _, _, _, _, rfl, rfl, (((zz.put 0 (.int .i64 R.epoch)).put 1 (.int .i64 R.off)).put 2 (.slice o5a R.out.length o5c)).bx.sits, (((dUnhide Q5).setFar (.inr (Nat.le_refl _)) (.int .i64 R.epoch)).setFar (.inr (Nat.le_refl _)) (.int .i64 R.off)).setFar (.inr (Nat.le_refl _)) (.slice o5a R.out.length o5c), (.inr (Nat.le_refl _)), zz.1, hcz, hst⟩
              · go_simp
                have zz := BxZ.new (B := w191.heap.size) _ [.int .i64 0, .int .i64 0, .slice none 0 0] 56 hcur.size
                (try replace Q0 := dHide ((dUnhide Q0).below (ha _ (.cells #[.int .i64 0, .int .i64 0, .slice none 0 0] 56))))
                (try replace Q1 := dHide ((dUnhide Q1).below (ha _ (.cells #[.int .i64 0, .int .i64 0, .slice none 0 0] 56))))
                (try replace Q2 := dHide ((dUnhide Q2).below (ha _ (.cells #[.int .i64 0, .int .i64 0, .slice none 0 0] 56))))
                (try replace Q3 := dHide ((dUnhide Q3).below (ha _ (.cells #[.int .i64 0, .int .i64 0, .slice none 0 0] 56))))
                (try replace Q5 := dHide ((dUnhide Q5).below (ha _ (.cells #[.int .i64 0, .int .i64 0, .slice none 0 0] 56))))
                replace hcur := hcur.alloc hcur.size (.cells #[.int .i64 0, .int .i64 0, .slice none 0 0] 56)
                first | generalize w5.alloc (.cells #[.int .i64 0, .int .i64 0, .slice none 0 0] 56) = wa at * | generalize wq3.alloc (.cells #[.int .i64 0, .int .i64 0, .slice none 0 0] 56) = wa at * | generalize wq2.alloc (.cells #[.int .i64 0, .int .i64 0, .slice none 0 0] 56) = wa at * | generalize wq1.alloc (.cells #[.int .i64 0, .int .i64 0, .slice none 0 0] 56) = wa at * | generalize wq0.alloc (.cells #[.int .i64 0, .int .i64 0, .slice none 0 0] 56) = wa at * | generalize wd.alloc (.cells #[.int .i64 0, .int .i64 0, .slice none 0 0] 56) = wa at * | fail
                refine hK.out _ _ (by first | exact dUnhide HC _ hcur | exact dUnhide HC _ hst | exact dUnhide HC _ hbr | fail) (fun hHeld => ?_)
                clear hK K
                try simp only [Act.put, List.setIfInBounds_toArray, List.set_cons_zero, List.set_cons_succ]
                refine wpAnyH_ready (rs := [3]) (by kernel_rfl) (by simp) ?_
                refine AllReadyH.cons (o := { dst := some 144, op := Op.call { callee := Callee.value (Operand.func 41), args := #[Operand.tmp 143], argTypes := #[73] }, type := 53, pos := "exact.go:3653", after := #[{ on := 2, ground := Ground.data }, { on := 1, ground := Ground.chain }], guard := none }) rfl (fun K hK => ?_) AllReadyH.nil
                go_simp
                refine (toRegister_ _ m1 _ hs1 (dUnhide A1 _ (belowThen B hcur))).mono ?_
                rintro e wq1 ⟨o1, rfl, q1, b1⟩
                replace hcur := belowThen hcur b1
                (try replace zz := BxZ.below zz b1)
                replace Q0 := dHide ((dUnhide Q0).below b1)
                have Q1 := dHide q1
                obtain ⟨o1a, o1c, rfl, o1l⟩ := formRegister q1.now.rd
                clear q1 b1
                (try go_wp2_with fail)
                refine hK.out _ _ (by first | exact dUnhide HC _ hcur | exact dUnhide HC _ hst | exact dUnhide HC _ hbr | fail) (fun hHeld => ?_)
                clear hK K
                try simp only [Act.put, List.setIfInBounds_toArray, List.set_cons_zero, List.set_cons_succ]
                refine wpAnyH_ready (rs := [6]) (by kernel_rfl) (by simp) ?_
                refine AllReadyH.cons (o := { dst := some 147, op := Op.call { callee := Callee.value (Operand.func 42), args := #[Operand.tmp 146], argTypes := #[76] }, type := 56, pos := "exact.go:3653", after := #[{ on := 5, ground := Ground.data }, { on := 3, ground := Ground.chain }], guard := none }) rfl (fun K hK => ?_) AllReadyH.nil
                go_simp
                refine (toReader_ _ m3 _ hs3 (dUnhide A3 _ (belowThen B hcur))).mono ?_
                rintro e wq2 ⟨o2, rfl, q2, b2⟩
                replace hcur := belowThen hcur b2
                (try replace zz := BxZ.below zz b2)
                replace Q0 := dHide ((dUnhide Q0).below b2)
                replace Q1 := dHide ((dUnhide Q1).below b2)
                have Q2 := dHide q2
                obtain ⟨o2a, o2c, rfl, o2l⟩ := formReader q2.now.rd
                clear q2 b2
                (try go_wp2_with fail)
                refine hK.out _ _ (by first | exact dUnhide HC _ hcur | exact dUnhide HC _ hst | exact dUnhide HC _ hbr | fail) (fun hHeld => ?_)
                clear hK K
                try simp only [Act.put, List.setIfInBounds_toArray, List.set_cons_zero, List.set_cons_succ]
                refine wpAnyH_ready (rs := [8]) (by kernel_rfl) (by simp) ?_
                refine AllReadyH.cons (o := { dst := some 149, op := Op.call { callee := Callee.value (Operand.func 43), args := #[Operand.tmp 148], argTypes := #[77] }, type := 57, pos := "exact.go:3653", after := #[{ on := 7, ground := Ground.data }, { on := 6, ground := Ground.chain }], guard := none }) rfl (fun K hK => ?_) AllReadyH.nil
                go_simp
                refine (toAnswerS_ _ m4 _ hs4 (dUnhide A4 _ (belowThen B hcur))).mono ?_
                rintro e wq3 ⟨o3, rfl, q3, b3⟩
                replace hcur := belowThen hcur b3
                (try replace zz := BxZ.below zz b3)
                replace Q0 := dHide ((dUnhide Q0).below b3)
                replace Q1 := dHide ((dUnhide Q1).below b3)
                replace Q2 := dHide ((dUnhide Q2).below b3)
                have Q3 := dHide q3
                obtain ⟨o3a, o3c, rfl, o3l⟩ := formAnswerS q3.now.rd
                clear q3 b3
                (try go_wp2_with fail)
                refine hK.out _ _ (by first | exact dUnhide HC _ hcur | exact dUnhide HC _ hst | exact dUnhide HC _ hbr | fail) (fun hHeld => ?_)
                clear hK K
                try simp only [Act.put, List.setIfInBounds_toArray, List.set_cons_zero, List.set_cons_succ]
                refine wpAnyH_ready (rs := [9]) (by kernel_rfl) (by simp) ?_
                refine AllReadyH.cons (o := { dst := some 150, op := Op.call { callee := Callee.value (Operand.func 29), args := #[Operand.tmp 142, Operand.tmp 144, Operand.tmp 145, Operand.tmp 147, Operand.tmp 149], argTypes := #[26, 53, 3, 56, 57] }, type := 60, pos := "exact.go:3653", after := #[{ on := 1, ground := Ground.data }, { on := 3, ground := Ground.data }, { on := 4, ground := Ground.data }, { on := 6, ground := Ground.data }, { on := 8, ground := Ground.data }, { on := 8, ground := Ground.chain }], guard := none }) rfl (fun K hK => ?_) AllReadyH.nil
                go_simp
                (try have hlo := BxZ.lt zz)
                have hcz := hcur.size
                refine (dUnhide CI _ _ _ _ _ (dUnhide Q0).now.rd (dUnhide Q1).now.rd (dUnhide Q2).now.rd (dUnhide Q3).now.rd).mono ?_
                rintro e w5 ⟨u5, rfl, q5, b5⟩
                replace hcur := belowThen hcur b5
                (try replace zz := BxZ.below zz b5)
                have Q5 := dHide q5
                obtain ⟨o5a, o5c, rfl, o5l⟩ := formReader q5.now.rd
                clear q5 b5 Q0 Q1 Q2 Q3
                (try go_wp2_with fail)
                refine hK.out _ _ (by first | exact dUnhide HC _ hcur | exact dUnhide HC _ hst | exact dUnhide HC _ hbr | fail) (fun hHeld => ?_)
                clear hK K
                try simp only [Act.put, List.setIfInBounds_toArray, List.set_cons_zero, List.set_cons_succ]
                refine wpAnyH_take (i := 10) (oi := { dst := some 140, op := Op.move (Operand.tmp 150), type := 60, pos := "exact.go:3653", after := #[{ on := 9, ground := Ground.data }], guard := none }) (v := ?_) rfl (by kernel_rfl) (by kernel_rfl) (by kernel_rfl) (fun _ _ _ h => h) (Or.inl ⟨by rfl, ?_⟩) (by assumption) ?_
                rotate_left 1
                · intro w hSw
                  (try dsimp only at hSw)
                  first | (go_simp; done) | (go_simp; with_reducible rfl)
                try simp only [Act.put, List.setIfInBounds_toArray, List.set_cons_zero, List.set_cons_succ]
                refine wpAnyH_take (i := 11) (oi := { dst := some 151, op := Op.extract (Operand.tmp 140) 0, type := 56, pos := "exact.go:3653", after := #[{ on := 10, ground := Ground.data }], guard := none }) (v := ?_) rfl (by kernel_rfl) (by kernel_rfl) (by kernel_rfl) (fun _ _ _ h => h) (Or.inl ⟨by rfl, ?_⟩) (by assumption) ?_
                rotate_left 1
                · intro w hSw
                  (try dsimp only at hSw)
                  first | (go_simp; done) | (go_simp; with_reducible rfl)
                try simp only [Act.put, List.setIfInBounds_toArray, List.set_cons_zero, List.set_cons_succ]
                refine wpAnyH_take (i := 12) (oi := { dst := some 152, op := Op.extract (Operand.tmp 140) 1, type := 3, pos := "exact.go:3653", after := #[{ on := 10, ground := Ground.data }, { on := 14, ground := Ground.gcOnly Departure.lateStores }], guard := none }) (v := ?_) rfl (by kernel_rfl) (by kernel_rfl) (by kernel_rfl) (fun _ _ _ h => h) (Or.inl ⟨by rfl, ?_⟩) (by assumption) ?_
                rotate_left 1
                · intro w hSw
                  (try dsimp only at hSw)
                  first | (go_simp; done) | (go_simp; with_reducible rfl)
                try simp only [Act.put, List.setIfInBounds_toArray, List.set_cons_zero, List.set_cons_succ]
                refine wpAnyH_ready (rs := [14]) (by kernel_rfl) (by simp) ?_
                refine AllReadyH.cons (o := { dst := none, op := Op.store 56 (Operand.tmp 23) (Operand.tmp 151), type := 0, pos := "exact.go:3653", after := #[{ on := 13, ground := Ground.data }, { on := 11, ground := Ground.data }, { on := 9, ground := Ground.chain }, { on := 0, ground := Ground.phase }, { on := 1, ground := Ground.phase }, { on := 2, ground := Ground.phase }, { on := 3, ground := Ground.phase }, { on := 4, ground := Ground.phase }, { on := 5, ground := Ground.phase }, { on := 6, ground := Ground.phase }, { on := 7, ground := Ground.phase }, { on := 8, ground := Ground.phase }, { on := 9, ground := Ground.phase }, { on := 10, ground := Ground.phase }, { on := 11, ground := Ground.phase }, { on := 12, ground := Ground.textOnly Departure.lateStores }, { on := 13, ground := Ground.phase }], guard := none }) rfl (fun K hK => ?_) AllReadyH.nil
                obtain ⟨z0, y0⟩ := zz.2 0 _ rfl
                obtain ⟨z1, y1⟩ := zz.2 1 _ rfl
                obtain ⟨z2, y2⟩ := zz.2 2 _ rfl
                go_simp
                have hst := below_thr hcur zz.1 (.int .i64 R.epoch) (.int .i64 R.off) (.slice o5a R.out.length o5c)
                clear hcur z0 y0 z1 y1 z2 y2
                refine hK.out _ _ (by first | exact dUnhide HC _ hcur | exact dUnhide HC _ hst | exact dUnhide HC _ hbr | fail) (fun hHeld => ?_)
                clear hK K
                try simp only [Act.put, List.setIfInBounds_toArray, List.set_cons_zero, List.set_cons_succ]
                refine wpAnyH_take (i := 15) (oi := { dst := some 24, op := Op.assign (Operand.tmp 152), type := 3, pos := "exact.go:3653", after := #[{ on := 12, ground := Ground.data }, { on := 14, ground := Ground.chain }, { on := 0, ground := Ground.phase }, { on := 1, ground := Ground.phase }, { on := 2, ground := Ground.phase }, { on := 3, ground := Ground.phase }, { on := 4, ground := Ground.phase }, { on := 5, ground := Ground.phase }, { on := 6, ground := Ground.phase }, { on := 7, ground := Ground.phase }, { on := 8, ground := Ground.phase }, { on := 9, ground := Ground.phase }, { on := 10, ground := Ground.phase }, { on := 11, ground := Ground.phase }, { on := 12, ground := Ground.phase }, { on := 13, ground := Ground.phase }, { on := 14, ground := Ground.phase }], guard := none }) (v := ?_) rfl (by kernel_rfl) (by kernel_rfl) (by kernel_rfl) (fun _ _ _ h => h) (Or.inl ⟨by rfl, ?_⟩) (by assumption) ?_
                rotate_left 1
                · intro w hSw
                  (try dsimp only at hSw)
                  first | (go_simp; done) | (go_simp; with_reducible rfl)
                try simp only [Act.put, List.setIfInBounds_toArray, List.set_cons_zero, List.set_cons_succ]
                refine wpAnyH_done (by kernel_rfl) ?_ _
                refine NoPanic.normal ?_
                go_wp2_with fail
                go_meet
                case rel => first | exact ⟨_, _, _, _, _, rfl, rfl, (((zz.put 0 (.int .i64 R.epoch)).put 1 (.int .i64 R.off)).put 2 (.slice o5a R.out.length o5c)).bx.sits, (((dUnhide Q5).setFar (.inl hlo) (.int .i64 R.epoch)).setFar (.inl hlo) (.int .i64 R.off)).setFar (.inl hlo) (.slice o5a R.out.length o5c), (.inl hlo), zz.1, hcz, hst⟩ | exact ⟨_, _, _, _, _, rfl, rfl, (((zz.put 0 (.int .i64 R.epoch)).put 1 (.int .i64 R.off)).put 2 (.slice o5a R.out.length o5c)).bx.sits, (((dUnhide Q5).setFar (.inr (Nat.le_refl _)) (.int .i64 R.epoch)).setFar (.inr (Nat.le_refl _)) (.int .i64 R.off)).setFar (.inr (Nat.le_refl _)) (.slice o5a R.out.length o5c), (.inr (Nat.le_refl _)), zz.1, hcz, hst⟩
            · go_simp
              have zz := BxZ.new (B := w191.heap.size) _ [.int .i64 0, .int .i64 0, .slice none 0 0] 56 hcur.size
              (try replace Q0 := dHide ((dUnhide Q0).below (ha _ (.cells #[.int .i64 0, .int .i64 0, .slice none 0 0] 56))))
              (try replace Q1 := dHide ((dUnhide Q1).below (ha _ (.cells #[.int .i64 0, .int .i64 0, .slice none 0 0] 56))))
              (try replace Q2 := dHide ((dUnhide Q2).below (ha _ (.cells #[.int .i64 0, .int .i64 0, .slice none 0 0] 56))))
              (try replace Q3 := dHide ((dUnhide Q3).below (ha _ (.cells #[.int .i64 0, .int .i64 0, .slice none 0 0] 56))))
              (try replace Q5 := dHide ((dUnhide Q5).below (ha _ (.cells #[.int .i64 0, .int .i64 0, .slice none 0 0] 56))))
              replace hcur := hcur.alloc hcur.size (.cells #[.int .i64 0, .int .i64 0, .slice none 0 0] 56)
              first | generalize w5.alloc (.cells #[.int .i64 0, .int .i64 0, .slice none 0 0] 56) = wa at * | generalize wq3.alloc (.cells #[.int .i64 0, .int .i64 0, .slice none 0 0] 56) = wa at * | generalize wq2.alloc (.cells #[.int .i64 0, .int .i64 0, .slice none 0 0] 56) = wa at * | generalize wq1.alloc (.cells #[.int .i64 0, .int .i64 0, .slice none 0 0] 56) = wa at * | generalize wq0.alloc (.cells #[.int .i64 0, .int .i64 0, .slice none 0 0] 56) = wa at * | generalize wd.alloc (.cells #[.int .i64 0, .int .i64 0, .slice none 0 0] 56) = wa at * | fail
              refine hK.out _ _ (by first | exact dUnhide HC _ hcur | exact dUnhide HC _ hst | exact dUnhide HC _ hbr | fail) (fun hHeld => ?_)
              clear hK K
              try simp only [Act.put, List.setIfInBounds_toArray, List.set_cons_zero, List.set_cons_succ]
              refine wpAnyH_ready (rs := [1]) (by kernel_rfl) (by simp) ?_
              refine AllReadyH.cons (o := { dst := some 142, op := Op.call { callee := Callee.value (Operand.func 40), args := #[Operand.tmp 141], argTypes := #[70] }, type := 26, pos := "exact.go:3653", after := #[{ on := 0, ground := Ground.data }], guard := none }) rfl (fun K hK => ?_) AllReadyH.nil
              go_simp
              refine (toConfig_ _ m0 _ hs0 (dUnhide A0 _ (belowThen B hcur))).mono ?_
              rintro e wq0 ⟨o0, rfl, q0, b0⟩
              replace hcur := belowThen hcur b0
              (try replace zz := BxZ.below zz b0)
              have Q0 := dHide q0
              obtain ⟨o0a, o0c, rfl, o0l⟩ := formConfig q0.now.rd
              clear q0 b0
              (try go_wp2_with fail)
              refine hK.out _ _ (by first | exact dUnhide HC _ hcur | exact dUnhide HC _ hst | exact dUnhide HC _ hbr | fail) (fun hHeld => ?_)
              clear hK K
              try simp only [Act.put, List.setIfInBounds_toArray, List.set_cons_zero, List.set_cons_succ]
              refine wpAnyH_ready (rs := [3]) (by kernel_rfl) (by simp) ?_
              refine AllReadyH.cons (o := { dst := some 144, op := Op.call { callee := Callee.value (Operand.func 41), args := #[Operand.tmp 143], argTypes := #[73] }, type := 53, pos := "exact.go:3653", after := #[{ on := 2, ground := Ground.data }, { on := 1, ground := Ground.chain }], guard := none }) rfl (fun K hK => ?_) AllReadyH.nil
              go_simp
              refine (toRegister_ _ m1 _ hs1 (dUnhide A1 _ (belowThen B hcur))).mono ?_
              rintro e wq1 ⟨o1, rfl, q1, b1⟩
              replace hcur := belowThen hcur b1
              (try replace zz := BxZ.below zz b1)
              replace Q0 := dHide ((dUnhide Q0).below b1)
              have Q1 := dHide q1
              obtain ⟨o1a, o1c, rfl, o1l⟩ := formRegister q1.now.rd
              clear q1 b1
              (try go_wp2_with fail)
              refine hK.out _ _ (by first | exact dUnhide HC _ hcur | exact dUnhide HC _ hst | exact dUnhide HC _ hbr | fail) (fun hHeld => ?_)
              clear hK K
              try simp only [Act.put, List.setIfInBounds_toArray, List.set_cons_zero, List.set_cons_succ]
              refine wpAnyH_ready (rs := [6]) (by kernel_rfl) (by simp) ?_
              refine AllReadyH.cons (o := { dst := some 147, op := Op.call { callee := Callee.value (Operand.func 42), args := #[Operand.tmp 146], argTypes := #[76] }, type := 56, pos := "exact.go:3653", after := #[{ on := 5, ground := Ground.data }, { on := 3, ground := Ground.chain }], guard := none }) rfl (fun K hK => ?_) AllReadyH.nil
              go_simp
              refine (toReader_ _ m3 _ hs3 (dUnhide A3 _ (belowThen B hcur))).mono ?_
              rintro e wq2 ⟨o2, rfl, q2, b2⟩
              replace hcur := belowThen hcur b2
              (try replace zz := BxZ.below zz b2)
              replace Q0 := dHide ((dUnhide Q0).below b2)
              replace Q1 := dHide ((dUnhide Q1).below b2)
              have Q2 := dHide q2
              obtain ⟨o2a, o2c, rfl, o2l⟩ := formReader q2.now.rd
              clear q2 b2
              (try go_wp2_with fail)
              refine hK.out _ _ (by first | exact dUnhide HC _ hcur | exact dUnhide HC _ hst | exact dUnhide HC _ hbr | fail) (fun hHeld => ?_)
              clear hK K
              try simp only [Act.put, List.setIfInBounds_toArray, List.set_cons_zero, List.set_cons_succ]
              refine wpAnyH_ready (rs := [8]) (by kernel_rfl) (by simp) ?_
              refine AllReadyH.cons (o := { dst := some 149, op := Op.call { callee := Callee.value (Operand.func 43), args := #[Operand.tmp 148], argTypes := #[77] }, type := 57, pos := "exact.go:3653", after := #[{ on := 7, ground := Ground.data }, { on := 6, ground := Ground.chain }], guard := none }) rfl (fun K hK => ?_) AllReadyH.nil
              go_simp
              refine (toAnswerS_ _ m4 _ hs4 (dUnhide A4 _ (belowThen B hcur))).mono ?_
              rintro e wq3 ⟨o3, rfl, q3, b3⟩
              replace hcur := belowThen hcur b3
              (try replace zz := BxZ.below zz b3)
              replace Q0 := dHide ((dUnhide Q0).below b3)
              replace Q1 := dHide ((dUnhide Q1).below b3)
              replace Q2 := dHide ((dUnhide Q2).below b3)
              have Q3 := dHide q3
              obtain ⟨o3a, o3c, rfl, o3l⟩ := formAnswerS q3.now.rd
              clear q3 b3
              (try go_wp2_with fail)
              refine hK.out _ _ (by first | exact dUnhide HC _ hcur | exact dUnhide HC _ hst | exact dUnhide HC _ hbr | fail) (fun hHeld => ?_)
              clear hK K
              try simp only [Act.put, List.setIfInBounds_toArray, List.set_cons_zero, List.set_cons_succ]
              refine wpAnyH_ready (rs := [9]) (by kernel_rfl) (by simp) ?_
              refine AllReadyH.cons (o := { dst := some 150, op := Op.call { callee := Callee.value (Operand.func 29), args := #[Operand.tmp 142, Operand.tmp 144, Operand.tmp 145, Operand.tmp 147, Operand.tmp 149], argTypes := #[26, 53, 3, 56, 57] }, type := 60, pos := "exact.go:3653", after := #[{ on := 1, ground := Ground.data }, { on := 3, ground := Ground.data }, { on := 4, ground := Ground.data }, { on := 6, ground := Ground.data }, { on := 8, ground := Ground.data }, { on := 8, ground := Ground.chain }], guard := none }) rfl (fun K hK => ?_) AllReadyH.nil
              go_simp
              (try have hlo := BxZ.lt zz)
              have hcz := hcur.size
              refine (dUnhide CI _ _ _ _ _ (dUnhide Q0).now.rd (dUnhide Q1).now.rd (dUnhide Q2).now.rd (dUnhide Q3).now.rd).mono ?_
              rintro e w5 ⟨u5, rfl, q5, b5⟩
              replace hcur := belowThen hcur b5
              (try replace zz := BxZ.below zz b5)
              have Q5 := dHide q5
              obtain ⟨o5a, o5c, rfl, o5l⟩ := formReader q5.now.rd
              clear q5 b5 Q0 Q1 Q2 Q3
              (try go_wp2_with fail)
              refine hK.out _ _ (by first | exact dUnhide HC _ hcur | exact dUnhide HC _ hst | exact dUnhide HC _ hbr | fail) (fun hHeld => ?_)
              clear hK K
              try simp only [Act.put, List.setIfInBounds_toArray, List.set_cons_zero, List.set_cons_succ]
              refine wpAnyH_take (i := 10) (oi := { dst := some 140, op := Op.move (Operand.tmp 150), type := 60, pos := "exact.go:3653", after := #[{ on := 9, ground := Ground.data }], guard := none }) (v := ?_) rfl (by kernel_rfl) (by kernel_rfl) (by kernel_rfl) (fun _ _ _ h => h) (Or.inl ⟨by rfl, ?_⟩) (by assumption) ?_
              rotate_left 1
              · intro w hSw
                (try dsimp only at hSw)
                first | (go_simp; done) | (go_simp; with_reducible rfl)
              try simp only [Act.put, List.setIfInBounds_toArray, List.set_cons_zero, List.set_cons_succ]
              refine wpAnyH_take (i := 11) (oi := { dst := some 151, op := Op.extract (Operand.tmp 140) 0, type := 56, pos := "exact.go:3653", after := #[{ on := 10, ground := Ground.data }], guard := none }) (v := ?_) rfl (by kernel_rfl) (by kernel_rfl) (by kernel_rfl) (fun _ _ _ h => h) (Or.inl ⟨by rfl, ?_⟩) (by assumption) ?_
              rotate_left 1
              · intro w hSw
                (try dsimp only at hSw)
                first | (go_simp; done) | (go_simp; with_reducible rfl)
              try simp only [Act.put, List.setIfInBounds_toArray, List.set_cons_zero, List.set_cons_succ]
              refine wpAnyH_take (i := 12) (oi := { dst := some 152, op := Op.extract (Operand.tmp 140) 1, type := 3, pos := "exact.go:3653", after := #[{ on := 10, ground := Ground.data }, { on := 14, ground := Ground.gcOnly Departure.lateStores }], guard := none }) (v := ?_) rfl (by kernel_rfl) (by kernel_rfl) (by kernel_rfl) (fun _ _ _ h => h) (Or.inl ⟨by rfl, ?_⟩) (by assumption) ?_
              rotate_left 1
              · intro w hSw
                (try dsimp only at hSw)
                first | (go_simp; done) | (go_simp; with_reducible rfl)
              try simp only [Act.put, List.setIfInBounds_toArray, List.set_cons_zero, List.set_cons_succ]
              refine wpAnyH_ready (rs := [14]) (by kernel_rfl) (by simp) ?_
              refine AllReadyH.cons (o := { dst := none, op := Op.store 56 (Operand.tmp 23) (Operand.tmp 151), type := 0, pos := "exact.go:3653", after := #[{ on := 13, ground := Ground.data }, { on := 11, ground := Ground.data }, { on := 9, ground := Ground.chain }, { on := 0, ground := Ground.phase }, { on := 1, ground := Ground.phase }, { on := 2, ground := Ground.phase }, { on := 3, ground := Ground.phase }, { on := 4, ground := Ground.phase }, { on := 5, ground := Ground.phase }, { on := 6, ground := Ground.phase }, { on := 7, ground := Ground.phase }, { on := 8, ground := Ground.phase }, { on := 9, ground := Ground.phase }, { on := 10, ground := Ground.phase }, { on := 11, ground := Ground.phase }, { on := 12, ground := Ground.textOnly Departure.lateStores }, { on := 13, ground := Ground.phase }], guard := none }) rfl (fun K hK => ?_) AllReadyH.nil
              obtain ⟨z0, y0⟩ := zz.2 0 _ rfl
              obtain ⟨z1, y1⟩ := zz.2 1 _ rfl
              obtain ⟨z2, y2⟩ := zz.2 2 _ rfl
              go_simp
              have hst := below_thr hcur zz.1 (.int .i64 R.epoch) (.int .i64 R.off) (.slice o5a R.out.length o5c)
              clear hcur z0 y0 z1 y1 z2 y2
              refine hK.out _ _ (by first | exact dUnhide HC _ hcur | exact dUnhide HC _ hst | exact dUnhide HC _ hbr | fail) (fun hHeld => ?_)
              clear hK K
              try simp only [Act.put, List.setIfInBounds_toArray, List.set_cons_zero, List.set_cons_succ]
              refine wpAnyH_take (i := 15) (oi := { dst := some 24, op := Op.assign (Operand.tmp 152), type := 3, pos := "exact.go:3653", after := #[{ on := 12, ground := Ground.data }, { on := 14, ground := Ground.chain }, { on := 0, ground := Ground.phase }, { on := 1, ground := Ground.phase }, { on := 2, ground := Ground.phase }, { on := 3, ground := Ground.phase }, { on := 4, ground := Ground.phase }, { on := 5, ground := Ground.phase }, { on := 6, ground := Ground.phase }, { on := 7, ground := Ground.phase }, { on := 8, ground := Ground.phase }, { on := 9, ground := Ground.phase }, { on := 10, ground := Ground.phase }, { on := 11, ground := Ground.phase }, { on := 12, ground := Ground.phase }, { on := 13, ground := Ground.phase }, { on := 14, ground := Ground.phase }], guard := none }) (v := ?_) rfl (by kernel_rfl) (by kernel_rfl) (by kernel_rfl) (fun _ _ _ h => h) (Or.inl ⟨by rfl, ?_⟩) (by assumption) ?_
              rotate_left 1
              · intro w hSw
                (try dsimp only at hSw)
                first | (go_simp; done) | (go_simp; with_reducible rfl)
              try simp only [Act.put, List.setIfInBounds_toArray, List.set_cons_zero, List.set_cons_succ]
              refine wpAnyH_done (by kernel_rfl) ?_ _
              refine NoPanic.normal ?_
              go_wp2_with fail
              go_meet
              case rel => first | exact ⟨_, _, _, _, _, rfl, rfl, (((zz.put 0 (.int .i64 R.epoch)).put 1 (.int .i64 R.off)).put 2 (.slice o5a R.out.length o5c)).bx.sits, (((dUnhide Q5).setFar (.inl hlo) (.int .i64 R.epoch)).setFar (.inl hlo) (.int .i64 R.off)).setFar (.inl hlo) (.slice o5a R.out.length o5c), (.inl hlo), zz.1, hcz, hst⟩ | exact ⟨_, _, _, _, _, rfl, rfl, (((zz.put 0 (.int .i64 R.epoch)).put 1 (.int .i64 R.off)).put 2 (.slice o5a R.out.length o5c)).bx.sits, (((dUnhide Q5).setFar (.inr (Nat.le_refl _)) (.int .i64 R.epoch)).setFar (.inr (Nat.le_refl _)) (.int .i64 R.off)).setFar (.inr (Nat.le_refl _)) (.slice o5a R.out.length o5c), (.inr (Nat.le_refl _)), zz.1, hcz, hst⟩
          case rest =>
            obtain ⟨bX196, lod195, hid195, uha, uhc, rfl, rfl, X196, OH, dd195, gd195, id195, bc⟩ := hcut
            clear kd1950 kd1951 kd1952 kd1953 kd1954 kd1955 kd1956 HC hbr
            have sz197 := dHide bc.size
            replace X0 := dHide ((dUnhide X0).below bc)
            replace X1 := dHide ((dUnhide X1).below bc)
            replace X2 := dHide ((dUnhide X2).below bc)
            replace X11 := dHide ((dUnhide X11).below bc)
            replace OW := dHide ((dUnhide OW).below bc)
            replace X78 := dHide ((dUnhide X78).below bc)
            replace M186 := dHide ((dUnhide M186).below bc)
            replace B := belowThen B bc
            have sz198 := dHide dd195
            have sz199 := dHide gd195
            have sz200 := dHide id195
            have sz201 := dHide X196.fit
            have sz202 := dHide OH.fit
            replace X196 := dHide X196
            replace OH := dHide OH
            clear bc dd195 gd195 id195
            generalize wc = w194 at *
            have k203 := (dUnhide X196).now 0 _ rfl
            have k204 := (dUnhide X196).now 1 _ rfl
            have k205 := (dUnhide X196).now 2 _ rfl
            have k206 := (dUnhide X11).now 0 _ rfl
            have k207 := (dUnhide X11).now 1 _ rfl
            have k208 := (dUnhide X11).now 2 _ rfl
            go_wp2_with fail
            refine (eqReader_ _ _ _ _ (dUnhide OH).now.rd (dUnhide OW).now.rd).mono ?_
            rintro e w209 ⟨rfl, b210⟩
            clear k203 k204 k205 k206 k207 k208
            have sz211 := dHide b210.size
            replace X0 := dHide ((dUnhide X0).below b210)
            replace X1 := dHide ((dUnhide X1).below b210)
            replace X2 := dHide ((dUnhide X2).below b210)
            replace X11 := dHide ((dUnhide X11).below b210)
            replace OW := dHide ((dUnhide OW).below b210)
            replace X78 := dHide ((dUnhide X78).below b210)
            replace M186 := dHide ((dUnhide M186).below b210)
            replace X196 := dHide ((dUnhide X196).below b210)
            replace OH := dHide ((dUnhide OH).below b210)
            replace B := belowThen B b210
            clear b210
            have k212 := (dUnhide X78).now 0 _ rfl
            have k213 := (dUnhide X78).now 1 _ rfl
            have k214 := (dUnhide X78).now 2 _ rfl
            go_wp2_with fail
            refine (heldReader_ _ R 1 _ (by omega) (by omega) (dUnhide M186).now.rd).mono ?_
            rintro e w215 ⟨rfl, b216⟩
            clear k212 k213 k214
            have sz217 := dHide b216.size
            replace X0 := dHide ((dUnhide X0).below b216)
            replace X1 := dHide ((dUnhide X1).below b216)
            replace X2 := dHide ((dUnhide X2).below b216)
            replace X11 := dHide ((dUnhide X11).below b216)
            replace OW := dHide ((dUnhide OW).below b216)
            replace X78 := dHide ((dUnhide X78).below b216)
            replace M186 := dHide ((dUnhide M186).below b216)
            replace X196 := dHide ((dUnhide X196).below b216)
            replace OH := dHide ((dUnhide OH).below b216)
            replace B := belowThen B b216
            clear b216
            clear X0 X1 X2 X11 OW X78 M186 X196 OH
            go_wp2
            go_ret
            exact ⟨rfl, B⟩
end Go.Proofs.YtapfdmmfhfkhkaaGreat
