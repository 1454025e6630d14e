/- FnExactRegOpen: both answers, and the law's walk (printed by tools/mkl7.py). -/
import Derived.Test.YtognmmmplmideaaDoorQ7C
import Derived.Test.YtognmmmplmideaaDoorBoxR
import Derived.Deep.RegionHeld3
import Derived.Deep.DeepCutAuto
namespace Go.Proofs.YtognmmmplmideaaDoor
open Go.ChangeShapes Go.WideShapes Go.ChangeAt Go.RowKit
set_option linter.unusedVariables false
theorem bothFnExactRegOpen (m0 : List Int × Int) (m1 : Rg) (m2 : List Int) (ok0 : okConfig m0) (ok1 : okRegister m1) (ok2 : okIntS m2) (hs0 : sizConfig m0 ≤ 1048576) (hs1 : sizRegister m1 ≤ 1048576) (hs2 : sizIntS m2 ≤ 1048576) (w : World) (e0 e1 : Addr) (hS : Snt w e0 e1) : ∃ (R : Rg) (s1 : Int) (s2 : Bool), cntRegister R ≤ 4194304 ∧ (∀ W v0 v1 v2, RdConfig v0 m0 W → RdRegister v1 m1 W → RdIntS v2 m2 W → Calls Tryd.prog 12 #[v0, v1, v2] W fun e w' => ∃ u, e = .returned (.tuple #[u, .int .i64 s1, .bool s2]) ∧ Sits (OwRegister W.heap.size w'.heap.size u R) W.heap.size w'.heap.size w' ∧ Below W.heap.size W w') ∧ (∀ W, Below w.heap.size w W → ∀ v0 v1 v2, RdConfig v0 m0 W → RdRegister v1 m1 W → RdIntS v2 m2 W → Calls Tryd.prog 11 #[v0, v1, v2] W fun e w' => ∃ u, e = .returned (.tuple #[u, .int .i64 s1, .bool s2]) ∧ Sits (OwRegister W.heap.size w'.heap.size u R) W.heap.size w'.heap.size w' ∧ Below W.heap.size W w') := bothRegOpen_ m0 m1 m2 ok0 ok1 ok2 hs0 hs1 hs2 w e0 e1 hS
set_option maxHeartbeats 4000000 in
set_option maxRecDepth 100000 in
theorem walkFnExactRegOpen (v0 v1 v2 : Value) (m0 : List Int × Int) (m1 : Rg) (m2 : List Int) (w : World) (i0 : IsConfig v0 m0 w) (i1 : IsRegister v1 m1 w) (i2 : IsIntS v2 m2 w) (e0 e1 : Addr) (hS : Snt w e0 e1) :
    Calls Tryd.prog 6 #[v0, v1, v2] w fun r w' => r = .returned (.bool true) ∧ Below w.heap.size w w' := by
  obtain ⟨r0, ok0⟩ := i0
  obtain ⟨r1, ok1⟩ := i1
  obtain ⟨r2, ok2⟩ := i2
  have ha : ∀ (w : World) o, Below w.heap.size w (w.alloc o) := fun w o => (Below.refl _ _).alloc (Nat.le_refl _) o
  have A0 := dHide fun W (hb : Below w.heap.size w W) => r0.below hb
  have A1 := dHide fun W (hb : Below w.heap.size w W) => r1.below hb
  have A2 := dHide fun W (hb : Below w.heap.size w W) => r2.below hb
  obtain ⟨v0a, v0c, rfl, v0l⟩ := formConfig r0
  obtain ⟨v1a, v1c, rfl, v1l⟩ := formRegister r1
  obtain ⟨v2a, v2c, rfl, v2l⟩ := formIntS r2
  by_cases g2 : (1048576 : Int) < (m2.length : Int)
  · go_enter Tryd.func6, Tryd.ntmps6
    go_wp2
    go_ret
    exact ⟨rfl, belowThen (ha w _) (ha _ _)⟩
  by_cases z0 : (1048576 : Int) < (sizConfig m0 : Int)
  · have CS0 := dHide fun W (hb : Below w.heap.size w W) => szConfig_ _ m0 (1048576 : Int) (by omega) (by omega) W (dUnhide A0 W hb)
    rw [lft_no z0] at CS0
    clear z0
    go_enter Tryd.func6, Tryd.ntmps6
    go_wp2_with fail
    have B := belowThen (ha w (.cells #[.slice v0a m0.1.length v0c, .int .i64 m0.2] 47)) (ha _ (.cells #[.slice v1a m1.eras.length v1c, .int .i64 m1.trim] 50))
    have X0 := dHide ((Sits.box w #[.slice v0a m0.1.length v0c, .int .i64 m0.2] 47).below (ha _ (.cells #[.slice v1a m1.eras.length v1c, .int .i64 m1.trim] 50)))
    have X1 := Sits.box (w.alloc (.cells #[.slice v0a m0.1.length v0c, .int .i64 m0.2] 47)) #[.slice v1a m1.eras.length v1c, .int .i64 m1.trim] 50
    have e1 : (w.alloc (.cells #[.slice v0a m0.1.length v0c, .int .i64 m0.2] 47)).heap.size = w.heap.size + 1 := by simp
    rw [e1] at X1
    replace X1 := dHide X1
    have sz0 : Hid (w.heap.size + 1 + 1 = ((w.alloc (.cells #[.slice v0a m0.1.length v0c, .int .i64 m0.2] 47)).alloc (.cells #[.slice v1a m1.eras.length v1c, .int .i64 m1.trim] 50)).heap.size) := by simp [Hid]
    clear e1
    generalize (w.alloc (.cells #[.slice v0a m0.1.length v0c, .int .i64 m0.2] 47)).alloc (.cells #[.slice v1a m1.eras.length v1c, .int .i64 m1.trim] 50) = wb at *
    refine (dUnhide CS0 _ B).mono ?_
    rintro e ws0 ⟨rfl, bs⟩
    have sz1 := dHide bs.size
    replace X0 := dHide ((dUnhide X0).below bs)
    replace X1 := dHide ((dUnhide X1).below bs)
    replace B := belowThen B bs
    clear bs CS0
    clear X0 X1
    go_wp2
    go_ret
    exact ⟨rfl, B⟩
  by_cases z1 : ((1048576 : Int) - (sizConfig m0 : Int)) < (sizRegister m1 : Int)
  · have CS0 := dHide fun W (hb : Below w.heap.size w W) => szConfig_ _ m0 (1048576 : Int) (by omega) (by omega) W (dUnhide A0 W hb)
    rw [lft_yes z0] at CS0
    have z0' : ¬ ((1048576 : Int) - (sizConfig m0 : Int) < 0) := by omega
    have CS1 := dHide fun W (hb : Below w.heap.size w W) => szRegister_ _ m1 ((1048576 : Int) - (sizConfig m0 : Int)) (by omega) (by omega) W (dUnhide A1 W hb)
    rw [lft_no z1] at CS1
    clear z0 z1
    go_enter Tryd.func6, Tryd.ntmps6
    go_wp2_with fail
    have B := belowThen (ha w (.cells #[.slice v0a m0.1.length v0c, .int .i64 m0.2] 47)) (ha _ (.cells #[.slice v1a m1.eras.length v1c, .int .i64 m1.trim] 50))
    have X0 := dHide ((Sits.box w #[.slice v0a m0.1.length v0c, .int .i64 m0.2] 47).below (ha _ (.cells #[.slice v1a m1.eras.length v1c, .int .i64 m1.trim] 50)))
    have X1 := Sits.box (w.alloc (.cells #[.slice v0a m0.1.length v0c, .int .i64 m0.2] 47)) #[.slice v1a m1.eras.length v1c, .int .i64 m1.trim] 50
    have e1 : (w.alloc (.cells #[.slice v0a m0.1.length v0c, .int .i64 m0.2] 47)).heap.size = w.heap.size + 1 := by simp
    rw [e1] at X1
    replace X1 := dHide X1
    have sz0 : Hid (w.heap.size + 1 + 1 = ((w.alloc (.cells #[.slice v0a m0.1.length v0c, .int .i64 m0.2] 47)).alloc (.cells #[.slice v1a m1.eras.length v1c, .int .i64 m1.trim] 50)).heap.size) := by simp [Hid]
    clear e1
    generalize (w.alloc (.cells #[.slice v0a m0.1.length v0c, .int .i64 m0.2] 47)).alloc (.cells #[.slice v1a m1.eras.length v1c, .int .i64 m1.trim] 50) = wb at *
    refine (dUnhide CS0 _ B).mono ?_
    rintro e ws0 ⟨rfl, bs⟩
    have sz1 := dHide bs.size
    replace X0 := dHide ((dUnhide X0).below bs)
    replace X1 := dHide ((dUnhide X1).below bs)
    replace B := belowThen B bs
    clear bs CS0
    have k2 := (dUnhide X1).now 0 _ rfl
    have k3 := (dUnhide X1).now 1 _ rfl
    go_wp2_with fail
    refine (dUnhide CS1 _ B).mono ?_
    rintro e ws1 ⟨rfl, bs⟩
    have sz4 := dHide bs.size
    replace X0 := dHide ((dUnhide X0).below bs)
    replace X1 := dHide ((dUnhide X1).below bs)
    replace B := belowThen B bs
    clear bs CS1 k2 k3
    clear X0 X1
    go_wp2
    go_ret
    exact ⟨rfl, B⟩
  have hs0 : sizConfig m0 ≤ 1048576 := by omega
  have hs1 : sizRegister m1 ≤ 1048576 := by omega
  have hs2 : sizIntS m2 ≤ 1048576 := by unfold sizIntS; omega
  have hc0 := cntConfig_le hs0
  have hc1 := cntRegister_le hs1
  have hc2 := cntIntS_le hs2
  obtain ⟨R, s1, s2, hR, p1, p2⟩ := bothFnExactRegOpen m0 m1 m2 ok0 ok1 ok2 hs0 hs1 hs2 w e0 e1 hS
  have CP := dHide p1
  have CI := dHide p2
  have CS0 := dHide fun W (hb : Below w.heap.size w W) => szConfig_ _ m0 (1048576 : Int) (by omega) (by omega) W (dUnhide A0 W hb)
  rw [lft_yes z0] at CS0
  have z0' : ¬ ((1048576 : Int) - (sizConfig m0 : Int) < 0) := by omega
  have CS1 := dHide fun W (hb : Below w.heap.size w W) => szRegister_ _ m1 ((1048576 : Int) - (sizConfig m0 : Int)) (by omega) (by omega) W (dUnhide A1 W hb)
  rw [lft_yes z1] at CS1
  have z1' : ¬ (((1048576 : Int) - (sizConfig m0 : Int)) - (sizRegister m1 : Int) < 0) := by omega
  clear p1 p2 hS r0 ok0 r1 ok1 r2 ok2 
  go_enter Tryd.func6, Tryd.ntmps6
  go_wp2_with fail
  have B := belowThen (ha w (.cells #[.slice v0a m0.1.length v0c, .int .i64 m0.2] 47)) (ha _ (.cells #[.slice v1a m1.eras.length v1c, .int .i64 m1.trim] 50))
  have X0 := dHide ((Sits.box w #[.slice v0a m0.1.length v0c, .int .i64 m0.2] 47).below (ha _ (.cells #[.slice v1a m1.eras.length v1c, .int .i64 m1.trim] 50)))
  have X1 := Sits.box (w.alloc (.cells #[.slice v0a m0.1.length v0c, .int .i64 m0.2] 47)) #[.slice v1a m1.eras.length v1c, .int .i64 m1.trim] 50
  have e1 : (w.alloc (.cells #[.slice v0a m0.1.length v0c, .int .i64 m0.2] 47)).heap.size = w.heap.size + 1 := by simp
  rw [e1] at X1
  replace X1 := dHide X1
  have sz0 : Hid (w.heap.size + 1 + 1 = ((w.alloc (.cells #[.slice v0a m0.1.length v0c, .int .i64 m0.2] 47)).alloc (.cells #[.slice v1a m1.eras.length v1c, .int .i64 m1.trim] 50)).heap.size) := by simp [Hid]
  clear e1
  generalize (w.alloc (.cells #[.slice v0a m0.1.length v0c, .int .i64 m0.2] 47)).alloc (.cells #[.slice v1a m1.eras.length v1c, .int .i64 m1.trim] 50) = wb at *
  refine (dUnhide CS0 _ B).mono ?_
  rintro e ws0 ⟨rfl, bs⟩
  have sz1 := dHide bs.size
  replace X0 := dHide ((dUnhide X0).below bs)
  replace X1 := dHide ((dUnhide X1).below bs)
  replace B := belowThen B bs
  clear bs CS0
  have k2 := (dUnhide X1).now 0 _ rfl
  have k3 := (dUnhide X1).now 1 _ rfl
  go_wp2_with fail
  refine (dUnhide CS1 _ B).mono ?_
  rintro e ws1 ⟨rfl, bs⟩
  have sz4 := dHide bs.size
  replace X0 := dHide ((dUnhide X0).below bs)
  replace X1 := dHide ((dUnhide X1).below bs)
  replace B := belowThen B bs
  clear bs CS1 k2 k3
  go_wp2_with fail
  have hC : ∀ W, Below ws1.heap.size ws1 W → W.cell? ⟨w.heap.size, 0, none⟩ = some (.slice v0a m0.1.length v0c) ∧ W.cell? ⟨w.heap.size, 1, none⟩ = some (.int .i64 m0.2) ∧ W.cell? ⟨w.heap.size + 1, 0, none⟩ = some (.slice v1a m1.eras.length v1c) ∧ W.cell? ⟨w.heap.size + 1, 1, none⟩ = some (.int .i64 m1.trim) := fun W hb =>
    ⟨(dUnhide X0).at hb 0 _ rfl, (dUnhide X0).at hb 1 _ rfl, (dUnhide X1).at hb 0 _ rfl, (dUnhide X1).at hb 1 _ rfl⟩
  have HC := dHide hC
  have hbr := Below.refl ws1.heap.size ws1
  obtain ⟨kd50, kd51, kd52, kd53⟩ := hC ws1 hbr
  clear hC
  go_cut [8, 9, 10] (fun sv t1 t2 wx => ∃ (bv lo hi : Nat) (a : Option Addr) (c : Nat), sv = .pointer (some ⟨bv, 0, none⟩) ∧ t1 = .int .i64 s1 ∧ t2 = .bool s2 ∧ Sits (Box bv #[.slice a R.eras.length c, .int .i64 R.trim]) bv (bv + 1) wx ∧ Sits (OwRegister lo hi (.agg #[.slice a R.eras.length c, .int .i64 R.trim]) R) lo hi wx ∧ (bv < lo ∨ hi ≤ bv) ∧ ws1.heap.size ≤ bv ∧ ws1.heap.size ≤ lo ∧ Below ws1.heap.size ws1 wx)
  case first =>
    go_region_held3 (fun W => W.cell? ⟨w.heap.size, 0, none⟩ = some (.slice v0a m0.1.length v0c) ∧ W.cell? ⟨w.heap.size, 1, none⟩ = some (.int .i64 m0.2) ∧ W.cell? ⟨w.heap.size + 1, 0, none⟩ = some (.slice v1a m1.eras.length v1c) ∧ W.cell? ⟨w.heap.size + 1, 1, none⟩ = some (.int .i64 m1.trim)) (first | exact dUnhide HC _ (below_two hb5 zz.1 _ _) | go_keep)
      (first
        | (go_at_call 28; refine (toConfig_ _ m0 _ hs0 (dUnhide A0 _ (belowThen B (by first | exact hbr.drew | exact hbr.drew.alloc hbr.size _)))).mono ?_; rintro e wq0 ⟨o0, rfl, q0, b0⟩; have hb0 := belowThen (by first | exact hbr.drew | exact hbr.drew.alloc hbr.size _) b0; obtain ⟨kd50, kd51, kd52, kd53⟩ := dUnhide HC wq0 hb0; (first | have zz := BxZ.madeD2 hbr.size b0 | have zz : BxZ wq0 ws1.heap.size ws1.heap.size [_, _] := BxZ.made2 hbr.size b0 | skip); have Q0 := dHide q0; obtain ⟨o0a, o0c, rfl, o0l⟩ := formConfig q0.now.rd; clear q0; (try obtain ⟨z0, y0⟩ := zz.2 0 _ rfl); (try obtain ⟨z1, y1⟩ := zz.2 1 _ rfl))
        | (go_at_call 29; refine (toRegister_ _ m1 _ hs1 (dUnhide A1 _ (belowThen B (by first | exact hb0 | exact hb0.alloc hb0.size _)))).mono ?_; rintro e wq1 ⟨o1, rfl, q1, b1⟩; have hb1 := belowThen (by first | exact hb0 | exact hb0.alloc hb0.size _) b1; obtain ⟨kd50, kd51, kd52, kd53⟩ := dUnhide HC wq1 hb1; have Q0 := dHide ((dUnhide Q0).below (by first | exact b1 | exact belowThen (ha _ _) b1)); (first | have zz := BxZ.made2 hb0.size b1 | have zz := BxZ.below zz b1 | skip); have Q1 := dHide q1; obtain ⟨o1a, o1c, rfl, o1l⟩ := formRegister q1.now.rd; clear q1; (try obtain ⟨z0, y0⟩ := zz.2 0 _ rfl); (try obtain ⟨z1, y1⟩ := zz.2 1 _ rfl))
        | (go_at_call 30; refine (toIntS_ _ m2 _ hs2 (dUnhide A2 _ (belowThen B (by first | exact hb1 | exact hb1.alloc hb1.size _)))).mono ?_; rintro e wq2 ⟨o2, rfl, q2, b2⟩; have hb2 := belowThen (by first | exact hb1 | exact hb1.alloc hb1.size _) b2; obtain ⟨kd50, kd51, kd52, kd53⟩ := dUnhide HC wq2 hb2; have Q0 := dHide ((dUnhide Q0).below (by first | exact b2 | exact belowThen (ha _ _) b2)); have Q1 := dHide ((dUnhide Q1).below (by first | exact b2 | exact belowThen (ha _ _) b2)); (first | have zz := BxZ.made2 hb1.size b2 | have zz := BxZ.below zz b2 | skip); have Q2 := dHide q2; obtain ⟨o2a, o2c, rfl, o2l⟩ := formIntS q2.now.rd; clear q2; (try obtain ⟨z0, y0⟩ := zz.2 0 _ rfl); (try obtain ⟨z1, y1⟩ := zz.2 1 _ rfl))
        | (go_at_call 12; refine (dUnhide CP _ _ _ _ (by first | exact (dUnhide Q0).now.rd | exact RdConfig.below (dUnhide Q0).now.rd (ha _ _)) (by first | exact (dUnhide Q1).now.rd | exact RdRegister.below (dUnhide Q1).now.rd (ha _ _)) (by first | exact (dUnhide Q2).now.rd | exact RdIntS.below (dUnhide Q2).now.rd (ha _ _))).mono ?_; rintro e w5 ⟨u5, rfl, q5, b5⟩; have hb5 := belowThen (by first | exact hb2 | exact hb2.alloc hb2.size _) b5; obtain ⟨kd50, kd51, kd52, kd53⟩ := dUnhide HC w5 hb5; (try have hlo := BxZ.lt zz); (first | have zz := BxZ.made2 hb2.size b5 | have zz := BxZ.below zz b5 | skip); have Q5 := dHide q5; obtain ⟨o5a, o5c, rfl, o5l⟩ := formRegister q5.now.rd; clear q5; (try obtain ⟨z0, y0⟩ := zz.2 0 _ rfl); (try obtain ⟨z1, y1⟩ := zz.2 1 _ rfl)))
    all_goals
      go_wp2_with fail
      go_meet
      case rel => first | exact ⟨_, _, _, _, _, rfl, rfl, rfl, ((zz.put 0 _).put 1 _).bx.sits, ((dUnhide Q5).setFar (.inl (by first | exact hlo | simp)) _).setFar (.inl (by first | exact hlo | simp)) _, (.inl (by first | exact hlo | simp)), zz.1, (by have := hb2.size; first | exact this | (simp; omega)), below_two hb5 zz.1 _ _⟩ | exact ⟨_, _, _, _, _, rfl, rfl, rfl, Sits.box w5 _ _, (dUnhide Q5).below (ha _ _), .inr (Nat.le_refl _), hb5.size, hb2.size, hb5.alloc hb5.size _⟩
  case rest =>
    obtain ⟨bX6, lod5, hid5, uwa, uwc, rfl, rfl, rfl, X6, OW, dd5, gd5, id5, bc⟩ := hcut
    clear kd50 kd51 kd52 kd53 HC hbr
    have sz7 := dHide bc.size
    replace X0 := dHide ((dUnhide X0).below bc)
    replace X1 := dHide ((dUnhide X1).below bc)
    replace B := belowThen B bc
    have sz8 := dHide dd5
    have sz9 := dHide gd5
    have sz10 := dHide id5
    have sz11 := dHide X6.fit
    have sz12 := dHide OW.fit
    replace X6 := dHide X6
    replace OW := dHide OW
    clear bc dd5 gd5 id5
    generalize wc = w3 at *
    clear CP
    have k13 := (dUnhide X0).now 0 _ rfl
    have k14 := (dUnhide X0).now 1 _ rfl
    go_wp2_with fail
    refine (toConfig_ _ m0 _ hs0 (dUnhide A0 _ B)).mono ?_
    rintro e w17 ⟨u16, rfl, T15, b18⟩
    clear k13 k14
    have sz19 := dHide b18.size
    replace X0 := dHide ((dUnhide X0).below b18)
    replace X1 := dHide ((dUnhide X1).below b18)
    replace X6 := dHide ((dUnhide X6).below b18)
    replace OW := dHide ((dUnhide OW).below b18)
    replace B := belowThen B b18
    replace T15 := dHide T15
    clear b18
    obtain ⟨u16a, u16c, rfl, u16l⟩ := formConfig (dUnhide T15).now.rd
    have X20 := Sits.box w17 #[.slice u16a m0.1.length u16c, .int .i64 m0.2] 26
    have ba := ha w17 (.cells #[.slice u16a m0.1.length u16c, .int .i64 m0.2] 26)
    have sz22 := dHide ba.size
    replace X0 := dHide ((dUnhide X0).below ba)
    replace X1 := dHide ((dUnhide X1).below ba)
    replace X6 := dHide ((dUnhide X6).below ba)
    replace OW := dHide ((dUnhide OW).below ba)
    replace T15 := dHide ((dUnhide T15).below ba)
    replace B := belowThen B ba
    have sz23 : Hid (w17.heap.size + 1 = (w17.alloc (.cells #[.slice u16a m0.1.length u16c, .int .i64 m0.2] 26)).heap.size) := by simp [Hid]
    replace X20 := dHide X20
    clear ba
    have k24 := (dUnhide X1).now 0 _ rfl
    have k25 := (dUnhide X1).now 1 _ rfl
    go_wp2_with fail
    generalize hbx21 : w17.heap.size = bx21 at *
    generalize w17.alloc (.cells #[.slice u16a m0.1.length u16c, .int .i64 m0.2] 26) = w26 at *
    have sz27 := dHide hbx21
    clear hbx21
    have k28 := (dUnhide X1).now 0 _ rfl
    have k29 := (dUnhide X1).now 1 _ rfl
    refine (toRegister_ _ m1 _ hs1 (dUnhide A1 _ B)).mono ?_
    rintro e w32 ⟨u31, rfl, T30, b33⟩
    clear k28 k29
    clear k24 k25
    have sz34 := dHide b33.size
    replace X0 := dHide ((dUnhide X0).below b33)
    replace X1 := dHide ((dUnhide X1).below b33)
    replace X6 := dHide ((dUnhide X6).below b33)
    replace OW := dHide ((dUnhide OW).below b33)
    replace T15 := dHide ((dUnhide T15).below b33)
    replace X20 := dHide ((dUnhide X20).below b33)
    replace B := belowThen B b33
    replace T30 := dHide T30
    clear b33
    obtain ⟨u31a, u31c, rfl, u31l⟩ := formRegister (dUnhide T30).now.rd
    have X35 := Sits.box w32 #[.slice u31a m1.eras.length u31c, .int .i64 m1.trim] 29
    have ba := ha w32 (.cells #[.slice u31a m1.eras.length u31c, .int .i64 m1.trim] 29)
    have sz37 := dHide ba.size
    replace X0 := dHide ((dUnhide X0).below ba)
    replace X1 := dHide ((dUnhide X1).below ba)
    replace X6 := dHide ((dUnhide X6).below ba)
    replace OW := dHide ((dUnhide OW).below ba)
    replace T15 := dHide ((dUnhide T15).below ba)
    replace X20 := dHide ((dUnhide X20).below ba)
    replace T30 := dHide ((dUnhide T30).below ba)
    replace B := belowThen B ba
    have sz38 : Hid (w32.heap.size + 1 = (w32.alloc (.cells #[.slice u31a m1.eras.length u31c, .int .i64 m1.trim] 29)).heap.size) := by simp [Hid]
    replace X35 := dHide X35
    clear ba
    go_wp2_with fail
    generalize hbx36 : w32.heap.size = bx36 at *
    generalize w32.alloc (.cells #[.slice u31a m1.eras.length u31c, .int .i64 m1.trim] 29) = w39 at *
    have sz40 := dHide hbx36
    clear hbx36
    refine (toIntS_ _ m2 _ hs2 (dUnhide A2 _ B)).mono ?_
    rintro e w43 ⟨u42, rfl, T41, b44⟩
    have sz45 := dHide b44.size
    replace X0 := dHide ((dUnhide X0).below b44)
    replace X1 := dHide ((dUnhide X1).below b44)
    replace X6 := dHide ((dUnhide X6).below b44)
    replace OW := dHide ((dUnhide OW).below b44)
    replace T15 := dHide ((dUnhide T15).below b44)
    replace X20 := dHide ((dUnhide X20).below b44)
    replace T30 := dHide ((dUnhide T30).below b44)
    replace X35 := dHide ((dUnhide X35).below b44)
    replace B := belowThen B b44
    replace T41 := dHide T41
    clear b44
    obtain ⟨u42a, u42c, rfl, u42l⟩ := formIntS (dUnhide T41).now.rd
    have k46 := (dUnhide X20).now 0 _ rfl
    have k47 := (dUnhide X20).now 1 _ rfl
    have k48 := (dUnhide X35).now 0 _ rfl
    have k49 := (dUnhide X35).now 1 _ rfl
    go_wp2_with fail
    refine (dUnhide CI _ B _ _ _ (dUnhide T15).now.rd (dUnhide T30).now.rd (dUnhide T41).now.rd).mono ?_
    rintro e w50 ⟨ug, rfl, OG, b51⟩
    clear k46 k47 k48 k49
    have sz52 := dHide b51.size
    replace X0 := dHide ((dUnhide X0).below b51)
    replace X1 := dHide ((dUnhide X1).below b51)
    replace X6 := dHide ((dUnhide X6).below b51)
    replace OW := dHide ((dUnhide OW).below b51)
    replace T15 := dHide ((dUnhide T15).below b51)
    replace X20 := dHide ((dUnhide X20).below b51)
    replace T30 := dHide ((dUnhide T30).below b51)
    replace X35 := dHide ((dUnhide X35).below b51)
    replace T41 := dHide ((dUnhide T41).below b51)
    replace B := belowThen B b51
    replace OG := dHide OG
    clear b51
    obtain ⟨uga, ugc, rfl, ugl⟩ := formRegister (dUnhide OG).now.rd
    have X53 := Sits.box w50 #[.slice uga R.eras.length ugc, .int .i64 R.trim] 29
    have ba := ha w50 (.cells #[.slice uga R.eras.length ugc, .int .i64 R.trim] 29)
    have sz55 := dHide ba.size
    replace X0 := dHide ((dUnhide X0).below ba)
    replace X1 := dHide ((dUnhide X1).below ba)
    replace X6 := dHide ((dUnhide X6).below ba)
    replace OW := dHide ((dUnhide OW).below ba)
    replace T15 := dHide ((dUnhide T15).below ba)
    replace X20 := dHide ((dUnhide X20).below ba)
    replace T30 := dHide ((dUnhide T30).below ba)
    replace X35 := dHide ((dUnhide X35).below ba)
    replace T41 := dHide ((dUnhide T41).below ba)
    replace OG := dHide ((dUnhide OG).below ba)
    replace B := belowThen B ba
    have sz56 : Hid (w50.heap.size + 1 = (w50.alloc (.cells #[.slice uga R.eras.length ugc, .int .i64 R.trim] 29)).heap.size) := by simp [Hid]
    replace X53 := dHide X53
    clear ba
    have k57 := (dUnhide X53).now 0 _ rfl
    have k58 := (dUnhide X53).now 1 _ rfl
    have k59 := (dUnhide X6).now 0 _ rfl
    have k60 := (dUnhide X6).now 1 _ rfl
    go_wp2_with fail
    generalize hbx54 : w50.heap.size = bx54 at *
    generalize w50.alloc (.cells #[.slice uga R.eras.length ugc, .int .i64 R.trim] 29) = w61 at *
    have sz62 := dHide hbx54
    clear hbx54
    refine (eqRegister_ _ _ _ _ (dUnhide OG).now.rd (dUnhide OW).now.rd).mono ?_
    rintro e w63 ⟨rfl, b64⟩
    clear k57 k58 k59 k60
    have sz65 := dHide b64.size
    replace X0 := dHide ((dUnhide X0).below b64)
    replace X1 := dHide ((dUnhide X1).below b64)
    replace X6 := dHide ((dUnhide X6).below b64)
    replace OW := dHide ((dUnhide OW).below b64)
    replace T15 := dHide ((dUnhide T15).below b64)
    replace X20 := dHide ((dUnhide X20).below b64)
    replace T30 := dHide ((dUnhide T30).below b64)
    replace X35 := dHide ((dUnhide X35).below b64)
    replace T41 := dHide ((dUnhide T41).below b64)
    replace OG := dHide ((dUnhide OG).below b64)
    replace X53 := dHide ((dUnhide X53).below b64)
    replace B := belowThen B b64
    clear b64
    have k66 := (dUnhide X20).now 0 _ rfl
    have k67 := (dUnhide X20).now 1 _ rfl
    have k68 := (dUnhide X0).now 0 _ rfl
    have k69 := (dUnhide X0).now 1 _ rfl
    have hbr := Below.refl w63.heap.size w63
    go_wp2_with fail
    go_cut [79] (fun sv wx => sv = .bool false ∧ Below w63.heap.size w63 wx)
    case first =>
      go_region_held3 (fun W => W.cell? ⟨bx21, 0, none⟩ = some (.slice u16a m0.1.length u16c) ∧ W.cell? ⟨bx21, 1, none⟩ = some (.int .i64 m0.2) ∧ W.cell? ⟨w.heap.size, 0, none⟩ = some (.slice v0a m0.1.length v0c) ∧ W.cell? ⟨w.heap.size, 1, none⟩ = some (.int .i64 m0.2)) (go_keep)
        (first
          | (go_at_call 28; refine (toConfig_ _ m0 _ hs0 (dUnhide A0 _ (belowThen B hbr.drew))).mono ?_; rintro e w8 ⟨o8, rfl, q8, b8⟩; have hb8 := belowThen hbr.drew b8; have k70 := ((dUnhide X20).at hb8) 0 _ rfl; have k71 := ((dUnhide X20).at hb8) 1 _ rfl; have k72 := ((dUnhide X0).at hb8) 0 _ rfl; have k73 := ((dUnhide X0).at hb8) 1 _ rfl; have Q8 := dHide q8; obtain ⟨o8a, o8c, rfl, o8l⟩ := formConfig q8.now.rd; clear q8)
          | (go_at_call 32; refine (eqConfig_ _ _ _ _ ((dUnhide T15).at hb8).rd (dUnhide Q8).now.rd).mono ?_; rintro e w9 ⟨rfl, b9⟩; have hb9 := belowThen hb8 b9; have k74 := ((dUnhide X20).at hb9) 0 _ rfl; have k75 := ((dUnhide X20).at hb9) 1 _ rfl; have k76 := ((dUnhide X0).at hb9) 0 _ rfl; have k77 := ((dUnhide X0).at hb9) 1 _ rfl))
      all_goals
        go_wp2_with fail
        go_meet
        case rel => exact ⟨rfl, hb9⟩
    case rest =>
      obtain ⟨rfl, bc⟩ := hcut
      clear hbr
      clear k66 k67 k68 k69
      have sz78 := dHide bc.size
      replace X0 := dHide ((dUnhide X0).below bc)
      replace X1 := dHide ((dUnhide X1).below bc)
      replace X6 := dHide ((dUnhide X6).below bc)
      replace OW := dHide ((dUnhide OW).below bc)
      replace T15 := dHide ((dUnhide T15).below bc)
      replace X20 := dHide ((dUnhide X20).below bc)
      replace T30 := dHide ((dUnhide T30).below bc)
      replace X35 := dHide ((dUnhide X35).below bc)
      replace T41 := dHide ((dUnhide T41).below bc)
      replace OG := dHide ((dUnhide OG).below bc)
      replace X53 := dHide ((dUnhide X53).below bc)
      replace B := belowThen B bc
      generalize wc = w79 at *
      clear bc
      have k80 := (dUnhide X35).now 0 _ rfl
      have k81 := (dUnhide X35).now 1 _ rfl
      have k82 := (dUnhide X1).now 0 _ rfl
      have k83 := (dUnhide X1).now 1 _ rfl
      have hbr := Below.refl w79.heap.size w79
      go_wp2_with fail
      go_cut [84] (fun sv wx => sv = .bool false ∧ Below w79.heap.size w79 wx)
      case first =>
        go_region_held3 (fun W => W.cell? ⟨bx36, 0, none⟩ = some (.slice u31a m1.eras.length u31c) ∧ W.cell? ⟨bx36, 1, none⟩ = some (.int .i64 m1.trim) ∧ W.cell? ⟨w.heap.size + 1, 0, none⟩ = some (.slice v1a m1.eras.length v1c) ∧ W.cell? ⟨w.heap.size + 1, 1, none⟩ = some (.int .i64 m1.trim)) (go_keep)
          (first
            | (go_at_call 29; refine (toRegister_ _ m1 _ hs1 (dUnhide A1 _ (belowThen B hbr.drew))).mono ?_; rintro e w8 ⟨o8, rfl, q8, b8⟩; have hb8 := belowThen hbr.drew b8; have k84 := ((dUnhide X35).at hb8) 0 _ rfl; have k85 := ((dUnhide X35).at hb8) 1 _ rfl; have k86 := ((dUnhide X1).at hb8) 0 _ rfl; have k87 := ((dUnhide X1).at hb8) 1 _ rfl; have Q8 := dHide q8; obtain ⟨o8a, o8c, rfl, o8l⟩ := formRegister q8.now.rd; clear q8)
            | (go_at_call 31; refine (eqRegister_ _ _ _ _ ((dUnhide T30).at hb8).rd (dUnhide Q8).now.rd).mono ?_; rintro e w9 ⟨rfl, b9⟩; have hb9 := belowThen hb8 b9; have k88 := ((dUnhide X35).at hb9) 0 _ rfl; have k89 := ((dUnhide X35).at hb9) 1 _ rfl; have k90 := ((dUnhide X1).at hb9) 0 _ rfl; have k91 := ((dUnhide X1).at hb9) 1 _ rfl))
        all_goals
          go_wp2_with fail
          go_meet
          case rel => exact ⟨rfl, hb9⟩
      case rest =>
        obtain ⟨rfl, bc⟩ := hcut
        clear hbr
        clear k80 k81 k82 k83
        have sz92 := dHide bc.size
        replace X0 := dHide ((dUnhide X0).below bc)
        replace X1 := dHide ((dUnhide X1).below bc)
        replace X6 := dHide ((dUnhide X6).below bc)
        replace OW := dHide ((dUnhide OW).below bc)
        replace T15 := dHide ((dUnhide T15).below bc)
        replace X20 := dHide ((dUnhide X20).below bc)
        replace T30 := dHide ((dUnhide T30).below bc)
        replace X35 := dHide ((dUnhide X35).below bc)
        replace T41 := dHide ((dUnhide T41).below bc)
        replace OG := dHide ((dUnhide OG).below bc)
        replace X53 := dHide ((dUnhide X53).below bc)
        replace B := belowThen B bc
        generalize wc = w93 at *
        clear bc
        go_wp2_with fail
        refine (toIntS_ _ m2 _ hs2 (dUnhide A2 _ B)).mono ?_
        rintro e w96 ⟨u95, rfl, T94, b97⟩
        have sz98 := dHide b97.size
        replace X0 := dHide ((dUnhide X0).below b97)
        replace X1 := dHide ((dUnhide X1).below b97)
        replace X6 := dHide ((dUnhide X6).below b97)
        replace OW := dHide ((dUnhide OW).below b97)
        replace T15 := dHide ((dUnhide T15).below b97)
        replace X20 := dHide ((dUnhide X20).below b97)
        replace T30 := dHide ((dUnhide T30).below b97)
        replace X35 := dHide ((dUnhide X35).below b97)
        replace T41 := dHide ((dUnhide T41).below b97)
        replace OG := dHide ((dUnhide OG).below b97)
        replace X53 := dHide ((dUnhide X53).below b97)
        replace B := belowThen B b97
        replace T94 := dHide T94
        clear b97
        obtain ⟨u95a, u95c, rfl, u95l⟩ := formIntS (dUnhide T94).now.rd
        go_wp2_with fail
        refine (eqIntS_ _ _ _ _ (dUnhide T41).now.rd (dUnhide T94).now.rd).mono ?_
        rintro e w99 ⟨rfl, b100⟩
        clear T94
        have sz101 := dHide b100.size
        replace X0 := dHide ((dUnhide X0).below b100)
        replace X1 := dHide ((dUnhide X1).below b100)
        replace X6 := dHide ((dUnhide X6).below b100)
        replace OW := dHide ((dUnhide OW).below b100)
        replace T15 := dHide ((dUnhide T15).below b100)
        replace X20 := dHide ((dUnhide X20).below b100)
        replace T30 := dHide ((dUnhide T30).below b100)
        replace X35 := dHide ((dUnhide X35).below b100)
        replace T41 := dHide ((dUnhide T41).below b100)
        replace OG := dHide ((dUnhide OG).below b100)
        replace X53 := dHide ((dUnhide X53).below b100)
        replace B := belowThen B b100
        clear b100
        have k102 := (dUnhide X20).now 0 _ rfl
        have k103 := (dUnhide X20).now 1 _ rfl
        go_wp2_with fail
        refine (markConfig_ _ _ _ _ 1 _ (by omega) (by omega) (dUnhide T15)).mono ?_
        rintro e w104 ⟨rfl, M106, b105⟩
        clear k102 k103
        replace X0 := dHide ((dUnhide X0).wr b105 (by have := dUnhide sz0; have := dUnhide sz1; have := dUnhide sz4; have := dUnhide sz7; have := dUnhide sz8; have := dUnhide sz9; have := dUnhide sz10; have := dUnhide sz11; have := dUnhide sz12; have := dUnhide sz19; have := dUnhide sz22; have := dUnhide sz23; have := dUnhide sz27; have := dUnhide sz34; have := dUnhide sz37; have := dUnhide sz38; have := dUnhide sz40; have := dUnhide sz45; have := dUnhide sz52; have := dUnhide sz55; have := dUnhide sz56; have := dUnhide sz62; have := dUnhide sz65; have := dUnhide sz78; have := dUnhide sz92; have := dUnhide sz98; have := dUnhide sz101; omega))
        replace X1 := dHide ((dUnhide X1).wr b105 (by have := dUnhide sz0; have := dUnhide sz1; have := dUnhide sz4; have := dUnhide sz7; have := dUnhide sz8; have := dUnhide sz9; have := dUnhide sz10; have := dUnhide sz11; have := dUnhide sz12; have := dUnhide sz19; have := dUnhide sz22; have := dUnhide sz23; have := dUnhide sz27; have := dUnhide sz34; have := dUnhide sz37; have := dUnhide sz38; have := dUnhide sz40; have := dUnhide sz45; have := dUnhide sz52; have := dUnhide sz55; have := dUnhide sz56; have := dUnhide sz62; have := dUnhide sz65; have := dUnhide sz78; have := dUnhide sz92; have := dUnhide sz98; have := dUnhide sz101; omega))
        replace X6 := dHide ((dUnhide X6).wr b105 (by have := dUnhide sz0; have := dUnhide sz1; have := dUnhide sz4; have := dUnhide sz7; have := dUnhide sz8; have := dUnhide sz9; have := dUnhide sz10; have := dUnhide sz11; have := dUnhide sz12; have := dUnhide sz19; have := dUnhide sz22; have := dUnhide sz23; have := dUnhide sz27; have := dUnhide sz34; have := dUnhide sz37; have := dUnhide sz38; have := dUnhide sz40; have := dUnhide sz45; have := dUnhide sz52; have := dUnhide sz55; have := dUnhide sz56; have := dUnhide sz62; have := dUnhide sz65; have := dUnhide sz78; have := dUnhide sz92; have := dUnhide sz98; have := dUnhide sz101; omega))
        replace OW := dHide ((dUnhide OW).wr b105 (by have := dUnhide sz0; have := dUnhide sz1; have := dUnhide sz4; have := dUnhide sz7; have := dUnhide sz8; have := dUnhide sz9; have := dUnhide sz10; have := dUnhide sz11; have := dUnhide sz12; have := dUnhide sz19; have := dUnhide sz22; have := dUnhide sz23; have := dUnhide sz27; have := dUnhide sz34; have := dUnhide sz37; have := dUnhide sz38; have := dUnhide sz40; have := dUnhide sz45; have := dUnhide sz52; have := dUnhide sz55; have := dUnhide sz56; have := dUnhide sz62; have := dUnhide sz65; have := dUnhide sz78; have := dUnhide sz92; have := dUnhide sz98; have := dUnhide sz101; omega))
        replace X20 := dHide ((dUnhide X20).wr b105 (by have := dUnhide sz0; have := dUnhide sz1; have := dUnhide sz4; have := dUnhide sz7; have := dUnhide sz8; have := dUnhide sz9; have := dUnhide sz10; have := dUnhide sz11; have := dUnhide sz12; have := dUnhide sz19; have := dUnhide sz22; have := dUnhide sz23; have := dUnhide sz27; have := dUnhide sz34; have := dUnhide sz37; have := dUnhide sz38; have := dUnhide sz40; have := dUnhide sz45; have := dUnhide sz52; have := dUnhide sz55; have := dUnhide sz56; have := dUnhide sz62; have := dUnhide sz65; have := dUnhide sz78; have := dUnhide sz92; have := dUnhide sz98; have := dUnhide sz101; omega))
        replace T30 := dHide ((dUnhide T30).wr b105 (by have := dUnhide sz0; have := dUnhide sz1; have := dUnhide sz4; have := dUnhide sz7; have := dUnhide sz8; have := dUnhide sz9; have := dUnhide sz10; have := dUnhide sz11; have := dUnhide sz12; have := dUnhide sz19; have := dUnhide sz22; have := dUnhide sz23; have := dUnhide sz27; have := dUnhide sz34; have := dUnhide sz37; have := dUnhide sz38; have := dUnhide sz40; have := dUnhide sz45; have := dUnhide sz52; have := dUnhide sz55; have := dUnhide sz56; have := dUnhide sz62; have := dUnhide sz65; have := dUnhide sz78; have := dUnhide sz92; have := dUnhide sz98; have := dUnhide sz101; omega))
        replace X35 := dHide ((dUnhide X35).wr b105 (by have := dUnhide sz0; have := dUnhide sz1; have := dUnhide sz4; have := dUnhide sz7; have := dUnhide sz8; have := dUnhide sz9; have := dUnhide sz10; have := dUnhide sz11; have := dUnhide sz12; have := dUnhide sz19; have := dUnhide sz22; have := dUnhide sz23; have := dUnhide sz27; have := dUnhide sz34; have := dUnhide sz37; have := dUnhide sz38; have := dUnhide sz40; have := dUnhide sz45; have := dUnhide sz52; have := dUnhide sz55; have := dUnhide sz56; have := dUnhide sz62; have := dUnhide sz65; have := dUnhide sz78; have := dUnhide sz92; have := dUnhide sz98; have := dUnhide sz101; omega))
        replace T41 := dHide ((dUnhide T41).wr b105 (by have := dUnhide sz0; have := dUnhide sz1; have := dUnhide sz4; have := dUnhide sz7; have := dUnhide sz8; have := dUnhide sz9; have := dUnhide sz10; have := dUnhide sz11; have := dUnhide sz12; have := dUnhide sz19; have := dUnhide sz22; have := dUnhide sz23; have := dUnhide sz27; have := dUnhide sz34; have := dUnhide sz37; have := dUnhide sz38; have := dUnhide sz40; have := dUnhide sz45; have := dUnhide sz52; have := dUnhide sz55; have := dUnhide sz56; have := dUnhide sz62; have := dUnhide sz65; have := dUnhide sz78; have := dUnhide sz92; have := dUnhide sz98; have := dUnhide sz101; omega))
        replace OG := dHide ((dUnhide OG).wr b105 (by have := dUnhide sz0; have := dUnhide sz1; have := dUnhide sz4; have := dUnhide sz7; have := dUnhide sz8; have := dUnhide sz9; have := dUnhide sz10; have := dUnhide sz11; have := dUnhide sz12; have := dUnhide sz19; have := dUnhide sz22; have := dUnhide sz23; have := dUnhide sz27; have := dUnhide sz34; have := dUnhide sz37; have := dUnhide sz38; have := dUnhide sz40; have := dUnhide sz45; have := dUnhide sz52; have := dUnhide sz55; have := dUnhide sz56; have := dUnhide sz62; have := dUnhide sz65; have := dUnhide sz78; have := dUnhide sz92; have := dUnhide sz98; have := dUnhide sz101; omega))
        replace X53 := dHide ((dUnhide X53).wr b105 (by have := dUnhide sz0; have := dUnhide sz1; have := dUnhide sz4; have := dUnhide sz7; have := dUnhide sz8; have := dUnhide sz9; have := dUnhide sz10; have := dUnhide sz11; have := dUnhide sz12; have := dUnhide sz19; have := dUnhide sz22; have := dUnhide sz23; have := dUnhide sz27; have := dUnhide sz34; have := dUnhide sz37; have := dUnhide sz38; have := dUnhide sz40; have := dUnhide sz45; have := dUnhide sz52; have := dUnhide sz55; have := dUnhide sz56; have := dUnhide sz62; have := dUnhide sz65; have := dUnhide sz78; have := dUnhide sz92; have := dUnhide sz98; have := dUnhide sz101; omega))
        replace B := b105.below B B.size (by have := dUnhide sz0; have := dUnhide sz1; have := dUnhide sz4; have := dUnhide sz7; have := dUnhide sz8; have := dUnhide sz9; have := dUnhide sz10; have := dUnhide sz11; have := dUnhide sz12; have := dUnhide sz19; have := dUnhide sz22; have := dUnhide sz23; have := dUnhide sz27; have := dUnhide sz34; have := dUnhide sz37; have := dUnhide sz38; have := dUnhide sz40; have := dUnhide sz45; have := dUnhide sz52; have := dUnhide sz55; have := dUnhide sz56; have := dUnhide sz62; have := dUnhide sz65; have := dUnhide sz78; have := dUnhide sz92; have := dUnhide sz98; have := dUnhide sz101; omega)
        have sz107 := dHide b105.size
        replace M106 := dHide M106
        clear b105 T15
        have k108 := (dUnhide X35).now 0 _ rfl
        have k109 := (dUnhide X35).now 1 _ rfl
        go_wp2_with fail
        refine (markRegister_ _ _ _ _ (1 + cntConfig m0) _ (by omega) (by omega) (dUnhide T30)).mono ?_
        rintro e w110 ⟨rfl, M112, b111⟩
        clear k108 k109
        replace X0 := dHide ((dUnhide X0).wr b111 (by have := dUnhide sz0; have := dUnhide sz1; have := dUnhide sz4; have := dUnhide sz7; have := dUnhide sz8; have := dUnhide sz9; have := dUnhide sz10; have := dUnhide sz11; have := dUnhide sz12; have := dUnhide sz19; have := dUnhide sz22; have := dUnhide sz23; have := dUnhide sz27; have := dUnhide sz34; have := dUnhide sz37; have := dUnhide sz38; have := dUnhide sz40; have := dUnhide sz45; have := dUnhide sz52; have := dUnhide sz55; have := dUnhide sz56; have := dUnhide sz62; have := dUnhide sz65; have := dUnhide sz78; have := dUnhide sz92; have := dUnhide sz98; have := dUnhide sz101; have := dUnhide sz107; omega))
        replace X1 := dHide ((dUnhide X1).wr b111 (by have := dUnhide sz0; have := dUnhide sz1; have := dUnhide sz4; have := dUnhide sz7; have := dUnhide sz8; have := dUnhide sz9; have := dUnhide sz10; have := dUnhide sz11; have := dUnhide sz12; have := dUnhide sz19; have := dUnhide sz22; have := dUnhide sz23; have := dUnhide sz27; have := dUnhide sz34; have := dUnhide sz37; have := dUnhide sz38; have := dUnhide sz40; have := dUnhide sz45; have := dUnhide sz52; have := dUnhide sz55; have := dUnhide sz56; have := dUnhide sz62; have := dUnhide sz65; have := dUnhide sz78; have := dUnhide sz92; have := dUnhide sz98; have := dUnhide sz101; have := dUnhide sz107; omega))
        replace X6 := dHide ((dUnhide X6).wr b111 (by have := dUnhide sz0; have := dUnhide sz1; have := dUnhide sz4; have := dUnhide sz7; have := dUnhide sz8; have := dUnhide sz9; have := dUnhide sz10; have := dUnhide sz11; have := dUnhide sz12; have := dUnhide sz19; have := dUnhide sz22; have := dUnhide sz23; have := dUnhide sz27; have := dUnhide sz34; have := dUnhide sz37; have := dUnhide sz38; have := dUnhide sz40; have := dUnhide sz45; have := dUnhide sz52; have := dUnhide sz55; have := dUnhide sz56; have := dUnhide sz62; have := dUnhide sz65; have := dUnhide sz78; have := dUnhide sz92; have := dUnhide sz98; have := dUnhide sz101; have := dUnhide sz107; omega))
        replace OW := dHide ((dUnhide OW).wr b111 (by have := dUnhide sz0; have := dUnhide sz1; have := dUnhide sz4; have := dUnhide sz7; have := dUnhide sz8; have := dUnhide sz9; have := dUnhide sz10; have := dUnhide sz11; have := dUnhide sz12; have := dUnhide sz19; have := dUnhide sz22; have := dUnhide sz23; have := dUnhide sz27; have := dUnhide sz34; have := dUnhide sz37; have := dUnhide sz38; have := dUnhide sz40; have := dUnhide sz45; have := dUnhide sz52; have := dUnhide sz55; have := dUnhide sz56; have := dUnhide sz62; have := dUnhide sz65; have := dUnhide sz78; have := dUnhide sz92; have := dUnhide sz98; have := dUnhide sz101; have := dUnhide sz107; omega))
        replace X20 := dHide ((dUnhide X20).wr b111 (by have := dUnhide sz0; have := dUnhide sz1; have := dUnhide sz4; have := dUnhide sz7; have := dUnhide sz8; have := dUnhide sz9; have := dUnhide sz10; have := dUnhide sz11; have := dUnhide sz12; have := dUnhide sz19; have := dUnhide sz22; have := dUnhide sz23; have := dUnhide sz27; have := dUnhide sz34; have := dUnhide sz37; have := dUnhide sz38; have := dUnhide sz40; have := dUnhide sz45; have := dUnhide sz52; have := dUnhide sz55; have := dUnhide sz56; have := dUnhide sz62; have := dUnhide sz65; have := dUnhide sz78; have := dUnhide sz92; have := dUnhide sz98; have := dUnhide sz101; have := dUnhide sz107; omega))
        replace X35 := dHide ((dUnhide X35).wr b111 (by have := dUnhide sz0; have := dUnhide sz1; have := dUnhide sz4; have := dUnhide sz7; have := dUnhide sz8; have := dUnhide sz9; have := dUnhide sz10; have := dUnhide sz11; have := dUnhide sz12; have := dUnhide sz19; have := dUnhide sz22; have := dUnhide sz23; have := dUnhide sz27; have := dUnhide sz34; have := dUnhide sz37; have := dUnhide sz38; have := dUnhide sz40; have := dUnhide sz45; have := dUnhide sz52; have := dUnhide sz55; have := dUnhide sz56; have := dUnhide sz62; have := dUnhide sz65; have := dUnhide sz78; have := dUnhide sz92; have := dUnhide sz98; have := dUnhide sz101; have := dUnhide sz107; omega))
        replace T41 := dHide ((dUnhide T41).wr b111 (by have := dUnhide sz0; have := dUnhide sz1; have := dUnhide sz4; have := dUnhide sz7; have := dUnhide sz8; have := dUnhide sz9; have := dUnhide sz10; have := dUnhide sz11; have := dUnhide sz12; have := dUnhide sz19; have := dUnhide sz22; have := dUnhide sz23; have := dUnhide sz27; have := dUnhide sz34; have := dUnhide sz37; have := dUnhide sz38; have := dUnhide sz40; have := dUnhide sz45; have := dUnhide sz52; have := dUnhide sz55; have := dUnhide sz56; have := dUnhide sz62; have := dUnhide sz65; have := dUnhide sz78; have := dUnhide sz92; have := dUnhide sz98; have := dUnhide sz101; have := dUnhide sz107; omega))
        replace OG := dHide ((dUnhide OG).wr b111 (by have := dUnhide sz0; have := dUnhide sz1; have := dUnhide sz4; have := dUnhide sz7; have := dUnhide sz8; have := dUnhide sz9; have := dUnhide sz10; have := dUnhide sz11; have := dUnhide sz12; have := dUnhide sz19; have := dUnhide sz22; have := dUnhide sz23; have := dUnhide sz27; have := dUnhide sz34; have := dUnhide sz37; have := dUnhide sz38; have := dUnhide sz40; have := dUnhide sz45; have := dUnhide sz52; have := dUnhide sz55; have := dUnhide sz56; have := dUnhide sz62; have := dUnhide sz65; have := dUnhide sz78; have := dUnhide sz92; have := dUnhide sz98; have := dUnhide sz101; have := dUnhide sz107; omega))
        replace X53 := dHide ((dUnhide X53).wr b111 (by have := dUnhide sz0; have := dUnhide sz1; have := dUnhide sz4; have := dUnhide sz7; have := dUnhide sz8; have := dUnhide sz9; have := dUnhide sz10; have := dUnhide sz11; have := dUnhide sz12; have := dUnhide sz19; have := dUnhide sz22; have := dUnhide sz23; have := dUnhide sz27; have := dUnhide sz34; have := dUnhide sz37; have := dUnhide sz38; have := dUnhide sz40; have := dUnhide sz45; have := dUnhide sz52; have := dUnhide sz55; have := dUnhide sz56; have := dUnhide sz62; have := dUnhide sz65; have := dUnhide sz78; have := dUnhide sz92; have := dUnhide sz98; have := dUnhide sz101; have := dUnhide sz107; omega))
        replace M106 := dHide ((dUnhide M106).wr b111 (by have := dUnhide sz0; have := dUnhide sz1; have := dUnhide sz4; have := dUnhide sz7; have := dUnhide sz8; have := dUnhide sz9; have := dUnhide sz10; have := dUnhide sz11; have := dUnhide sz12; have := dUnhide sz19; have := dUnhide sz22; have := dUnhide sz23; have := dUnhide sz27; have := dUnhide sz34; have := dUnhide sz37; have := dUnhide sz38; have := dUnhide sz40; have := dUnhide sz45; have := dUnhide sz52; have := dUnhide sz55; have := dUnhide sz56; have := dUnhide sz62; have := dUnhide sz65; have := dUnhide sz78; have := dUnhide sz92; have := dUnhide sz98; have := dUnhide sz101; have := dUnhide sz107; omega))
        replace B := b111.below B B.size (by have := dUnhide sz0; have := dUnhide sz1; have := dUnhide sz4; have := dUnhide sz7; have := dUnhide sz8; have := dUnhide sz9; have := dUnhide sz10; have := dUnhide sz11; have := dUnhide sz12; have := dUnhide sz19; have := dUnhide sz22; have := dUnhide sz23; have := dUnhide sz27; have := dUnhide sz34; have := dUnhide sz37; have := dUnhide sz38; have := dUnhide sz40; have := dUnhide sz45; have := dUnhide sz52; have := dUnhide sz55; have := dUnhide sz56; have := dUnhide sz62; have := dUnhide sz65; have := dUnhide sz78; have := dUnhide sz92; have := dUnhide sz98; have := dUnhide sz101; have := dUnhide sz107; omega)
        have sz113 := dHide b111.size
        replace M112 := dHide M112
        clear b111 T30
        go_wp2_with fail
        refine (markIntS_ _ _ _ _ (1 + cntConfig m0 + cntRegister m1) _ (by omega) (by omega) (dUnhide T41)).mono ?_
        rintro e w114 ⟨rfl, M116, b115⟩
        replace X0 := dHide ((dUnhide X0).wr b115 (by have := dUnhide sz0; have := dUnhide sz1; have := dUnhide sz4; have := dUnhide sz7; have := dUnhide sz8; have := dUnhide sz9; have := dUnhide sz10; have := dUnhide sz11; have := dUnhide sz12; have := dUnhide sz19; have := dUnhide sz22; have := dUnhide sz23; have := dUnhide sz27; have := dUnhide sz34; have := dUnhide sz37; have := dUnhide sz38; have := dUnhide sz40; have := dUnhide sz45; have := dUnhide sz52; have := dUnhide sz55; have := dUnhide sz56; have := dUnhide sz62; have := dUnhide sz65; have := dUnhide sz78; have := dUnhide sz92; have := dUnhide sz98; have := dUnhide sz101; have := dUnhide sz107; have := dUnhide sz113; omega))
        replace X1 := dHide ((dUnhide X1).wr b115 (by have := dUnhide sz0; have := dUnhide sz1; have := dUnhide sz4; have := dUnhide sz7; have := dUnhide sz8; have := dUnhide sz9; have := dUnhide sz10; have := dUnhide sz11; have := dUnhide sz12; have := dUnhide sz19; have := dUnhide sz22; have := dUnhide sz23; have := dUnhide sz27; have := dUnhide sz34; have := dUnhide sz37; have := dUnhide sz38; have := dUnhide sz40; have := dUnhide sz45; have := dUnhide sz52; have := dUnhide sz55; have := dUnhide sz56; have := dUnhide sz62; have := dUnhide sz65; have := dUnhide sz78; have := dUnhide sz92; have := dUnhide sz98; have := dUnhide sz101; have := dUnhide sz107; have := dUnhide sz113; omega))
        replace X6 := dHide ((dUnhide X6).wr b115 (by have := dUnhide sz0; have := dUnhide sz1; have := dUnhide sz4; have := dUnhide sz7; have := dUnhide sz8; have := dUnhide sz9; have := dUnhide sz10; have := dUnhide sz11; have := dUnhide sz12; have := dUnhide sz19; have := dUnhide sz22; have := dUnhide sz23; have := dUnhide sz27; have := dUnhide sz34; have := dUnhide sz37; have := dUnhide sz38; have := dUnhide sz40; have := dUnhide sz45; have := dUnhide sz52; have := dUnhide sz55; have := dUnhide sz56; have := dUnhide sz62; have := dUnhide sz65; have := dUnhide sz78; have := dUnhide sz92; have := dUnhide sz98; have := dUnhide sz101; have := dUnhide sz107; have := dUnhide sz113; omega))
        replace OW := dHide ((dUnhide OW).wr b115 (by have := dUnhide sz0; have := dUnhide sz1; have := dUnhide sz4; have := dUnhide sz7; have := dUnhide sz8; have := dUnhide sz9; have := dUnhide sz10; have := dUnhide sz11; have := dUnhide sz12; have := dUnhide sz19; have := dUnhide sz22; have := dUnhide sz23; have := dUnhide sz27; have := dUnhide sz34; have := dUnhide sz37; have := dUnhide sz38; have := dUnhide sz40; have := dUnhide sz45; have := dUnhide sz52; have := dUnhide sz55; have := dUnhide sz56; have := dUnhide sz62; have := dUnhide sz65; have := dUnhide sz78; have := dUnhide sz92; have := dUnhide sz98; have := dUnhide sz101; have := dUnhide sz107; have := dUnhide sz113; omega))
        replace X20 := dHide ((dUnhide X20).wr b115 (by have := dUnhide sz0; have := dUnhide sz1; have := dUnhide sz4; have := dUnhide sz7; have := dUnhide sz8; have := dUnhide sz9; have := dUnhide sz10; have := dUnhide sz11; have := dUnhide sz12; have := dUnhide sz19; have := dUnhide sz22; have := dUnhide sz23; have := dUnhide sz27; have := dUnhide sz34; have := dUnhide sz37; have := dUnhide sz38; have := dUnhide sz40; have := dUnhide sz45; have := dUnhide sz52; have := dUnhide sz55; have := dUnhide sz56; have := dUnhide sz62; have := dUnhide sz65; have := dUnhide sz78; have := dUnhide sz92; have := dUnhide sz98; have := dUnhide sz101; have := dUnhide sz107; have := dUnhide sz113; omega))
        replace X35 := dHide ((dUnhide X35).wr b115 (by have := dUnhide sz0; have := dUnhide sz1; have := dUnhide sz4; have := dUnhide sz7; have := dUnhide sz8; have := dUnhide sz9; have := dUnhide sz10; have := dUnhide sz11; have := dUnhide sz12; have := dUnhide sz19; have := dUnhide sz22; have := dUnhide sz23; have := dUnhide sz27; have := dUnhide sz34; have := dUnhide sz37; have := dUnhide sz38; have := dUnhide sz40; have := dUnhide sz45; have := dUnhide sz52; have := dUnhide sz55; have := dUnhide sz56; have := dUnhide sz62; have := dUnhide sz65; have := dUnhide sz78; have := dUnhide sz92; have := dUnhide sz98; have := dUnhide sz101; have := dUnhide sz107; have := dUnhide sz113; omega))
        replace OG := dHide ((dUnhide OG).wr b115 (by have := dUnhide sz0; have := dUnhide sz1; have := dUnhide sz4; have := dUnhide sz7; have := dUnhide sz8; have := dUnhide sz9; have := dUnhide sz10; have := dUnhide sz11; have := dUnhide sz12; have := dUnhide sz19; have := dUnhide sz22; have := dUnhide sz23; have := dUnhide sz27; have := dUnhide sz34; have := dUnhide sz37; have := dUnhide sz38; have := dUnhide sz40; have := dUnhide sz45; have := dUnhide sz52; have := dUnhide sz55; have := dUnhide sz56; have := dUnhide sz62; have := dUnhide sz65; have := dUnhide sz78; have := dUnhide sz92; have := dUnhide sz98; have := dUnhide sz101; have := dUnhide sz107; have := dUnhide sz113; omega))
        replace X53 := dHide ((dUnhide X53).wr b115 (by have := dUnhide sz0; have := dUnhide sz1; have := dUnhide sz4; have := dUnhide sz7; have := dUnhide sz8; have := dUnhide sz9; have := dUnhide sz10; have := dUnhide sz11; have := dUnhide sz12; have := dUnhide sz19; have := dUnhide sz22; have := dUnhide sz23; have := dUnhide sz27; have := dUnhide sz34; have := dUnhide sz37; have := dUnhide sz38; have := dUnhide sz40; have := dUnhide sz45; have := dUnhide sz52; have := dUnhide sz55; have := dUnhide sz56; have := dUnhide sz62; have := dUnhide sz65; have := dUnhide sz78; have := dUnhide sz92; have := dUnhide sz98; have := dUnhide sz101; have := dUnhide sz107; have := dUnhide sz113; omega))
        replace M106 := dHide ((dUnhide M106).wr b115 (by have := dUnhide sz0; have := dUnhide sz1; have := dUnhide sz4; have := dUnhide sz7; have := dUnhide sz8; have := dUnhide sz9; have := dUnhide sz10; have := dUnhide sz11; have := dUnhide sz12; have := dUnhide sz19; have := dUnhide sz22; have := dUnhide sz23; have := dUnhide sz27; have := dUnhide sz34; have := dUnhide sz37; have := dUnhide sz38; have := dUnhide sz40; have := dUnhide sz45; have := dUnhide sz52; have := dUnhide sz55; have := dUnhide sz56; have := dUnhide sz62; have := dUnhide sz65; have := dUnhide sz78; have := dUnhide sz92; have := dUnhide sz98; have := dUnhide sz101; have := dUnhide sz107; have := dUnhide sz113; omega))
        replace M112 := dHide ((dUnhide M112).wr b115 (by have := dUnhide sz0; have := dUnhide sz1; have := dUnhide sz4; have := dUnhide sz7; have := dUnhide sz8; have := dUnhide sz9; have := dUnhide sz10; have := dUnhide sz11; have := dUnhide sz12; have := dUnhide sz19; have := dUnhide sz22; have := dUnhide sz23; have := dUnhide sz27; have := dUnhide sz34; have := dUnhide sz37; have := dUnhide sz38; have := dUnhide sz40; have := dUnhide sz45; have := dUnhide sz52; have := dUnhide sz55; have := dUnhide sz56; have := dUnhide sz62; have := dUnhide sz65; have := dUnhide sz78; have := dUnhide sz92; have := dUnhide sz98; have := dUnhide sz101; have := dUnhide sz107; have := dUnhide sz113; omega))
        replace B := b115.below B B.size (by have := dUnhide sz0; have := dUnhide sz1; have := dUnhide sz4; have := dUnhide sz7; have := dUnhide sz8; have := dUnhide sz9; have := dUnhide sz10; have := dUnhide sz11; have := dUnhide sz12; have := dUnhide sz19; have := dUnhide sz22; have := dUnhide sz23; have := dUnhide sz27; have := dUnhide sz34; have := dUnhide sz37; have := dUnhide sz38; have := dUnhide sz40; have := dUnhide sz45; have := dUnhide sz52; have := dUnhide sz55; have := dUnhide sz56; have := dUnhide sz62; have := dUnhide sz65; have := dUnhide sz78; have := dUnhide sz92; have := dUnhide sz98; have := dUnhide sz101; have := dUnhide sz107; have := dUnhide sz113; omega)
        have sz117 := dHide b115.size
        replace M116 := dHide M116
        clear b115 T41
        clear M106 M112 M116 X20 X35
        have hk : ¬ (((1 + cntConfig m0 + cntRegister m1 + cntIntS m2 : Nat) : Int) < 0) := by omega
        have k118 := (dUnhide X53).now 0 _ rfl
        have k119 := (dUnhide X53).now 1 _ rfl
        have k120 := (dUnhide X6).now 0 _ rfl
        have k121 := (dUnhide X6).now 1 _ rfl
        go_wp2_with fail
        refine (eqRegister_ _ _ _ _ (dUnhide OG).now.rd (dUnhide OW).now.rd).mono ?_
        rintro e w122 ⟨rfl, b123⟩
        clear k118 k119 k120 k121
        have sz124 := dHide b123.size
        replace X0 := dHide ((dUnhide X0).below b123)
        replace X1 := dHide ((dUnhide X1).below b123)
        replace X6 := dHide ((dUnhide X6).below b123)
        replace OW := dHide ((dUnhide OW).below b123)
        replace OG := dHide ((dUnhide OG).below b123)
        replace X53 := dHide ((dUnhide X53).below b123)
        replace B := belowThen B b123
        clear b123
        have k125 := (dUnhide X53).now 0 _ rfl
        have k126 := (dUnhide X53).now 1 _ rfl
        go_wp2_with fail
        refine (markRegister_ _ _ _ _ 1 _ (by omega) (by omega) (dUnhide OG)).mono ?_
        rintro e w127 ⟨rfl, M129, b128⟩
        clear k125 k126
        replace X0 := dHide ((dUnhide X0).wr b128 (by have := dUnhide sz0; have := dUnhide sz1; have := dUnhide sz4; have := dUnhide sz7; have := dUnhide sz8; have := dUnhide sz9; have := dUnhide sz10; have := dUnhide sz11; have := dUnhide sz12; have := dUnhide sz19; have := dUnhide sz22; have := dUnhide sz23; have := dUnhide sz27; have := dUnhide sz34; have := dUnhide sz37; have := dUnhide sz38; have := dUnhide sz40; have := dUnhide sz45; have := dUnhide sz52; have := dUnhide sz55; have := dUnhide sz56; have := dUnhide sz62; have := dUnhide sz65; have := dUnhide sz78; have := dUnhide sz92; have := dUnhide sz98; have := dUnhide sz101; have := dUnhide sz107; have := dUnhide sz113; have := dUnhide sz117; have := dUnhide sz124; omega))
        replace X1 := dHide ((dUnhide X1).wr b128 (by have := dUnhide sz0; have := dUnhide sz1; have := dUnhide sz4; have := dUnhide sz7; have := dUnhide sz8; have := dUnhide sz9; have := dUnhide sz10; have := dUnhide sz11; have := dUnhide sz12; have := dUnhide sz19; have := dUnhide sz22; have := dUnhide sz23; have := dUnhide sz27; have := dUnhide sz34; have := dUnhide sz37; have := dUnhide sz38; have := dUnhide sz40; have := dUnhide sz45; have := dUnhide sz52; have := dUnhide sz55; have := dUnhide sz56; have := dUnhide sz62; have := dUnhide sz65; have := dUnhide sz78; have := dUnhide sz92; have := dUnhide sz98; have := dUnhide sz101; have := dUnhide sz107; have := dUnhide sz113; have := dUnhide sz117; have := dUnhide sz124; omega))
        replace X6 := dHide ((dUnhide X6).wr b128 (by have := dUnhide sz0; have := dUnhide sz1; have := dUnhide sz4; have := dUnhide sz7; have := dUnhide sz8; have := dUnhide sz9; have := dUnhide sz10; have := dUnhide sz11; have := dUnhide sz12; have := dUnhide sz19; have := dUnhide sz22; have := dUnhide sz23; have := dUnhide sz27; have := dUnhide sz34; have := dUnhide sz37; have := dUnhide sz38; have := dUnhide sz40; have := dUnhide sz45; have := dUnhide sz52; have := dUnhide sz55; have := dUnhide sz56; have := dUnhide sz62; have := dUnhide sz65; have := dUnhide sz78; have := dUnhide sz92; have := dUnhide sz98; have := dUnhide sz101; have := dUnhide sz107; have := dUnhide sz113; have := dUnhide sz117; have := dUnhide sz124; omega))
        replace OW := dHide ((dUnhide OW).wr b128 (by have := dUnhide sz0; have := dUnhide sz1; have := dUnhide sz4; have := dUnhide sz7; have := dUnhide sz8; have := dUnhide sz9; have := dUnhide sz10; have := dUnhide sz11; have := dUnhide sz12; have := dUnhide sz19; have := dUnhide sz22; have := dUnhide sz23; have := dUnhide sz27; have := dUnhide sz34; have := dUnhide sz37; have := dUnhide sz38; have := dUnhide sz40; have := dUnhide sz45; have := dUnhide sz52; have := dUnhide sz55; have := dUnhide sz56; have := dUnhide sz62; have := dUnhide sz65; have := dUnhide sz78; have := dUnhide sz92; have := dUnhide sz98; have := dUnhide sz101; have := dUnhide sz107; have := dUnhide sz113; have := dUnhide sz117; have := dUnhide sz124; omega))
        replace X53 := dHide ((dUnhide X53).wr b128 (by have := dUnhide sz0; have := dUnhide sz1; have := dUnhide sz4; have := dUnhide sz7; have := dUnhide sz8; have := dUnhide sz9; have := dUnhide sz10; have := dUnhide sz11; have := dUnhide sz12; have := dUnhide sz19; have := dUnhide sz22; have := dUnhide sz23; have := dUnhide sz27; have := dUnhide sz34; have := dUnhide sz37; have := dUnhide sz38; have := dUnhide sz40; have := dUnhide sz45; have := dUnhide sz52; have := dUnhide sz55; have := dUnhide sz56; have := dUnhide sz62; have := dUnhide sz65; have := dUnhide sz78; have := dUnhide sz92; have := dUnhide sz98; have := dUnhide sz101; have := dUnhide sz107; have := dUnhide sz113; have := dUnhide sz117; have := dUnhide sz124; omega))
        replace B := b128.below B B.size (by have := dUnhide sz0; have := dUnhide sz1; have := dUnhide sz4; have := dUnhide sz7; have := dUnhide sz8; have := dUnhide sz9; have := dUnhide sz10; have := dUnhide sz11; have := dUnhide sz12; have := dUnhide sz19; have := dUnhide sz22; have := dUnhide sz23; have := dUnhide sz27; have := dUnhide sz34; have := dUnhide sz37; have := dUnhide sz38; have := dUnhide sz40; have := dUnhide sz45; have := dUnhide sz52; have := dUnhide sz55; have := dUnhide sz56; have := dUnhide sz62; have := dUnhide sz65; have := dUnhide sz78; have := dUnhide sz92; have := dUnhide sz98; have := dUnhide sz101; have := dUnhide sz107; have := dUnhide sz113; have := dUnhide sz117; have := dUnhide sz124; omega)
        have sz130 := dHide b128.size
        replace M129 := dHide M129
        clear b128 OG
        have k131 := (dUnhide X53).now 0 _ rfl
        have k132 := (dUnhide X53).now 1 _ rfl
        go_wp2_with fail
        refine (heldRegister_ _ R 1 _ (by omega) (by omega) (dUnhide M129).now.rd).mono ?_
        rintro e w133 ⟨rfl, b134⟩
        clear k131 k132
        have sz135 := dHide b134.size
        replace X0 := dHide ((dUnhide X0).below b134)
        replace X1 := dHide ((dUnhide X1).below b134)
        replace X6 := dHide ((dUnhide X6).below b134)
        replace OW := dHide ((dUnhide OW).below b134)
        replace X53 := dHide ((dUnhide X53).below b134)
        replace M129 := dHide ((dUnhide M129).below b134)
        replace B := belowThen B b134
        clear b134
        have hq : ¬ (((1 + cntRegister R : Nat) : Int) < 0) := by omega
        go_wp2_with fail
        have hC : ∀ W, Below w133.heap.size w133 W → W.cell? ⟨w.heap.size, 0, none⟩ = some (.slice v0a m0.1.length v0c) ∧ W.cell? ⟨w.heap.size, 1, none⟩ = some (.int .i64 m0.2) ∧ W.cell? ⟨w.heap.size + 1, 0, none⟩ = some (.slice v1a m1.eras.length v1c) ∧ W.cell? ⟨w.heap.size + 1, 1, none⟩ = some (.int .i64 m1.trim) := fun W hb =>
          ⟨(dUnhide X0).at hb 0 _ rfl, (dUnhide X0).at hb 1 _ rfl, (dUnhide X1).at hb 0 _ rfl, (dUnhide X1).at hb 1 _ rfl⟩
        have HC := dHide hC
        have hbr := Below.refl w133.heap.size w133
        obtain ⟨kd1370, kd1371, kd1372, kd1373⟩ := hC w133 hbr
        clear hC
        go_cut [20, 21, 22] (fun sv t1 t2 wx => ∃ (bv lo hi : Nat) (a : Option Addr) (c : Nat), sv = .pointer (some ⟨bv, 0, none⟩) ∧ t1 = .int .i64 s1 ∧ t2 = .bool s2 ∧ Sits (Box bv #[.slice a R.eras.length c, .int .i64 R.trim]) bv (bv + 1) wx ∧ Sits (OwRegister lo hi (.agg #[.slice a R.eras.length c, .int .i64 R.trim]) R) lo hi wx ∧ (bv < lo ∨ hi ≤ bv) ∧ w133.heap.size ≤ bv ∧ w133.heap.size ≤ lo ∧ Below w133.heap.size w133 wx)
        case first =>
          go_region_held3 (fun W => W.cell? ⟨w.heap.size, 0, none⟩ = some (.slice v0a m0.1.length v0c) ∧ W.cell? ⟨w.heap.size, 1, none⟩ = some (.int .i64 m0.2) ∧ W.cell? ⟨w.heap.size + 1, 0, none⟩ = some (.slice v1a m1.eras.length v1c) ∧ W.cell? ⟨w.heap.size + 1, 1, none⟩ = some (.int .i64 m1.trim)) (first | exact dUnhide HC _ (below_two hb5 zz.1 _ _) | go_keep)
            (first
              | (go_at_call 28; refine (toConfig_ _ m0 _ hs0 (dUnhide A0 _ (belowThen B (by first | exact hbr.drew | exact hbr.drew.alloc hbr.size _)))).mono ?_; rintro e wq0 ⟨o0, rfl, q0, b0⟩; have hb0 := belowThen (by first | exact hbr.drew | exact hbr.drew.alloc hbr.size _) b0; obtain ⟨kd1370, kd1371, kd1372, kd1373⟩ := dUnhide HC wq0 hb0; (first | have zz := BxZ.madeD2 hbr.size b0 | have zz : BxZ wq0 w133.heap.size w133.heap.size [_, _] := BxZ.made2 hbr.size b0 | skip); have Q0 := dHide q0; obtain ⟨o0a, o0c, rfl, o0l⟩ := formConfig q0.now.rd; clear q0; (try obtain ⟨z0, y0⟩ := zz.2 0 _ rfl); (try obtain ⟨z1, y1⟩ := zz.2 1 _ rfl))
              | (go_at_call 29; refine (toRegister_ _ m1 _ hs1 (dUnhide A1 _ (belowThen B (by first | exact hb0 | exact hb0.alloc hb0.size _)))).mono ?_; rintro e wq1 ⟨o1, rfl, q1, b1⟩; have hb1 := belowThen (by first | exact hb0 | exact hb0.alloc hb0.size _) b1; obtain ⟨kd1370, kd1371, kd1372, kd1373⟩ := dUnhide HC wq1 hb1; have Q0 := dHide ((dUnhide Q0).below (by first | exact b1 | exact belowThen (ha _ _) b1)); (first | have zz := BxZ.made2 hb0.size b1 | have zz := BxZ.below zz b1 | skip); have Q1 := dHide q1; obtain ⟨o1a, o1c, rfl, o1l⟩ := formRegister q1.now.rd; clear q1; (try obtain ⟨z0, y0⟩ := zz.2 0 _ rfl); (try obtain ⟨z1, y1⟩ := zz.2 1 _ rfl))
              | (go_at_call 30; refine (toIntS_ _ m2 _ hs2 (dUnhide A2 _ (belowThen B (by first | exact hb1 | exact hb1.alloc hb1.size _)))).mono ?_; rintro e wq2 ⟨o2, rfl, q2, b2⟩; have hb2 := belowThen (by first | exact hb1 | exact hb1.alloc hb1.size _) b2; obtain ⟨kd1370, kd1371, kd1372, kd1373⟩ := dUnhide HC wq2 hb2; have Q0 := dHide ((dUnhide Q0).below (by first | exact b2 | exact belowThen (ha _ _) b2)); have Q1 := dHide ((dUnhide Q1).below (by first | exact b2 | exact belowThen (ha _ _) b2)); (first | have zz := BxZ.made2 hb1.size b2 | have zz := BxZ.below zz b2 | skip); have Q2 := dHide q2; obtain ⟨o2a, o2c, rfl, o2l⟩ := formIntS q2.now.rd; clear q2; (try obtain ⟨z0, y0⟩ := zz.2 0 _ rfl); (try obtain ⟨z1, y1⟩ := zz.2 1 _ rfl))
              | (go_at_call 11; refine (dUnhide CI _ (belowThen B (by first | exact hb2 | exact hb2.alloc hb2.size _)) _ _ _ (by first | exact (dUnhide Q0).now.rd | exact RdConfig.below (dUnhide Q0).now.rd (ha _ _)) (by first | exact (dUnhide Q1).now.rd | exact RdRegister.below (dUnhide Q1).now.rd (ha _ _)) (by first | exact (dUnhide Q2).now.rd | exact RdIntS.below (dUnhide Q2).now.rd (ha _ _))).mono ?_; rintro e w5 ⟨u5, rfl, q5, b5⟩; have hb5 := belowThen (by first | exact hb2 | exact hb2.alloc hb2.size _) b5; obtain ⟨kd1370, kd1371, kd1372, kd1373⟩ := dUnhide HC w5 hb5; (try have hlo := BxZ.lt zz); (first | have zz := BxZ.made2 hb2.size b5 | have zz := BxZ.below zz b5 | skip); have Q5 := dHide q5; obtain ⟨o5a, o5c, rfl, o5l⟩ := formRegister q5.now.rd; clear q5; (try obtain ⟨z0, y0⟩ := zz.2 0 _ rfl); (try obtain ⟨z1, y1⟩ := zz.2 1 _ rfl)))
          all_goals
            go_wp2_with fail
            go_meet
            case rel => first | exact ⟨_, _, _, _, _, rfl, rfl, rfl, ((zz.put 0 _).put 1 _).bx.sits, ((dUnhide Q5).setFar (.inl (by first | exact hlo | simp)) _).setFar (.inl (by first | exact hlo | simp)) _, (.inl (by first | exact hlo | simp)), zz.1, (by have := hb2.size; first | exact this | (simp; omega)), below_two hb5 zz.1 _ _⟩ | exact ⟨_, _, _, _, _, rfl, rfl, rfl, Sits.box w5 _ _, (dUnhide Q5).below (ha _ _), .inr (Nat.le_refl _), hb5.size, hb2.size, hb5.alloc hb5.size _⟩
        case rest =>
          obtain ⟨bX138, lod137, hid137, uha, uhc, rfl, rfl, rfl, X138, OH, dd137, gd137, id137, bc⟩ := hcut
          clear kd1370 kd1371 kd1372 kd1373 HC hbr
          have sz139 := dHide bc.size
          replace X0 := dHide ((dUnhide X0).below bc)
          replace X1 := dHide ((dUnhide X1).below bc)
          replace X6 := dHide ((dUnhide X6).below bc)
          replace OW := dHide ((dUnhide OW).below bc)
          replace X53 := dHide ((dUnhide X53).below bc)
          replace M129 := dHide ((dUnhide M129).below bc)
          replace B := belowThen B bc
          have sz140 := dHide dd137
          have sz141 := dHide gd137
          have sz142 := dHide id137
          have sz143 := dHide X138.fit
          have sz144 := dHide OH.fit
          replace X138 := dHide X138
          replace OH := dHide OH
          clear bc dd137 gd137 id137
          generalize wc = w136 at *
          have k145 := (dUnhide X138).now 0 _ rfl
          have k146 := (dUnhide X138).now 1 _ rfl
          have k147 := (dUnhide X6).now 0 _ rfl
          have k148 := (dUnhide X6).now 1 _ rfl
          go_wp2_with fail
          refine (eqRegister_ _ _ _ _ (dUnhide OH).now.rd (dUnhide OW).now.rd).mono ?_
          rintro e w149 ⟨rfl, b150⟩
          clear k145 k146 k147 k148
          have sz151 := dHide b150.size
          replace X0 := dHide ((dUnhide X0).below b150)
          replace X1 := dHide ((dUnhide X1).below b150)
          replace X6 := dHide ((dUnhide X6).below b150)
          replace OW := dHide ((dUnhide OW).below b150)
          replace X53 := dHide ((dUnhide X53).below b150)
          replace M129 := dHide ((dUnhide M129).below b150)
          replace X138 := dHide ((dUnhide X138).below b150)
          replace OH := dHide ((dUnhide OH).below b150)
          replace B := belowThen B b150
          clear b150
          have k152 := (dUnhide X53).now 0 _ rfl
          have k153 := (dUnhide X53).now 1 _ rfl
          go_wp2_with fail
          refine (heldRegister_ _ R 1 _ (by omega) (by omega) (dUnhide M129).now.rd).mono ?_
          rintro e w154 ⟨rfl, b155⟩
          clear k152 k153
          have sz156 := dHide b155.size
          replace X0 := dHide ((dUnhide X0).below b155)
          replace X1 := dHide ((dUnhide X1).below b155)
          replace X6 := dHide ((dUnhide X6).below b155)
          replace OW := dHide ((dUnhide OW).below b155)
          replace X53 := dHide ((dUnhide X53).below b155)
          replace M129 := dHide ((dUnhide M129).below b155)
          replace X138 := dHide ((dUnhide X138).below b155)
          replace OH := dHide ((dUnhide OH).below b155)
          replace B := belowThen B b155
          clear b155
          clear X0 X1 X6 OW X53 M129 X138 OH
          go_wp2
          go_ret
          exact ⟨rfl, B⟩
end Go.Proofs.YtognmmmplmideaaDoor
