/- FnExactWriterAck: both answers, and the law's walk (printed by tools/mkl8.py). -/
import Derived.Test.YtfipenjojgflmaaQ8K
import Derived.Deep.RegionHeld3
import Derived.Deep.DeepCutAuto
namespace Go.Proofs.Ytfipenjojgflmaa
open Go.ChangeShapes Go.WideShapes Go.ChangeAt Go.RowKit
set_option linter.unusedVariables false
theorem bothFnExactWriterAck (m0 : List Int × Int) (m1 : Wt) (m2 m3 : Int) (ok0 : okConfig m0) (ok1 : okWriter m1) (ok2 : okInt m2) (ok3 : okInt m3) (hs0 : sizConfig m0 ≤ 1048576) (hs1 : sizWriter m1 ≤ 1048576) : ∃ (R : Wt) (s1 : Bool), cntWriter R ≤ 4194304 ∧ (∀ W v0 v1, RdConfig v0 m0 W → RdWriter v1 m1 W → Calls Try.prog 20 #[v0, v1, .int .i64 m2, .int .i64 m3] W fun e w' => ∃ u, e = .returned (.tuple #[u, .bool s1]) ∧ Sits (OwWriter W.heap.size w'.heap.size u R) W.heap.size w'.heap.size w' ∧ Below W.heap.size W w') ∧ (∀ W v0 v1, RdConfig v0 m0 W → RdWriter v1 m1 W → Calls Try.prog 19 #[v0, v1, .int .i64 m2, .int .i64 m3] W fun e w' => ∃ u, e = .returned (.tuple #[u, .bool s1]) ∧ Sits (OwWriter W.heap.size w'.heap.size u R) W.heap.size w'.heap.size w' ∧ Below W.heap.size W w') := bothWriterAck_ m0 m1 m2 m3 ok0 ok1 ok2 ok3 hs0 hs1
set_option maxHeartbeats 4000000 in
set_option maxRecDepth 100000 in
theorem walkFnExactWriterAck (v0 v1 v2 v3 : Value) (m0 : List Int × Int) (m1 : Wt) (m2 : Int) (m3 : Int) (w : World) (i0 : IsConfig v0 m0 w) (i1 : IsWriter v1 m1 w) (i2 : IsInt v2 m2 w) (i3 : IsInt v3 m3 w) :
    Calls Try.prog 9 #[v0, v1, v2, v3] w fun r w' => r = .returned (.bool true) ∧ Below w.heap.size w w' := by
  obtain ⟨rfl, ok2⟩ := i2
  obtain ⟨rfl, ok3⟩ := i3
  obtain ⟨r0, ok0⟩ := i0
  obtain ⟨r1, ok1⟩ := i1
  have ha : ∀ (w : World) o, Below w.heap.size w (w.alloc o) := fun w o => (Below.refl _ _).alloc (Nat.le_refl _) o
  have A0 := dHide fun W (hb : Below w.heap.size w W) => r0.below hb
  have A1 := dHide fun W (hb : Below w.heap.size w W) => r1.below hb
  obtain ⟨v0a, v0c, rfl, v0l⟩ := formConfig r0
  obtain ⟨v1a, v1c, rfl, v1l⟩ := formWriter r1
  by_cases z0 : (1048576 : Int) < (sizConfig m0 : Int)
  · have CS0 := dHide fun W (hb : Below w.heap.size w W) => szConfig_ _ m0 (1048576 : Int) (by omega) (by omega) W (dUnhide A0 W hb)
    rw [lft_no z0] at CS0
    clear z0
    go_enter Try.func9, Try.ntmps9
    go_wp2_with fail
    have B := belowThen (ha w (.cells #[.slice v0a m0.1.length v0c, .int .i64 m0.2] 49)) (ha _ (.cells #[.int .i64 m1.epoch, .slice v1a m1.words.length v1c] 52))
    have X0 := dHide ((Sits.box w #[.slice v0a m0.1.length v0c, .int .i64 m0.2] 49).below (ha _ (.cells #[.int .i64 m1.epoch, .slice v1a m1.words.length v1c] 52)))
    have X1 := Sits.box (w.alloc (.cells #[.slice v0a m0.1.length v0c, .int .i64 m0.2] 49)) #[.int .i64 m1.epoch, .slice v1a m1.words.length v1c] 52
    have e1 : (w.alloc (.cells #[.slice v0a m0.1.length v0c, .int .i64 m0.2] 49)).heap.size = w.heap.size + 1 := by simp
    rw [e1] at X1
    replace X1 := dHide X1
    have sz0 : Hid (w.heap.size + 1 + 1 = ((w.alloc (.cells #[.slice v0a m0.1.length v0c, .int .i64 m0.2] 49)).alloc (.cells #[.int .i64 m1.epoch, .slice v1a m1.words.length v1c] 52)).heap.size) := by simp [Hid]
    clear e1
    generalize (w.alloc (.cells #[.slice v0a m0.1.length v0c, .int .i64 m0.2] 49)).alloc (.cells #[.int .i64 m1.epoch, .slice v1a m1.words.length v1c] 52) = wb at *
    refine (dUnhide CS0 _ B).mono ?_
    rintro e ws0 ⟨rfl, bs⟩
    have sz1 := dHide bs.size
    replace X0 := dHide ((dUnhide X0).below bs)
    replace X1 := dHide ((dUnhide X1).below bs)
    replace B := belowThen B bs
    clear bs CS0
    clear X0 X1
    go_wp2
    go_ret
    exact ⟨rfl, B⟩
  by_cases z1 : ((1048576 : Int) - (sizConfig m0 : Int)) < (sizWriter m1 : Int)
  · have CS0 := dHide fun W (hb : Below w.heap.size w W) => szConfig_ _ m0 (1048576 : Int) (by omega) (by omega) W (dUnhide A0 W hb)
    rw [lft_yes z0] at CS0
    have z0' : ¬ ((1048576 : Int) - (sizConfig m0 : Int) < 0) := by omega
    have CS1 := dHide fun W (hb : Below w.heap.size w W) => szWriter_ _ m1 ((1048576 : Int) - (sizConfig m0 : Int)) (by omega) (by omega) (txtW_of ok1) W (dUnhide A1 W hb)
    rw [lft_no z1] at CS1
    clear z0 z1
    go_enter Try.func9, Try.ntmps9
    go_wp2_with fail
    have B := belowThen (ha w (.cells #[.slice v0a m0.1.length v0c, .int .i64 m0.2] 49)) (ha _ (.cells #[.int .i64 m1.epoch, .slice v1a m1.words.length v1c] 52))
    have X0 := dHide ((Sits.box w #[.slice v0a m0.1.length v0c, .int .i64 m0.2] 49).below (ha _ (.cells #[.int .i64 m1.epoch, .slice v1a m1.words.length v1c] 52)))
    have X1 := Sits.box (w.alloc (.cells #[.slice v0a m0.1.length v0c, .int .i64 m0.2] 49)) #[.int .i64 m1.epoch, .slice v1a m1.words.length v1c] 52
    have e1 : (w.alloc (.cells #[.slice v0a m0.1.length v0c, .int .i64 m0.2] 49)).heap.size = w.heap.size + 1 := by simp
    rw [e1] at X1
    replace X1 := dHide X1
    have sz0 : Hid (w.heap.size + 1 + 1 = ((w.alloc (.cells #[.slice v0a m0.1.length v0c, .int .i64 m0.2] 49)).alloc (.cells #[.int .i64 m1.epoch, .slice v1a m1.words.length v1c] 52)).heap.size) := by simp [Hid]
    clear e1
    generalize (w.alloc (.cells #[.slice v0a m0.1.length v0c, .int .i64 m0.2] 49)).alloc (.cells #[.int .i64 m1.epoch, .slice v1a m1.words.length v1c] 52) = wb at *
    refine (dUnhide CS0 _ B).mono ?_
    rintro e ws0 ⟨rfl, bs⟩
    have sz1 := dHide bs.size
    replace X0 := dHide ((dUnhide X0).below bs)
    replace X1 := dHide ((dUnhide X1).below bs)
    replace B := belowThen B bs
    clear bs CS0
    have k2 := (dUnhide X1).now 0 _ rfl
    have k3 := (dUnhide X1).now 1 _ rfl
    go_wp2_with fail
    refine (dUnhide CS1 _ B).mono ?_
    rintro e ws1 ⟨rfl, bs⟩
    have sz4 := dHide bs.size
    replace X0 := dHide ((dUnhide X0).below bs)
    replace X1 := dHide ((dUnhide X1).below bs)
    replace B := belowThen B bs
    clear bs CS1 k2 k3
    clear X0 X1
    go_wp2
    go_ret
    exact ⟨rfl, B⟩
  have hs0 : sizConfig m0 ≤ 1048576 := by omega
  have hs1 : sizWriter m1 ≤ 1048576 := by omega
  have hc0 := cntConfig_le hs0
  have hc1 := cntWriter_le hs1
  obtain ⟨R, s1, hR, p1, p2⟩ := bothFnExactWriterAck m0 m1 m2 m3 ok0 ok1 ok2 ok3 hs0 hs1
  have CP := dHide p1
  have CI := dHide p2
  have CS0 := dHide fun W (hb : Below w.heap.size w W) => szConfig_ _ m0 (1048576 : Int) (by omega) (by omega) W (dUnhide A0 W hb)
  rw [lft_yes z0] at CS0
  have z0' : ¬ ((1048576 : Int) - (sizConfig m0 : Int) < 0) := by omega
  have CS1 := dHide fun W (hb : Below w.heap.size w W) => szWriter_ _ m1 ((1048576 : Int) - (sizConfig m0 : Int)) (by omega) (by omega) (txtW_of ok1) W (dUnhide A1 W hb)
  rw [lft_yes z1] at CS1
  have z1' : ¬ (((1048576 : Int) - (sizConfig m0 : Int)) - (sizWriter m1 : Int) < 0) := by omega
  clear p1 p2 r0 ok0 r1 ok1 ok2 ok3
  go_enter Try.func9, Try.ntmps9
  go_wp2_with fail
  have B := belowThen (ha w (.cells #[.slice v0a m0.1.length v0c, .int .i64 m0.2] 49)) (ha _ (.cells #[.int .i64 m1.epoch, .slice v1a m1.words.length v1c] 52))
  have X0 := dHide ((Sits.box w #[.slice v0a m0.1.length v0c, .int .i64 m0.2] 49).below (ha _ (.cells #[.int .i64 m1.epoch, .slice v1a m1.words.length v1c] 52)))
  have X1 := Sits.box (w.alloc (.cells #[.slice v0a m0.1.length v0c, .int .i64 m0.2] 49)) #[.int .i64 m1.epoch, .slice v1a m1.words.length v1c] 52
  have e1 : (w.alloc (.cells #[.slice v0a m0.1.length v0c, .int .i64 m0.2] 49)).heap.size = w.heap.size + 1 := by simp
  rw [e1] at X1
  replace X1 := dHide X1
  have sz0 : Hid (w.heap.size + 1 + 1 = ((w.alloc (.cells #[.slice v0a m0.1.length v0c, .int .i64 m0.2] 49)).alloc (.cells #[.int .i64 m1.epoch, .slice v1a m1.words.length v1c] 52)).heap.size) := by simp [Hid]
  clear e1
  generalize (w.alloc (.cells #[.slice v0a m0.1.length v0c, .int .i64 m0.2] 49)).alloc (.cells #[.int .i64 m1.epoch, .slice v1a m1.words.length v1c] 52) = wb at *
  refine (dUnhide CS0 _ B).mono ?_
  rintro e ws0 ⟨rfl, bs⟩
  have sz1 := dHide bs.size
  replace X0 := dHide ((dUnhide X0).below bs)
  replace X1 := dHide ((dUnhide X1).below bs)
  replace B := belowThen B bs
  clear bs CS0
  have k2 := (dUnhide X1).now 0 _ rfl
  have k3 := (dUnhide X1).now 1 _ rfl
  go_wp2_with fail
  refine (dUnhide CS1 _ B).mono ?_
  rintro e ws1 ⟨rfl, bs⟩
  have sz4 := dHide bs.size
  replace X0 := dHide ((dUnhide X0).below bs)
  replace X1 := dHide ((dUnhide X1).below bs)
  replace B := belowThen B bs
  clear bs CS1 k2 k3
  go_wp2_with fail
  have hC : ∀ W, Below ws1.heap.size ws1 W → W.cell? ⟨w.heap.size, 0, none⟩ = some (.slice v0a m0.1.length v0c) ∧ W.cell? ⟨w.heap.size, 1, none⟩ = some (.int .i64 m0.2) ∧ W.cell? ⟨w.heap.size + 1, 0, none⟩ = some (.int .i64 m1.epoch) ∧ W.cell? ⟨w.heap.size + 1, 1, none⟩ = some (.slice v1a m1.words.length v1c) := fun W hb =>
    ⟨(dUnhide X0).at hb 0 _ rfl, (dUnhide X0).at hb 1 _ rfl, (dUnhide X1).at hb 0 _ rfl, (dUnhide X1).at hb 1 _ rfl⟩
  have HC := dHide hC
  have hbr := Below.refl ws1.heap.size ws1
  obtain ⟨kd50, kd51, kd52, kd53⟩ := hC ws1 hbr
  clear hC
  go_cut [10, 11] (fun sv t1 wx => ∃ (bv lo hi : Nat) (a : Option Addr) (c : Nat), sv = .pointer (some ⟨bv, 0, none⟩) ∧ t1 = .bool s1 ∧ Sits (Box bv #[.int .i64 R.epoch, .slice a R.words.length c]) bv (bv + 1) wx ∧ Sits (OwWriter lo hi (.agg #[.int .i64 R.epoch, .slice a R.words.length c]) R) lo hi wx ∧ (bv < lo ∨ hi ≤ bv) ∧ ws1.heap.size ≤ bv ∧ ws1.heap.size ≤ lo ∧ Below ws1.heap.size ws1 wx)
  case first =>
    go_region_held3 (fun W => W.cell? ⟨w.heap.size, 0, none⟩ = some (.slice v0a m0.1.length v0c) ∧ W.cell? ⟨w.heap.size, 1, none⟩ = some (.int .i64 m0.2) ∧ W.cell? ⟨w.heap.size + 1, 0, none⟩ = some (.int .i64 m1.epoch) ∧ W.cell? ⟨w.heap.size + 1, 1, none⟩ = some (.slice v1a m1.words.length v1c)) (first | exact dUnhide HC _ (below_two hb5 zz.1 _ _) | go_keep)
      (first
        | (go_at_call 32; refine (toConfig_ _ m0 _ hs0 (dUnhide A0 _ (belowThen B (by first | exact hbr.drew | exact hbr.drew.alloc hbr.size _)))).mono ?_; rintro e wq0 ⟨o0, rfl, q0, b0⟩; have hb0 := belowThen (by first | exact hbr.drew | exact hbr.drew.alloc hbr.size _) b0; obtain ⟨kd50, kd51, kd52, kd53⟩ := dUnhide HC wq0 hb0; (first | have zz := BxZ.madeD2 hbr.size b0 | have zz : BxZ wq0 ws1.heap.size ws1.heap.size [_, _] := BxZ.made2 hbr.size b0 | skip); have Q0 := dHide q0; obtain ⟨o0a, o0c, rfl, o0l⟩ := formConfig q0.now.rd; clear q0; (try obtain ⟨z0, y0⟩ := zz.2 0 _ rfl); (try obtain ⟨z1, y1⟩ := zz.2 1 _ rfl))
        | (go_at_call 33; refine (toWriter_ _ m1 _ hs1 (dUnhide A1 _ (belowThen B (by first | exact hb0 | exact hb0.alloc hb0.size _)))).mono ?_; rintro e wq1 ⟨o1, rfl, q1, b1⟩; have hb1 := belowThen (by first | exact hb0 | exact hb0.alloc hb0.size _) b1; obtain ⟨kd50, kd51, kd52, kd53⟩ := dUnhide HC wq1 hb1; have Q0 := dHide ((dUnhide Q0).below (by first | exact b1 | exact belowThen (ha _ _) b1)); (first | have zz := BxZ.made2 hb0.size b1 | have zz := BxZ.below zz b1 | skip); have Q1 := dHide q1; obtain ⟨o1a, o1c, rfl, o1l⟩ := formWriter q1.now.rd; clear q1; (try obtain ⟨z0, y0⟩ := zz.2 0 _ rfl); (try obtain ⟨z1, y1⟩ := zz.2 1 _ rfl))
        | (go_at_call 20; refine (dUnhide CP _ _ _ (by first | exact (dUnhide Q0).now.rd | exact RdConfig.below (dUnhide Q0).now.rd (ha _ _)) (by first | exact (dUnhide Q1).now.rd | exact RdWriter.below (dUnhide Q1).now.rd (ha _ _))).mono ?_; rintro e w5 ⟨u5, rfl, q5, b5⟩; have hb5 := belowThen (by first | exact hb1 | exact hb1.alloc hb1.size _) b5; obtain ⟨kd50, kd51, kd52, kd53⟩ := dUnhide HC w5 hb5; (try have hlo := BxZ.lt zz); (first | have zz := BxZ.made2 hb1.size b5 | have zz := BxZ.below zz b5 | skip); have Q5 := dHide q5; obtain ⟨o5a, o5c, rfl, o5l⟩ := formWriter q5.now.rd; clear q5; (try obtain ⟨z0, y0⟩ := zz.2 0 _ rfl); (try obtain ⟨z1, y1⟩ := zz.2 1 _ rfl)))
    all_goals
      go_wp2_with fail
      go_meet
      case rel => first | exact ⟨_, _, _, _, _, rfl, rfl, ((zz.put 0 _).put 1 _).bx.sits, ((dUnhide Q5).setFar (.inl (by first | exact hlo | simp)) _).setFar (.inl (by first | exact hlo | simp)) _, (.inl (by first | exact hlo | simp)), zz.1, (by have := hb1.size; first | exact this | (simp; omega)), below_two hb5 zz.1 _ _⟩ | exact ⟨_, _, _, _, _, rfl, rfl, Sits.box w5 _ _, (dUnhide Q5).below (ha _ _), .inr (Nat.le_refl _), hb5.size, hb1.size, hb5.alloc hb5.size _⟩
  case rest =>
    obtain ⟨bX6, lod5, hid5, uwa, uwc, rfl, rfl, X6, OW, dd5, gd5, id5, bc⟩ := hcut
    clear kd50 kd51 kd52 kd53 HC hbr
    have sz7 := dHide bc.size
    replace X0 := dHide ((dUnhide X0).below bc)
    replace X1 := dHide ((dUnhide X1).below bc)
    replace B := belowThen B bc
    have sz8 := dHide dd5
    have sz9 := dHide gd5
    have sz10 := dHide id5
    have sz11 := dHide X6.fit
    have sz12 := dHide OW.fit
    replace X6 := dHide X6
    replace OW := dHide OW
    clear bc dd5 gd5 id5
    generalize wc = w3 at *
    clear CP
    have k13 := (dUnhide X0).now 0 _ rfl
    have k14 := (dUnhide X0).now 1 _ rfl
    go_wp2_with fail
    refine (toConfig_ _ m0 _ hs0 (dUnhide A0 _ B)).mono ?_
    rintro e w17 ⟨u16, rfl, T15, b18⟩
    clear k13 k14
    have sz19 := dHide b18.size
    replace X0 := dHide ((dUnhide X0).below b18)
    replace X1 := dHide ((dUnhide X1).below b18)
    replace X6 := dHide ((dUnhide X6).below b18)
    replace OW := dHide ((dUnhide OW).below b18)
    replace B := belowThen B b18
    replace T15 := dHide T15
    clear b18
    obtain ⟨u16a, u16c, rfl, u16l⟩ := formConfig (dUnhide T15).now.rd
    have X20 := Sits.box w17 #[.slice u16a m0.1.length u16c, .int .i64 m0.2] 26
    have ba := ha w17 (.cells #[.slice u16a m0.1.length u16c, .int .i64 m0.2] 26)
    have sz22 := dHide ba.size
    replace X0 := dHide ((dUnhide X0).below ba)
    replace X1 := dHide ((dUnhide X1).below ba)
    replace X6 := dHide ((dUnhide X6).below ba)
    replace OW := dHide ((dUnhide OW).below ba)
    replace T15 := dHide ((dUnhide T15).below ba)
    replace B := belowThen B ba
    have sz23 : Hid (w17.heap.size + 1 = (w17.alloc (.cells #[.slice u16a m0.1.length u16c, .int .i64 m0.2] 26)).heap.size) := by simp [Hid]
    replace X20 := dHide X20
    clear ba
    have k24 := (dUnhide X1).now 0 _ rfl
    have k25 := (dUnhide X1).now 1 _ rfl
    go_wp2_with fail
    generalize hbx21 : w17.heap.size = bx21 at *
    generalize w17.alloc (.cells #[.slice u16a m0.1.length u16c, .int .i64 m0.2] 26) = w26 at *
    have sz27 := dHide hbx21
    clear hbx21
    have k28 := (dUnhide X1).now 0 _ rfl
    have k29 := (dUnhide X1).now 1 _ rfl
    refine (toWriter_ _ m1 _ hs1 (dUnhide A1 _ B)).mono ?_
    rintro e w32 ⟨u31, rfl, T30, b33⟩
    clear k28 k29
    clear k24 k25
    have sz34 := dHide b33.size
    replace X0 := dHide ((dUnhide X0).below b33)
    replace X1 := dHide ((dUnhide X1).below b33)
    replace X6 := dHide ((dUnhide X6).below b33)
    replace OW := dHide ((dUnhide OW).below b33)
    replace T15 := dHide ((dUnhide T15).below b33)
    replace X20 := dHide ((dUnhide X20).below b33)
    replace B := belowThen B b33
    replace T30 := dHide T30
    clear b33
    obtain ⟨u31a, u31c, rfl, u31l⟩ := formWriter (dUnhide T30).now.rd
    have X35 := Sits.box w32 #[.int .i64 m1.epoch, .slice u31a m1.words.length u31c] 29
    have ba := ha w32 (.cells #[.int .i64 m1.epoch, .slice u31a m1.words.length u31c] 29)
    have sz37 := dHide ba.size
    replace X0 := dHide ((dUnhide X0).below ba)
    replace X1 := dHide ((dUnhide X1).below ba)
    replace X6 := dHide ((dUnhide X6).below ba)
    replace OW := dHide ((dUnhide OW).below ba)
    replace T15 := dHide ((dUnhide T15).below ba)
    replace X20 := dHide ((dUnhide X20).below ba)
    replace T30 := dHide ((dUnhide T30).below ba)
    replace B := belowThen B ba
    have sz38 : Hid (w32.heap.size + 1 = (w32.alloc (.cells #[.int .i64 m1.epoch, .slice u31a m1.words.length u31c] 29)).heap.size) := by simp [Hid]
    replace X35 := dHide X35
    clear ba
    have k39 := (dUnhide X20).now 0 _ rfl
    have k40 := (dUnhide X20).now 1 _ rfl
    go_wp2_with fail
    generalize hbx36 : w32.heap.size = bx36 at *
    generalize w32.alloc (.cells #[.int .i64 m1.epoch, .slice u31a m1.words.length u31c] 29) = w41 at *
    have sz42 := dHide hbx36
    clear hbx36
    have k43 := (dUnhide X20).now 0 _ rfl
    have k44 := (dUnhide X20).now 1 _ rfl
    have k45 := (dUnhide X35).now 0 _ rfl
    have k46 := (dUnhide X35).now 1 _ rfl
    refine (dUnhide CI _ _ _ (dUnhide T15).now.rd (dUnhide T30).now.rd).mono ?_
    rintro e w47 ⟨ug, rfl, OG, b48⟩
    clear k43 k44 k45 k46
    clear k39 k40
    have sz49 := dHide b48.size
    replace X0 := dHide ((dUnhide X0).below b48)
    replace X1 := dHide ((dUnhide X1).below b48)
    replace X6 := dHide ((dUnhide X6).below b48)
    replace OW := dHide ((dUnhide OW).below b48)
    replace T15 := dHide ((dUnhide T15).below b48)
    replace X20 := dHide ((dUnhide X20).below b48)
    replace T30 := dHide ((dUnhide T30).below b48)
    replace X35 := dHide ((dUnhide X35).below b48)
    replace B := belowThen B b48
    replace OG := dHide OG
    clear b48
    obtain ⟨uga, ugc, rfl, ugl⟩ := formWriter (dUnhide OG).now.rd
    have X50 := Sits.box w47 #[.int .i64 R.epoch, .slice uga R.words.length ugc] 29
    have ba := ha w47 (.cells #[.int .i64 R.epoch, .slice uga R.words.length ugc] 29)
    have sz52 := dHide ba.size
    replace X0 := dHide ((dUnhide X0).below ba)
    replace X1 := dHide ((dUnhide X1).below ba)
    replace X6 := dHide ((dUnhide X6).below ba)
    replace OW := dHide ((dUnhide OW).below ba)
    replace T15 := dHide ((dUnhide T15).below ba)
    replace X20 := dHide ((dUnhide X20).below ba)
    replace T30 := dHide ((dUnhide T30).below ba)
    replace X35 := dHide ((dUnhide X35).below ba)
    replace OG := dHide ((dUnhide OG).below ba)
    replace B := belowThen B ba
    have sz53 : Hid (w47.heap.size + 1 = (w47.alloc (.cells #[.int .i64 R.epoch, .slice uga R.words.length ugc] 29)).heap.size) := by simp [Hid]
    replace X50 := dHide X50
    clear ba
    have k54 := (dUnhide X50).now 0 _ rfl
    have k55 := (dUnhide X50).now 1 _ rfl
    have k56 := (dUnhide X6).now 0 _ rfl
    have k57 := (dUnhide X6).now 1 _ rfl
    go_wp2_with fail
    generalize hbx51 : w47.heap.size = bx51 at *
    generalize w47.alloc (.cells #[.int .i64 R.epoch, .slice uga R.words.length ugc] 29) = w58 at *
    have sz59 := dHide hbx51
    clear hbx51
    refine (eqWriter_ _ _ _ _ (dUnhide OG).now.rd (dUnhide OW).now.rd).mono ?_
    rintro e w60 ⟨rfl, b61⟩
    clear k54 k55 k56 k57
    have sz62 := dHide b61.size
    replace X0 := dHide ((dUnhide X0).below b61)
    replace X1 := dHide ((dUnhide X1).below b61)
    replace X6 := dHide ((dUnhide X6).below b61)
    replace OW := dHide ((dUnhide OW).below b61)
    replace T15 := dHide ((dUnhide T15).below b61)
    replace X20 := dHide ((dUnhide X20).below b61)
    replace T30 := dHide ((dUnhide T30).below b61)
    replace X35 := dHide ((dUnhide X35).below b61)
    replace OG := dHide ((dUnhide OG).below b61)
    replace X50 := dHide ((dUnhide X50).below b61)
    replace B := belowThen B b61
    clear b61
    have k63 := (dUnhide X20).now 0 _ rfl
    have k64 := (dUnhide X20).now 1 _ rfl
    have k65 := (dUnhide X0).now 0 _ rfl
    have k66 := (dUnhide X0).now 1 _ rfl
    have hbr := Below.refl w60.heap.size w60
    go_wp2_with fail
    go_cut [66] (fun sv wx => sv = .bool false ∧ Below w60.heap.size w60 wx)
    case first =>
      go_region_held3 (fun W => W.cell? ⟨bx21, 0, none⟩ = some (.slice u16a m0.1.length u16c) ∧ W.cell? ⟨bx21, 1, none⟩ = some (.int .i64 m0.2) ∧ W.cell? ⟨w.heap.size, 0, none⟩ = some (.slice v0a m0.1.length v0c) ∧ W.cell? ⟨w.heap.size, 1, none⟩ = some (.int .i64 m0.2)) (go_keep)
        (first
          | (go_at_call 32; refine (toConfig_ _ m0 _ hs0 (dUnhide A0 _ (belowThen B hbr.drew))).mono ?_; rintro e w8 ⟨o8, rfl, q8, b8⟩; have hb8 := belowThen hbr.drew b8; have k67 := ((dUnhide X20).at hb8) 0 _ rfl; have k68 := ((dUnhide X20).at hb8) 1 _ rfl; have k69 := ((dUnhide X0).at hb8) 0 _ rfl; have k70 := ((dUnhide X0).at hb8) 1 _ rfl; have Q8 := dHide q8; obtain ⟨o8a, o8c, rfl, o8l⟩ := formConfig q8.now.rd; clear q8)
          | (go_at_call 34; refine (eqConfig_ _ _ _ _ ((dUnhide T15).at hb8).rd (dUnhide Q8).now.rd).mono ?_; rintro e w9 ⟨rfl, b9⟩; have hb9 := belowThen hb8 b9; have k71 := ((dUnhide X20).at hb9) 0 _ rfl; have k72 := ((dUnhide X20).at hb9) 1 _ rfl; have k73 := ((dUnhide X0).at hb9) 0 _ rfl; have k74 := ((dUnhide X0).at hb9) 1 _ rfl))
      all_goals
        go_wp2_with fail
        go_meet
        case rel => exact ⟨rfl, hb9⟩
    case rest =>
      obtain ⟨rfl, bc⟩ := hcut
      clear hbr
      clear k63 k64 k65 k66
      have sz75 := dHide bc.size
      replace X0 := dHide ((dUnhide X0).below bc)
      replace X1 := dHide ((dUnhide X1).below bc)
      replace X6 := dHide ((dUnhide X6).below bc)
      replace OW := dHide ((dUnhide OW).below bc)
      replace T15 := dHide ((dUnhide T15).below bc)
      replace X20 := dHide ((dUnhide X20).below bc)
      replace T30 := dHide ((dUnhide T30).below bc)
      replace X35 := dHide ((dUnhide X35).below bc)
      replace OG := dHide ((dUnhide OG).below bc)
      replace X50 := dHide ((dUnhide X50).below bc)
      replace B := belowThen B bc
      generalize wc = w76 at *
      clear bc
      have k77 := (dUnhide X35).now 0 _ rfl
      have k78 := (dUnhide X35).now 1 _ rfl
      have k79 := (dUnhide X1).now 0 _ rfl
      have k80 := (dUnhide X1).now 1 _ rfl
      have hbr := Below.refl w76.heap.size w76
      go_wp2_with fail
      go_cut [71] (fun sv wx => sv = .bool false ∧ Below w76.heap.size w76 wx)
      case first =>
        go_region_held3 (fun W => W.cell? ⟨bx36, 0, none⟩ = some (.int .i64 m1.epoch) ∧ W.cell? ⟨bx36, 1, none⟩ = some (.slice u31a m1.words.length u31c) ∧ W.cell? ⟨w.heap.size + 1, 0, none⟩ = some (.int .i64 m1.epoch) ∧ W.cell? ⟨w.heap.size + 1, 1, none⟩ = some (.slice v1a m1.words.length v1c)) (go_keep)
          (first
            | (go_at_call 33; refine (toWriter_ _ m1 _ hs1 (dUnhide A1 _ (belowThen B hbr.drew))).mono ?_; rintro e w8 ⟨o8, rfl, q8, b8⟩; have hb8 := belowThen hbr.drew b8; have k81 := ((dUnhide X35).at hb8) 0 _ rfl; have k82 := ((dUnhide X35).at hb8) 1 _ rfl; have k83 := ((dUnhide X1).at hb8) 0 _ rfl; have k84 := ((dUnhide X1).at hb8) 1 _ rfl; have Q8 := dHide q8; obtain ⟨o8a, o8c, rfl, o8l⟩ := formWriter q8.now.rd; clear q8)
            | (go_at_call 35; refine (eqWriter_ _ _ _ _ ((dUnhide T30).at hb8).rd (dUnhide Q8).now.rd).mono ?_; rintro e w9 ⟨rfl, b9⟩; have hb9 := belowThen hb8 b9; have k85 := ((dUnhide X35).at hb9) 0 _ rfl; have k86 := ((dUnhide X35).at hb9) 1 _ rfl; have k87 := ((dUnhide X1).at hb9) 0 _ rfl; have k88 := ((dUnhide X1).at hb9) 1 _ rfl))
        all_goals
          go_wp2_with fail
          go_meet
          case rel => exact ⟨rfl, hb9⟩
      case rest =>
        obtain ⟨rfl, bc⟩ := hcut
        clear hbr
        clear k77 k78 k79 k80
        have sz89 := dHide bc.size
        replace X0 := dHide ((dUnhide X0).below bc)
        replace X1 := dHide ((dUnhide X1).below bc)
        replace X6 := dHide ((dUnhide X6).below bc)
        replace OW := dHide ((dUnhide OW).below bc)
        replace T15 := dHide ((dUnhide T15).below bc)
        replace X20 := dHide ((dUnhide X20).below bc)
        replace T30 := dHide ((dUnhide T30).below bc)
        replace X35 := dHide ((dUnhide X35).below bc)
        replace OG := dHide ((dUnhide OG).below bc)
        replace X50 := dHide ((dUnhide X50).below bc)
        replace B := belowThen B bc
        generalize wc = w90 at *
        clear bc
        have k91 := (dUnhide X20).now 0 _ rfl
        have k92 := (dUnhide X20).now 1 _ rfl
        go_wp2_with fail
        refine (markConfig_ _ _ _ _ 1 _ (by omega) (by omega) (dUnhide T15)).mono ?_
        rintro e w93 ⟨rfl, M95, b94⟩
        clear k91 k92
        replace X0 := dHide ((dUnhide X0).wr b94 (by have := dUnhide sz0; have := dUnhide sz1; have := dUnhide sz4; have := dUnhide sz7; have := dUnhide sz8; have := dUnhide sz9; have := dUnhide sz10; have := dUnhide sz11; have := dUnhide sz12; have := dUnhide sz19; have := dUnhide sz22; have := dUnhide sz23; have := dUnhide sz27; have := dUnhide sz34; have := dUnhide sz37; have := dUnhide sz38; have := dUnhide sz42; have := dUnhide sz49; have := dUnhide sz52; have := dUnhide sz53; have := dUnhide sz59; have := dUnhide sz62; have := dUnhide sz75; have := dUnhide sz89; omega))
        replace X1 := dHide ((dUnhide X1).wr b94 (by have := dUnhide sz0; have := dUnhide sz1; have := dUnhide sz4; have := dUnhide sz7; have := dUnhide sz8; have := dUnhide sz9; have := dUnhide sz10; have := dUnhide sz11; have := dUnhide sz12; have := dUnhide sz19; have := dUnhide sz22; have := dUnhide sz23; have := dUnhide sz27; have := dUnhide sz34; have := dUnhide sz37; have := dUnhide sz38; have := dUnhide sz42; have := dUnhide sz49; have := dUnhide sz52; have := dUnhide sz53; have := dUnhide sz59; have := dUnhide sz62; have := dUnhide sz75; have := dUnhide sz89; omega))
        replace X6 := dHide ((dUnhide X6).wr b94 (by have := dUnhide sz0; have := dUnhide sz1; have := dUnhide sz4; have := dUnhide sz7; have := dUnhide sz8; have := dUnhide sz9; have := dUnhide sz10; have := dUnhide sz11; have := dUnhide sz12; have := dUnhide sz19; have := dUnhide sz22; have := dUnhide sz23; have := dUnhide sz27; have := dUnhide sz34; have := dUnhide sz37; have := dUnhide sz38; have := dUnhide sz42; have := dUnhide sz49; have := dUnhide sz52; have := dUnhide sz53; have := dUnhide sz59; have := dUnhide sz62; have := dUnhide sz75; have := dUnhide sz89; omega))
        replace OW := dHide ((dUnhide OW).wr b94 (by have := dUnhide sz0; have := dUnhide sz1; have := dUnhide sz4; have := dUnhide sz7; have := dUnhide sz8; have := dUnhide sz9; have := dUnhide sz10; have := dUnhide sz11; have := dUnhide sz12; have := dUnhide sz19; have := dUnhide sz22; have := dUnhide sz23; have := dUnhide sz27; have := dUnhide sz34; have := dUnhide sz37; have := dUnhide sz38; have := dUnhide sz42; have := dUnhide sz49; have := dUnhide sz52; have := dUnhide sz53; have := dUnhide sz59; have := dUnhide sz62; have := dUnhide sz75; have := dUnhide sz89; omega))
        replace X20 := dHide ((dUnhide X20).wr b94 (by have := dUnhide sz0; have := dUnhide sz1; have := dUnhide sz4; have := dUnhide sz7; have := dUnhide sz8; have := dUnhide sz9; have := dUnhide sz10; have := dUnhide sz11; have := dUnhide sz12; have := dUnhide sz19; have := dUnhide sz22; have := dUnhide sz23; have := dUnhide sz27; have := dUnhide sz34; have := dUnhide sz37; have := dUnhide sz38; have := dUnhide sz42; have := dUnhide sz49; have := dUnhide sz52; have := dUnhide sz53; have := dUnhide sz59; have := dUnhide sz62; have := dUnhide sz75; have := dUnhide sz89; omega))
        replace T30 := dHide ((dUnhide T30).wr b94 (by have := dUnhide sz0; have := dUnhide sz1; have := dUnhide sz4; have := dUnhide sz7; have := dUnhide sz8; have := dUnhide sz9; have := dUnhide sz10; have := dUnhide sz11; have := dUnhide sz12; have := dUnhide sz19; have := dUnhide sz22; have := dUnhide sz23; have := dUnhide sz27; have := dUnhide sz34; have := dUnhide sz37; have := dUnhide sz38; have := dUnhide sz42; have := dUnhide sz49; have := dUnhide sz52; have := dUnhide sz53; have := dUnhide sz59; have := dUnhide sz62; have := dUnhide sz75; have := dUnhide sz89; omega))
        replace X35 := dHide ((dUnhide X35).wr b94 (by have := dUnhide sz0; have := dUnhide sz1; have := dUnhide sz4; have := dUnhide sz7; have := dUnhide sz8; have := dUnhide sz9; have := dUnhide sz10; have := dUnhide sz11; have := dUnhide sz12; have := dUnhide sz19; have := dUnhide sz22; have := dUnhide sz23; have := dUnhide sz27; have := dUnhide sz34; have := dUnhide sz37; have := dUnhide sz38; have := dUnhide sz42; have := dUnhide sz49; have := dUnhide sz52; have := dUnhide sz53; have := dUnhide sz59; have := dUnhide sz62; have := dUnhide sz75; have := dUnhide sz89; omega))
        replace OG := dHide ((dUnhide OG).wr b94 (by have := dUnhide sz0; have := dUnhide sz1; have := dUnhide sz4; have := dUnhide sz7; have := dUnhide sz8; have := dUnhide sz9; have := dUnhide sz10; have := dUnhide sz11; have := dUnhide sz12; have := dUnhide sz19; have := dUnhide sz22; have := dUnhide sz23; have := dUnhide sz27; have := dUnhide sz34; have := dUnhide sz37; have := dUnhide sz38; have := dUnhide sz42; have := dUnhide sz49; have := dUnhide sz52; have := dUnhide sz53; have := dUnhide sz59; have := dUnhide sz62; have := dUnhide sz75; have := dUnhide sz89; omega))
        replace X50 := dHide ((dUnhide X50).wr b94 (by have := dUnhide sz0; have := dUnhide sz1; have := dUnhide sz4; have := dUnhide sz7; have := dUnhide sz8; have := dUnhide sz9; have := dUnhide sz10; have := dUnhide sz11; have := dUnhide sz12; have := dUnhide sz19; have := dUnhide sz22; have := dUnhide sz23; have := dUnhide sz27; have := dUnhide sz34; have := dUnhide sz37; have := dUnhide sz38; have := dUnhide sz42; have := dUnhide sz49; have := dUnhide sz52; have := dUnhide sz53; have := dUnhide sz59; have := dUnhide sz62; have := dUnhide sz75; have := dUnhide sz89; omega))
        replace B := b94.below B B.size (by have := dUnhide sz0; have := dUnhide sz1; have := dUnhide sz4; have := dUnhide sz7; have := dUnhide sz8; have := dUnhide sz9; have := dUnhide sz10; have := dUnhide sz11; have := dUnhide sz12; have := dUnhide sz19; have := dUnhide sz22; have := dUnhide sz23; have := dUnhide sz27; have := dUnhide sz34; have := dUnhide sz37; have := dUnhide sz38; have := dUnhide sz42; have := dUnhide sz49; have := dUnhide sz52; have := dUnhide sz53; have := dUnhide sz59; have := dUnhide sz62; have := dUnhide sz75; have := dUnhide sz89; omega)
        have sz96 := dHide b94.size
        replace M95 := dHide M95
        clear b94 T15
        have k97 := (dUnhide X35).now 0 _ rfl
        have k98 := (dUnhide X35).now 1 _ rfl
        go_wp2_with fail
        refine (markWriter_ _ _ _ _ (1 + cntConfig m0) _ (by omega) (by omega) (dUnhide T30)).mono ?_
        rintro e w99 ⟨rfl, M101, b100⟩
        clear k97 k98
        replace X0 := dHide ((dUnhide X0).wr b100 (by have := dUnhide sz0; have := dUnhide sz1; have := dUnhide sz4; have := dUnhide sz7; have := dUnhide sz8; have := dUnhide sz9; have := dUnhide sz10; have := dUnhide sz11; have := dUnhide sz12; have := dUnhide sz19; have := dUnhide sz22; have := dUnhide sz23; have := dUnhide sz27; have := dUnhide sz34; have := dUnhide sz37; have := dUnhide sz38; have := dUnhide sz42; have := dUnhide sz49; have := dUnhide sz52; have := dUnhide sz53; have := dUnhide sz59; have := dUnhide sz62; have := dUnhide sz75; have := dUnhide sz89; have := dUnhide sz96; omega))
        replace X1 := dHide ((dUnhide X1).wr b100 (by have := dUnhide sz0; have := dUnhide sz1; have := dUnhide sz4; have := dUnhide sz7; have := dUnhide sz8; have := dUnhide sz9; have := dUnhide sz10; have := dUnhide sz11; have := dUnhide sz12; have := dUnhide sz19; have := dUnhide sz22; have := dUnhide sz23; have := dUnhide sz27; have := dUnhide sz34; have := dUnhide sz37; have := dUnhide sz38; have := dUnhide sz42; have := dUnhide sz49; have := dUnhide sz52; have := dUnhide sz53; have := dUnhide sz59; have := dUnhide sz62; have := dUnhide sz75; have := dUnhide sz89; have := dUnhide sz96; omega))
        replace X6 := dHide ((dUnhide X6).wr b100 (by have := dUnhide sz0; have := dUnhide sz1; have := dUnhide sz4; have := dUnhide sz7; have := dUnhide sz8; have := dUnhide sz9; have := dUnhide sz10; have := dUnhide sz11; have := dUnhide sz12; have := dUnhide sz19; have := dUnhide sz22; have := dUnhide sz23; have := dUnhide sz27; have := dUnhide sz34; have := dUnhide sz37; have := dUnhide sz38; have := dUnhide sz42; have := dUnhide sz49; have := dUnhide sz52; have := dUnhide sz53; have := dUnhide sz59; have := dUnhide sz62; have := dUnhide sz75; have := dUnhide sz89; have := dUnhide sz96; omega))
        replace OW := dHide ((dUnhide OW).wr b100 (by have := dUnhide sz0; have := dUnhide sz1; have := dUnhide sz4; have := dUnhide sz7; have := dUnhide sz8; have := dUnhide sz9; have := dUnhide sz10; have := dUnhide sz11; have := dUnhide sz12; have := dUnhide sz19; have := dUnhide sz22; have := dUnhide sz23; have := dUnhide sz27; have := dUnhide sz34; have := dUnhide sz37; have := dUnhide sz38; have := dUnhide sz42; have := dUnhide sz49; have := dUnhide sz52; have := dUnhide sz53; have := dUnhide sz59; have := dUnhide sz62; have := dUnhide sz75; have := dUnhide sz89; have := dUnhide sz96; omega))
        replace X20 := dHide ((dUnhide X20).wr b100 (by have := dUnhide sz0; have := dUnhide sz1; have := dUnhide sz4; have := dUnhide sz7; have := dUnhide sz8; have := dUnhide sz9; have := dUnhide sz10; have := dUnhide sz11; have := dUnhide sz12; have := dUnhide sz19; have := dUnhide sz22; have := dUnhide sz23; have := dUnhide sz27; have := dUnhide sz34; have := dUnhide sz37; have := dUnhide sz38; have := dUnhide sz42; have := dUnhide sz49; have := dUnhide sz52; have := dUnhide sz53; have := dUnhide sz59; have := dUnhide sz62; have := dUnhide sz75; have := dUnhide sz89; have := dUnhide sz96; omega))
        replace X35 := dHide ((dUnhide X35).wr b100 (by have := dUnhide sz0; have := dUnhide sz1; have := dUnhide sz4; have := dUnhide sz7; have := dUnhide sz8; have := dUnhide sz9; have := dUnhide sz10; have := dUnhide sz11; have := dUnhide sz12; have := dUnhide sz19; have := dUnhide sz22; have := dUnhide sz23; have := dUnhide sz27; have := dUnhide sz34; have := dUnhide sz37; have := dUnhide sz38; have := dUnhide sz42; have := dUnhide sz49; have := dUnhide sz52; have := dUnhide sz53; have := dUnhide sz59; have := dUnhide sz62; have := dUnhide sz75; have := dUnhide sz89; have := dUnhide sz96; omega))
        replace OG := dHide ((dUnhide OG).wr b100 (by have := dUnhide sz0; have := dUnhide sz1; have := dUnhide sz4; have := dUnhide sz7; have := dUnhide sz8; have := dUnhide sz9; have := dUnhide sz10; have := dUnhide sz11; have := dUnhide sz12; have := dUnhide sz19; have := dUnhide sz22; have := dUnhide sz23; have := dUnhide sz27; have := dUnhide sz34; have := dUnhide sz37; have := dUnhide sz38; have := dUnhide sz42; have := dUnhide sz49; have := dUnhide sz52; have := dUnhide sz53; have := dUnhide sz59; have := dUnhide sz62; have := dUnhide sz75; have := dUnhide sz89; have := dUnhide sz96; omega))
        replace X50 := dHide ((dUnhide X50).wr b100 (by have := dUnhide sz0; have := dUnhide sz1; have := dUnhide sz4; have := dUnhide sz7; have := dUnhide sz8; have := dUnhide sz9; have := dUnhide sz10; have := dUnhide sz11; have := dUnhide sz12; have := dUnhide sz19; have := dUnhide sz22; have := dUnhide sz23; have := dUnhide sz27; have := dUnhide sz34; have := dUnhide sz37; have := dUnhide sz38; have := dUnhide sz42; have := dUnhide sz49; have := dUnhide sz52; have := dUnhide sz53; have := dUnhide sz59; have := dUnhide sz62; have := dUnhide sz75; have := dUnhide sz89; have := dUnhide sz96; omega))
        replace M95 := dHide ((dUnhide M95).wr b100 (by have := dUnhide sz0; have := dUnhide sz1; have := dUnhide sz4; have := dUnhide sz7; have := dUnhide sz8; have := dUnhide sz9; have := dUnhide sz10; have := dUnhide sz11; have := dUnhide sz12; have := dUnhide sz19; have := dUnhide sz22; have := dUnhide sz23; have := dUnhide sz27; have := dUnhide sz34; have := dUnhide sz37; have := dUnhide sz38; have := dUnhide sz42; have := dUnhide sz49; have := dUnhide sz52; have := dUnhide sz53; have := dUnhide sz59; have := dUnhide sz62; have := dUnhide sz75; have := dUnhide sz89; have := dUnhide sz96; omega))
        replace B := b100.below B B.size (by have := dUnhide sz0; have := dUnhide sz1; have := dUnhide sz4; have := dUnhide sz7; have := dUnhide sz8; have := dUnhide sz9; have := dUnhide sz10; have := dUnhide sz11; have := dUnhide sz12; have := dUnhide sz19; have := dUnhide sz22; have := dUnhide sz23; have := dUnhide sz27; have := dUnhide sz34; have := dUnhide sz37; have := dUnhide sz38; have := dUnhide sz42; have := dUnhide sz49; have := dUnhide sz52; have := dUnhide sz53; have := dUnhide sz59; have := dUnhide sz62; have := dUnhide sz75; have := dUnhide sz89; have := dUnhide sz96; omega)
        have sz102 := dHide b100.size
        replace M101 := dHide M101
        clear b100 T30
        clear M95 M101 X20 X35
        have hk : ¬ (((1 + cntConfig m0 + cntWriter m1 : Nat) : Int) < 0) := by omega
        have k103 := (dUnhide X50).now 0 _ rfl
        have k104 := (dUnhide X50).now 1 _ rfl
        have k105 := (dUnhide X6).now 0 _ rfl
        have k106 := (dUnhide X6).now 1 _ rfl
        go_wp2_with fail
        refine (eqWriter_ _ _ _ _ (dUnhide OG).now.rd (dUnhide OW).now.rd).mono ?_
        rintro e w107 ⟨rfl, b108⟩
        clear k103 k104 k105 k106
        have sz109 := dHide b108.size
        replace X0 := dHide ((dUnhide X0).below b108)
        replace X1 := dHide ((dUnhide X1).below b108)
        replace X6 := dHide ((dUnhide X6).below b108)
        replace OW := dHide ((dUnhide OW).below b108)
        replace OG := dHide ((dUnhide OG).below b108)
        replace X50 := dHide ((dUnhide X50).below b108)
        replace B := belowThen B b108
        clear b108
        have k110 := (dUnhide X50).now 0 _ rfl
        have k111 := (dUnhide X50).now 1 _ rfl
        go_wp2_with fail
        refine (markWriter_ _ _ _ _ 1 _ (by omega) (by omega) (dUnhide OG)).mono ?_
        rintro e w112 ⟨rfl, M114, b113⟩
        clear k110 k111
        replace X0 := dHide ((dUnhide X0).wr b113 (by have := dUnhide sz0; have := dUnhide sz1; have := dUnhide sz4; have := dUnhide sz7; have := dUnhide sz8; have := dUnhide sz9; have := dUnhide sz10; have := dUnhide sz11; have := dUnhide sz12; have := dUnhide sz19; have := dUnhide sz22; have := dUnhide sz23; have := dUnhide sz27; have := dUnhide sz34; have := dUnhide sz37; have := dUnhide sz38; have := dUnhide sz42; have := dUnhide sz49; have := dUnhide sz52; have := dUnhide sz53; have := dUnhide sz59; have := dUnhide sz62; have := dUnhide sz75; have := dUnhide sz89; have := dUnhide sz96; have := dUnhide sz102; have := dUnhide sz109; omega))
        replace X1 := dHide ((dUnhide X1).wr b113 (by have := dUnhide sz0; have := dUnhide sz1; have := dUnhide sz4; have := dUnhide sz7; have := dUnhide sz8; have := dUnhide sz9; have := dUnhide sz10; have := dUnhide sz11; have := dUnhide sz12; have := dUnhide sz19; have := dUnhide sz22; have := dUnhide sz23; have := dUnhide sz27; have := dUnhide sz34; have := dUnhide sz37; have := dUnhide sz38; have := dUnhide sz42; have := dUnhide sz49; have := dUnhide sz52; have := dUnhide sz53; have := dUnhide sz59; have := dUnhide sz62; have := dUnhide sz75; have := dUnhide sz89; have := dUnhide sz96; have := dUnhide sz102; have := dUnhide sz109; omega))
        replace X6 := dHide ((dUnhide X6).wr b113 (by have := dUnhide sz0; have := dUnhide sz1; have := dUnhide sz4; have := dUnhide sz7; have := dUnhide sz8; have := dUnhide sz9; have := dUnhide sz10; have := dUnhide sz11; have := dUnhide sz12; have := dUnhide sz19; have := dUnhide sz22; have := dUnhide sz23; have := dUnhide sz27; have := dUnhide sz34; have := dUnhide sz37; have := dUnhide sz38; have := dUnhide sz42; have := dUnhide sz49; have := dUnhide sz52; have := dUnhide sz53; have := dUnhide sz59; have := dUnhide sz62; have := dUnhide sz75; have := dUnhide sz89; have := dUnhide sz96; have := dUnhide sz102; have := dUnhide sz109; omega))
        replace OW := dHide ((dUnhide OW).wr b113 (by have := dUnhide sz0; have := dUnhide sz1; have := dUnhide sz4; have := dUnhide sz7; have := dUnhide sz8; have := dUnhide sz9; have := dUnhide sz10; have := dUnhide sz11; have := dUnhide sz12; have := dUnhide sz19; have := dUnhide sz22; have := dUnhide sz23; have := dUnhide sz27; have := dUnhide sz34; have := dUnhide sz37; have := dUnhide sz38; have := dUnhide sz42; have := dUnhide sz49; have := dUnhide sz52; have := dUnhide sz53; have := dUnhide sz59; have := dUnhide sz62; have := dUnhide sz75; have := dUnhide sz89; have := dUnhide sz96; have := dUnhide sz102; have := dUnhide sz109; omega))
        replace X50 := dHide ((dUnhide X50).wr b113 (by have := dUnhide sz0; have := dUnhide sz1; have := dUnhide sz4; have := dUnhide sz7; have := dUnhide sz8; have := dUnhide sz9; have := dUnhide sz10; have := dUnhide sz11; have := dUnhide sz12; have := dUnhide sz19; have := dUnhide sz22; have := dUnhide sz23; have := dUnhide sz27; have := dUnhide sz34; have := dUnhide sz37; have := dUnhide sz38; have := dUnhide sz42; have := dUnhide sz49; have := dUnhide sz52; have := dUnhide sz53; have := dUnhide sz59; have := dUnhide sz62; have := dUnhide sz75; have := dUnhide sz89; have := dUnhide sz96; have := dUnhide sz102; have := dUnhide sz109; omega))
        replace B := b113.below B B.size (by have := dUnhide sz0; have := dUnhide sz1; have := dUnhide sz4; have := dUnhide sz7; have := dUnhide sz8; have := dUnhide sz9; have := dUnhide sz10; have := dUnhide sz11; have := dUnhide sz12; have := dUnhide sz19; have := dUnhide sz22; have := dUnhide sz23; have := dUnhide sz27; have := dUnhide sz34; have := dUnhide sz37; have := dUnhide sz38; have := dUnhide sz42; have := dUnhide sz49; have := dUnhide sz52; have := dUnhide sz53; have := dUnhide sz59; have := dUnhide sz62; have := dUnhide sz75; have := dUnhide sz89; have := dUnhide sz96; have := dUnhide sz102; have := dUnhide sz109; omega)
        have sz115 := dHide b113.size
        replace M114 := dHide M114
        clear b113 OG
        have k116 := (dUnhide X50).now 0 _ rfl
        have k117 := (dUnhide X50).now 1 _ rfl
        go_wp2_with fail
        refine (heldWriter_ _ R 1 _ (by omega) (by omega) (dUnhide M114).now.rd).mono ?_
        rintro e w118 ⟨rfl, b119⟩
        clear k116 k117
        have sz120 := dHide b119.size
        replace X0 := dHide ((dUnhide X0).below b119)
        replace X1 := dHide ((dUnhide X1).below b119)
        replace X6 := dHide ((dUnhide X6).below b119)
        replace OW := dHide ((dUnhide OW).below b119)
        replace X50 := dHide ((dUnhide X50).below b119)
        replace M114 := dHide ((dUnhide M114).below b119)
        replace B := belowThen B b119
        clear b119
        have hq : ¬ (((1 + cntWriter R : Nat) : Int) < 0) := by omega
        go_wp2_with fail
        have hC : ∀ W, Below w118.heap.size w118 W → W.cell? ⟨w.heap.size, 0, none⟩ = some (.slice v0a m0.1.length v0c) ∧ W.cell? ⟨w.heap.size, 1, none⟩ = some (.int .i64 m0.2) ∧ W.cell? ⟨w.heap.size + 1, 0, none⟩ = some (.int .i64 m1.epoch) ∧ W.cell? ⟨w.heap.size + 1, 1, none⟩ = some (.slice v1a m1.words.length v1c) := fun W hb =>
          ⟨(dUnhide X0).at hb 0 _ rfl, (dUnhide X0).at hb 1 _ rfl, (dUnhide X1).at hb 0 _ rfl, (dUnhide X1).at hb 1 _ rfl⟩
        have HC := dHide hC
        have hbr := Below.refl w118.heap.size w118
        obtain ⟨kd1220, kd1221, kd1222, kd1223⟩ := hC w118 hbr
        clear hC
        go_cut [19, 20] (fun sv t1 wx => ∃ (bv lo hi : Nat) (a : Option Addr) (c : Nat), sv = .pointer (some ⟨bv, 0, none⟩) ∧ t1 = .bool s1 ∧ Sits (Box bv #[.int .i64 R.epoch, .slice a R.words.length c]) bv (bv + 1) wx ∧ Sits (OwWriter lo hi (.agg #[.int .i64 R.epoch, .slice a R.words.length c]) R) lo hi wx ∧ (bv < lo ∨ hi ≤ bv) ∧ w118.heap.size ≤ bv ∧ w118.heap.size ≤ lo ∧ Below w118.heap.size w118 wx)
        case first =>
          go_region_held3 (fun W => W.cell? ⟨w.heap.size, 0, none⟩ = some (.slice v0a m0.1.length v0c) ∧ W.cell? ⟨w.heap.size, 1, none⟩ = some (.int .i64 m0.2) ∧ W.cell? ⟨w.heap.size + 1, 0, none⟩ = some (.int .i64 m1.epoch) ∧ W.cell? ⟨w.heap.size + 1, 1, none⟩ = some (.slice v1a m1.words.length v1c)) (first | exact dUnhide HC _ (below_two hb5 zz.1 _ _) | go_keep)
            (first
              | (go_at_call 32; refine (toConfig_ _ m0 _ hs0 (dUnhide A0 _ (belowThen B (by first | exact hbr.drew | exact hbr.drew.alloc hbr.size _)))).mono ?_; rintro e wq0 ⟨o0, rfl, q0, b0⟩; have hb0 := belowThen (by first | exact hbr.drew | exact hbr.drew.alloc hbr.size _) b0; obtain ⟨kd1220, kd1221, kd1222, kd1223⟩ := dUnhide HC wq0 hb0; (first | have zz := BxZ.madeD2 hbr.size b0 | have zz : BxZ wq0 w118.heap.size w118.heap.size [_, _] := BxZ.made2 hbr.size b0 | skip); have Q0 := dHide q0; obtain ⟨o0a, o0c, rfl, o0l⟩ := formConfig q0.now.rd; clear q0; (try obtain ⟨z0, y0⟩ := zz.2 0 _ rfl); (try obtain ⟨z1, y1⟩ := zz.2 1 _ rfl))
              | (go_at_call 33; refine (toWriter_ _ m1 _ hs1 (dUnhide A1 _ (belowThen B (by first | exact hb0 | exact hb0.alloc hb0.size _)))).mono ?_; rintro e wq1 ⟨o1, rfl, q1, b1⟩; have hb1 := belowThen (by first | exact hb0 | exact hb0.alloc hb0.size _) b1; obtain ⟨kd1220, kd1221, kd1222, kd1223⟩ := dUnhide HC wq1 hb1; have Q0 := dHide ((dUnhide Q0).below (by first | exact b1 | exact belowThen (ha _ _) b1)); (first | have zz := BxZ.made2 hb0.size b1 | have zz := BxZ.below zz b1 | skip); have Q1 := dHide q1; obtain ⟨o1a, o1c, rfl, o1l⟩ := formWriter q1.now.rd; clear q1; (try obtain ⟨z0, y0⟩ := zz.2 0 _ rfl); (try obtain ⟨z1, y1⟩ := zz.2 1 _ rfl))
              | (go_at_call 19; refine (dUnhide CI _ _ _ (by first | exact (dUnhide Q0).now.rd | exact RdConfig.below (dUnhide Q0).now.rd (ha _ _)) (by first | exact (dUnhide Q1).now.rd | exact RdWriter.below (dUnhide Q1).now.rd (ha _ _))).mono ?_; rintro e w5 ⟨u5, rfl, q5, b5⟩; have hb5 := belowThen (by first | exact hb1 | exact hb1.alloc hb1.size _) b5; obtain ⟨kd1220, kd1221, kd1222, kd1223⟩ := dUnhide HC w5 hb5; (try have hlo := BxZ.lt zz); (first | have zz := BxZ.made2 hb1.size b5 | have zz := BxZ.below zz b5 | skip); have Q5 := dHide q5; obtain ⟨o5a, o5c, rfl, o5l⟩ := formWriter q5.now.rd; clear q5; (try obtain ⟨z0, y0⟩ := zz.2 0 _ rfl); (try obtain ⟨z1, y1⟩ := zz.2 1 _ rfl)))
          all_goals
            go_wp2_with fail
            go_meet
            case rel => first | exact ⟨_, _, _, _, _, rfl, rfl, ((zz.put 0 _).put 1 _).bx.sits, ((dUnhide Q5).setFar (.inl (by first | exact hlo | simp)) _).setFar (.inl (by first | exact hlo | simp)) _, (.inl (by first | exact hlo | simp)), zz.1, (by have := hb1.size; first | exact this | (simp; omega)), below_two hb5 zz.1 _ _⟩ | exact ⟨_, _, _, _, _, rfl, rfl, Sits.box w5 _ _, (dUnhide Q5).below (ha _ _), .inr (Nat.le_refl _), hb5.size, hb1.size, hb5.alloc hb5.size _⟩
        case rest =>
          obtain ⟨bX123, lod122, hid122, uha, uhc, rfl, rfl, X123, OH, dd122, gd122, id122, bc⟩ := hcut
          clear kd1220 kd1221 kd1222 kd1223 HC hbr
          have sz124 := dHide bc.size
          replace X0 := dHide ((dUnhide X0).below bc)
          replace X1 := dHide ((dUnhide X1).below bc)
          replace X6 := dHide ((dUnhide X6).below bc)
          replace OW := dHide ((dUnhide OW).below bc)
          replace X50 := dHide ((dUnhide X50).below bc)
          replace M114 := dHide ((dUnhide M114).below bc)
          replace B := belowThen B bc
          have sz125 := dHide dd122
          have sz126 := dHide gd122
          have sz127 := dHide id122
          have sz128 := dHide X123.fit
          have sz129 := dHide OH.fit
          replace X123 := dHide X123
          replace OH := dHide OH
          clear bc dd122 gd122 id122
          generalize wc = w121 at *
          have k130 := (dUnhide X123).now 0 _ rfl
          have k131 := (dUnhide X123).now 1 _ rfl
          have k132 := (dUnhide X6).now 0 _ rfl
          have k133 := (dUnhide X6).now 1 _ rfl
          go_wp2_with fail
          refine (eqWriter_ _ _ _ _ (dUnhide OH).now.rd (dUnhide OW).now.rd).mono ?_
          rintro e w134 ⟨rfl, b135⟩
          clear k130 k131 k132 k133
          have sz136 := dHide b135.size
          replace X0 := dHide ((dUnhide X0).below b135)
          replace X1 := dHide ((dUnhide X1).below b135)
          replace X6 := dHide ((dUnhide X6).below b135)
          replace OW := dHide ((dUnhide OW).below b135)
          replace X50 := dHide ((dUnhide X50).below b135)
          replace M114 := dHide ((dUnhide M114).below b135)
          replace X123 := dHide ((dUnhide X123).below b135)
          replace OH := dHide ((dUnhide OH).below b135)
          replace B := belowThen B b135
          clear b135
          have k137 := (dUnhide X50).now 0 _ rfl
          have k138 := (dUnhide X50).now 1 _ rfl
          go_wp2_with fail
          refine (heldWriter_ _ R 1 _ (by omega) (by omega) (dUnhide M114).now.rd).mono ?_
          rintro e w139 ⟨rfl, b140⟩
          clear k137 k138
          have sz141 := dHide b140.size
          replace X0 := dHide ((dUnhide X0).below b140)
          replace X1 := dHide ((dUnhide X1).below b140)
          replace X6 := dHide ((dUnhide X6).below b140)
          replace OW := dHide ((dUnhide OW).below b140)
          replace X50 := dHide ((dUnhide X50).below b140)
          replace M114 := dHide ((dUnhide M114).below b140)
          replace X123 := dHide ((dUnhide X123).below b140)
          replace OH := dHide ((dUnhide OH).below b140)
          replace B := belowThen B b140
          clear b140
          clear X0 X1 X6 OW X50 M114 X123 OH
          go_wp2
          go_ret
          exact ⟨rfl, B⟩
end Go.Proofs.Ytfipenjojgflmaa
