/- FnExactMendPlan: both answers, and the law's walk (printed by tools/mkl9.py). -/
import Derived.Test.YtjbfpmackocgnaaGreatQ9P
import Derived.Test.YtjbfpmackocgnaaGreatMnSd
import Derived.Deep.RegionHeld3
import Derived.Deep.DeepCutAuto
namespace Go.Proofs.YtjbfpmackocgnaaGreat
open Go.ChangeShapes Go.WideShapes Go.ChangeAt Go.RowKit
set_option linter.unusedVariables false
theorem bothFnExactMendPlan (m0 : List Int × Int) (m1 : Mn) (m2 : List Int) (ok0 : okConfig m0) (ok1 : okMend m1) (ok2 : okIntS m2) (hs0 : sizConfig m0 ≤ 1048576) (hs1 : sizMend m1 ≤ 1048576) (hs2 : sizIntS m2 ≤ 1048576) : ∃ (R : Mn) (s1 : Bool), cntMend R ≤ 8388608 ∧ (∀ W v0 v1 v2, RdConfig v0 m0 W → RdMend v1 m1 W → RdIntS v2 m2 W → Calls Tryz.prog 17 #[v0, v1, v2] W fun e w' => ∃ u, e = .returned (.tuple #[u, .bool s1]) ∧ Sits (OwMend W.heap.size w'.heap.size u R) W.heap.size w'.heap.size w' ∧ Below W.heap.size W w') ∧ (∀ W v0 v1 v2, RdConfig v0 m0 W → RdMend v1 m1 W → RdIntS v2 m2 W → Calls Tryz.prog 16 #[v0, v1, v2] W fun e w' => ∃ u, e = .returned (.tuple #[u, .bool s1]) ∧ Sits (OwMend W.heap.size w'.heap.size u R) W.heap.size w'.heap.size w' ∧ Below W.heap.size W w') := bothMendPlan_ m0 m1 m2 ok0 ok1 ok2 hs0 hs1 hs2
set_option maxHeartbeats 4000000 in
set_option maxRecDepth 100000 in
theorem walkFnExactMendPlan (v0 v1 v2 : Value) (m0 : List Int × Int) (m1 : Mn) (m2 : List Int) (w : World) (i0 : IsConfig v0 m0 w) (i1 : IsMend v1 m1 w) (i2 : IsIntS v2 m2 w) :
    Calls Tryz.prog 7 #[v0, v1, v2] w fun r w' => r = .returned (.bool true) ∧ Below w.heap.size w w' := by
  obtain ⟨r0, ok0⟩ := i0
  obtain ⟨r1, ok1⟩ := i1
  obtain ⟨r2, ok2⟩ := i2
  have ha : ∀ (w : World) o, Below w.heap.size w (w.alloc o) := fun w o => (Below.refl _ _).alloc (Nat.le_refl _) o
  have A0 := dHide fun W (hb : Below w.heap.size w W) => r0.below hb
  have A1 := dHide fun W (hb : Below w.heap.size w W) => r1.below hb
  have A2 := dHide fun W (hb : Below w.heap.size w W) => r2.below hb
  obtain ⟨v0a, v0c, rfl, v0l⟩ := formConfig r0
  obtain ⟨v1sa, v1sc, v1ea, v1ec, v1wa, v1wc, rfl, v1l1, v1l2, v1l3⟩ := formMend r1
  obtain ⟨v2a, v2c, rfl, v2l⟩ := formIntS r2
  by_cases g2 : (1048576 : Int) < (m2.length : Int)
  · go_enter Tryz.func7, Tryz.ntmps7
    go_wp2
    go_ret
    exact ⟨rfl, belowThen (ha w _) (ha _ _)⟩
  by_cases z0 : (1048576 : Int) < (sizConfig m0 : Int)
  · have CS0 := dHide fun W (hb : Below w.heap.size w W) => szConfig_ _ m0 (1048576 : Int) (by omega) (by omega) W (dUnhide A0 W hb)
    rw [lft_no z0] at CS0
    clear z0
    go_enter Tryz.func7, Tryz.ntmps7
    go_wp2_with fail
    have B := belowThen (ha w (.cells #[.slice v0a m0.1.length v0c, .int .i64 m0.2] 51)) (ha _ (.cells #[.int .i64 m1.bye, .int .i64 m1.epoch, .slice v1sa m1.sealed.length v1sc, .slice v1ea m1.seen.length v1ec, .bool m1.planned, .slice v1wa m1.wrote.length v1wc] 54))
    have X0 := dHide ((Sits.box w #[.slice v0a m0.1.length v0c, .int .i64 m0.2] 51).below (ha _ (.cells #[.int .i64 m1.bye, .int .i64 m1.epoch, .slice v1sa m1.sealed.length v1sc, .slice v1ea m1.seen.length v1ec, .bool m1.planned, .slice v1wa m1.wrote.length v1wc] 54)))
    have X1 := Sits.box (w.alloc (.cells #[.slice v0a m0.1.length v0c, .int .i64 m0.2] 51)) #[.int .i64 m1.bye, .int .i64 m1.epoch, .slice v1sa m1.sealed.length v1sc, .slice v1ea m1.seen.length v1ec, .bool m1.planned, .slice v1wa m1.wrote.length v1wc] 54
    have e1 : (w.alloc (.cells #[.slice v0a m0.1.length v0c, .int .i64 m0.2] 51)).heap.size = w.heap.size + 1 := by simp
    rw [e1] at X1
    replace X1 := dHide X1
    have sz0 : Hid (w.heap.size + 1 + 1 = ((w.alloc (.cells #[.slice v0a m0.1.length v0c, .int .i64 m0.2] 51)).alloc (.cells #[.int .i64 m1.bye, .int .i64 m1.epoch, .slice v1sa m1.sealed.length v1sc, .slice v1ea m1.seen.length v1ec, .bool m1.planned, .slice v1wa m1.wrote.length v1wc] 54)).heap.size) := by simp [Hid]
    clear e1
    generalize (w.alloc (.cells #[.slice v0a m0.1.length v0c, .int .i64 m0.2] 51)).alloc (.cells #[.int .i64 m1.bye, .int .i64 m1.epoch, .slice v1sa m1.sealed.length v1sc, .slice v1ea m1.seen.length v1ec, .bool m1.planned, .slice v1wa m1.wrote.length v1wc] 54) = wb at *
    refine (dUnhide CS0 _ B).mono ?_
    rintro e ws0 ⟨rfl, bs⟩
    have sz1 := dHide bs.size
    replace X0 := dHide ((dUnhide X0).below bs)
    replace X1 := dHide ((dUnhide X1).below bs)
    replace B := belowThen B bs
    clear bs CS0
    clear X0 X1
    go_wp2
    go_ret
    exact ⟨rfl, B⟩
  by_cases z1 : ((1048576 : Int) - (sizConfig m0 : Int)) < (sizMend m1 : Int)
  · have CS0 := dHide fun W (hb : Below w.heap.size w W) => szConfig_ _ m0 (1048576 : Int) (by omega) (by omega) W (dUnhide A0 W hb)
    rw [lft_yes z0] at CS0
    have z0' : ¬ ((1048576 : Int) - (sizConfig m0 : Int) < 0) := by omega
    have CS1 := dHide fun W (hb : Below w.heap.size w W) => szMend_ _ m1 ((1048576 : Int) - (sizConfig m0 : Int)) (by omega) (by omega) (txtM_of ok1) W (dUnhide A1 W hb)
    rw [lft_no z1] at CS1
    clear z0 z1
    go_enter Tryz.func7, Tryz.ntmps7
    go_wp2_with fail
    have B := belowThen (ha w (.cells #[.slice v0a m0.1.length v0c, .int .i64 m0.2] 51)) (ha _ (.cells #[.int .i64 m1.bye, .int .i64 m1.epoch, .slice v1sa m1.sealed.length v1sc, .slice v1ea m1.seen.length v1ec, .bool m1.planned, .slice v1wa m1.wrote.length v1wc] 54))
    have X0 := dHide ((Sits.box w #[.slice v0a m0.1.length v0c, .int .i64 m0.2] 51).below (ha _ (.cells #[.int .i64 m1.bye, .int .i64 m1.epoch, .slice v1sa m1.sealed.length v1sc, .slice v1ea m1.seen.length v1ec, .bool m1.planned, .slice v1wa m1.wrote.length v1wc] 54)))
    have X1 := Sits.box (w.alloc (.cells #[.slice v0a m0.1.length v0c, .int .i64 m0.2] 51)) #[.int .i64 m1.bye, .int .i64 m1.epoch, .slice v1sa m1.sealed.length v1sc, .slice v1ea m1.seen.length v1ec, .bool m1.planned, .slice v1wa m1.wrote.length v1wc] 54
    have e1 : (w.alloc (.cells #[.slice v0a m0.1.length v0c, .int .i64 m0.2] 51)).heap.size = w.heap.size + 1 := by simp
    rw [e1] at X1
    replace X1 := dHide X1
    have sz0 : Hid (w.heap.size + 1 + 1 = ((w.alloc (.cells #[.slice v0a m0.1.length v0c, .int .i64 m0.2] 51)).alloc (.cells #[.int .i64 m1.bye, .int .i64 m1.epoch, .slice v1sa m1.sealed.length v1sc, .slice v1ea m1.seen.length v1ec, .bool m1.planned, .slice v1wa m1.wrote.length v1wc] 54)).heap.size) := by simp [Hid]
    clear e1
    generalize (w.alloc (.cells #[.slice v0a m0.1.length v0c, .int .i64 m0.2] 51)).alloc (.cells #[.int .i64 m1.bye, .int .i64 m1.epoch, .slice v1sa m1.sealed.length v1sc, .slice v1ea m1.seen.length v1ec, .bool m1.planned, .slice v1wa m1.wrote.length v1wc] 54) = wb at *
    refine (dUnhide CS0 _ B).mono ?_
    rintro e ws0 ⟨rfl, bs⟩
    have sz1 := dHide bs.size
    replace X0 := dHide ((dUnhide X0).below bs)
    replace X1 := dHide ((dUnhide X1).below bs)
    replace B := belowThen B bs
    clear bs CS0
    have k2 := (dUnhide X1).now 0 _ rfl
    have k3 := (dUnhide X1).now 1 _ rfl
    have k4 := (dUnhide X1).now 2 _ rfl
    have k5 := (dUnhide X1).now 3 _ rfl
    have k6 := (dUnhide X1).now 4 _ rfl
    have k7 := (dUnhide X1).now 5 _ rfl
    go_wp2_with fail
    refine (dUnhide CS1 _ B).mono ?_
    rintro e ws1 ⟨rfl, bs⟩
    have sz8 := dHide bs.size
    replace X0 := dHide ((dUnhide X0).below bs)
    replace X1 := dHide ((dUnhide X1).below bs)
    replace B := belowThen B bs
    clear bs CS1 k2 k3 k4 k5 k6 k7
    clear X0 X1
    go_wp2
    go_ret
    exact ⟨rfl, B⟩
  have hs0 : sizConfig m0 ≤ 1048576 := by omega
  have hs1 : sizMend m1 ≤ 1048576 := by omega
  have hs2 : sizIntS m2 ≤ 1048576 := by unfold sizIntS; omega
  have hc0 := cntConfig_le hs0
  have hc1 := cntMend_le hs1
  have hc2 := cntIntS_le hs2
  obtain ⟨R, s1, hR, p1, p2⟩ := bothFnExactMendPlan m0 m1 m2 ok0 ok1 ok2 hs0 hs1 hs2
  have CP := dHide p1
  have CI := dHide p2
  have CS0 := dHide fun W (hb : Below w.heap.size w W) => szConfig_ _ m0 (1048576 : Int) (by omega) (by omega) W (dUnhide A0 W hb)
  rw [lft_yes z0] at CS0
  have z0' : ¬ ((1048576 : Int) - (sizConfig m0 : Int) < 0) := by omega
  have CS1 := dHide fun W (hb : Below w.heap.size w W) => szMend_ _ m1 ((1048576 : Int) - (sizConfig m0 : Int)) (by omega) (by omega) (txtM_of ok1) W (dUnhide A1 W hb)
  rw [lft_yes z1] at CS1
  have z1' : ¬ (((1048576 : Int) - (sizConfig m0 : Int)) - (sizMend m1 : Int) < 0) := by omega
  clear p1 p2 r0 ok0 r1 ok1 r2 ok2 
  go_enter Tryz.func7, Tryz.ntmps7
  go_wp2_with fail
  have B := belowThen (ha w (.cells #[.slice v0a m0.1.length v0c, .int .i64 m0.2] 51)) (ha _ (.cells #[.int .i64 m1.bye, .int .i64 m1.epoch, .slice v1sa m1.sealed.length v1sc, .slice v1ea m1.seen.length v1ec, .bool m1.planned, .slice v1wa m1.wrote.length v1wc] 54))
  have X0 := dHide ((Sits.box w #[.slice v0a m0.1.length v0c, .int .i64 m0.2] 51).below (ha _ (.cells #[.int .i64 m1.bye, .int .i64 m1.epoch, .slice v1sa m1.sealed.length v1sc, .slice v1ea m1.seen.length v1ec, .bool m1.planned, .slice v1wa m1.wrote.length v1wc] 54)))
  have X1 := Sits.box (w.alloc (.cells #[.slice v0a m0.1.length v0c, .int .i64 m0.2] 51)) #[.int .i64 m1.bye, .int .i64 m1.epoch, .slice v1sa m1.sealed.length v1sc, .slice v1ea m1.seen.length v1ec, .bool m1.planned, .slice v1wa m1.wrote.length v1wc] 54
  have e1 : (w.alloc (.cells #[.slice v0a m0.1.length v0c, .int .i64 m0.2] 51)).heap.size = w.heap.size + 1 := by simp
  rw [e1] at X1
  replace X1 := dHide X1
  have sz0 : Hid (w.heap.size + 1 + 1 = ((w.alloc (.cells #[.slice v0a m0.1.length v0c, .int .i64 m0.2] 51)).alloc (.cells #[.int .i64 m1.bye, .int .i64 m1.epoch, .slice v1sa m1.sealed.length v1sc, .slice v1ea m1.seen.length v1ec, .bool m1.planned, .slice v1wa m1.wrote.length v1wc] 54)).heap.size) := by simp [Hid]
  clear e1
  generalize (w.alloc (.cells #[.slice v0a m0.1.length v0c, .int .i64 m0.2] 51)).alloc (.cells #[.int .i64 m1.bye, .int .i64 m1.epoch, .slice v1sa m1.sealed.length v1sc, .slice v1ea m1.seen.length v1ec, .bool m1.planned, .slice v1wa m1.wrote.length v1wc] 54) = wb at *
  refine (dUnhide CS0 _ B).mono ?_
  rintro e ws0 ⟨rfl, bs⟩
  have sz1 := dHide bs.size
  replace X0 := dHide ((dUnhide X0).below bs)
  replace X1 := dHide ((dUnhide X1).below bs)
  replace B := belowThen B bs
  clear bs CS0
  have k2 := (dUnhide X1).now 0 _ rfl
  have k3 := (dUnhide X1).now 1 _ rfl
  have k4 := (dUnhide X1).now 2 _ rfl
  have k5 := (dUnhide X1).now 3 _ rfl
  have k6 := (dUnhide X1).now 4 _ rfl
  have k7 := (dUnhide X1).now 5 _ rfl
  go_wp2_with fail
  refine (dUnhide CS1 _ B).mono ?_
  rintro e ws1 ⟨rfl, bs⟩
  have sz8 := dHide bs.size
  replace X0 := dHide ((dUnhide X0).below bs)
  replace X1 := dHide ((dUnhide X1).below bs)
  replace B := belowThen B bs
  clear bs CS1 k2 k3 k4 k5 k6 k7
  go_wp2_with fail
  have hC : ∀ W, Below ws1.heap.size ws1 W → W.cell? ⟨w.heap.size, 0, none⟩ = some (.slice v0a m0.1.length v0c) ∧ W.cell? ⟨w.heap.size, 1, none⟩ = some (.int .i64 m0.2) ∧ W.cell? ⟨w.heap.size + 1, 0, none⟩ = some (.int .i64 m1.bye) ∧ W.cell? ⟨w.heap.size + 1, 1, none⟩ = some (.int .i64 m1.epoch) ∧ W.cell? ⟨w.heap.size + 1, 2, none⟩ = some (.slice v1sa m1.sealed.length v1sc) ∧ W.cell? ⟨w.heap.size + 1, 3, none⟩ = some (.slice v1ea m1.seen.length v1ec) ∧ W.cell? ⟨w.heap.size + 1, 4, none⟩ = some (.bool m1.planned) ∧ W.cell? ⟨w.heap.size + 1, 5, none⟩ = some (.slice v1wa m1.wrote.length v1wc) := fun W hb =>
    ⟨(dUnhide X0).at hb 0 _ rfl, (dUnhide X0).at hb 1 _ rfl, (dUnhide X1).at hb 0 _ rfl, (dUnhide X1).at hb 1 _ rfl, (dUnhide X1).at hb 2 _ rfl, (dUnhide X1).at hb 3 _ rfl, (dUnhide X1).at hb 4 _ rfl, (dUnhide X1).at hb 5 _ rfl⟩
  have HC := dHide hC
  have hbr := Below.refl ws1.heap.size ws1
  obtain ⟨kd90, kd91, kd92, kd93, kd94, kd95, kd96, kd97⟩ := hC ws1 hbr
  clear hC
  go_cut [8, 9] (fun sv t1 wx => ∃ (bv lo hi : Nat) (sa : Option Addr) (sc : Nat) (ea : Option Addr) (ec : Nat) (wa : Option Addr) (wc : Nat), sv = .pointer (some ⟨bv, 0, none⟩) ∧ t1 = .bool s1 ∧ Sits (Box bv #[.int .i64 R.bye, .int .i64 R.epoch, .slice sa R.sealed.length sc, .slice ea R.seen.length ec, .bool R.planned, .slice wa R.wrote.length wc]) bv (bv + 1) wx ∧ Sits (OwMend lo hi (.agg #[.int .i64 R.bye, .int .i64 R.epoch, .slice sa R.sealed.length sc, .slice ea R.seen.length ec, .bool R.planned, .slice wa R.wrote.length wc]) R) lo hi wx ∧ (bv < lo ∨ hi ≤ bv) ∧ ws1.heap.size ≤ bv ∧ ws1.heap.size ≤ lo ∧ Below ws1.heap.size ws1 wx)
  case first =>
    clear kd90 kd91 kd92 kd93 kd94 kd95 kd96 kd97
    have hcur := hbr.drew
    refine wp_region_noPanic ?_
    refine wp_region_held_drew (S := fun W => W.cell? ⟨w.heap.size, 0, none⟩ = some (.slice v0a m0.1.length v0c) ∧ W.cell? ⟨w.heap.size, 1, none⟩ = some (.int .i64 m0.2) ∧ W.cell? ⟨w.heap.size + 1, 0, none⟩ = some (.int .i64 m1.bye) ∧ W.cell? ⟨w.heap.size + 1, 1, none⟩ = some (.int .i64 m1.epoch) ∧ W.cell? ⟨w.heap.size + 1, 2, none⟩ = some (.slice v1sa m1.sealed.length v1sc) ∧ W.cell? ⟨w.heap.size + 1, 3, none⟩ = some (.slice v1ea m1.seen.length v1ec) ∧ W.cell? ⟨w.heap.size + 1, 4, none⟩ = some (.bool m1.planned) ∧ W.cell? ⟨w.heap.size + 1, 5, none⟩ = some (.slice v1wa m1.wrote.length v1wc)) (by kernel_rfl) (by first | exact dUnhide HC _ hcur | exact dUnhide HC _ hst | exact dUnhide HC _ hbr | fail) (fun hHeld => ?_)
    clear hbr
    generalize ws1.drew = wd at *
    refine wpAnyH_take (i := 0) (oi := { dst := some 34, op := Op.load 51 (Operand.tmp 3), type := 51, pos := "exact.go:3339", after := #[], guard := none }) (v := ?_) rfl (by kernel_rfl) (by kernel_rfl) (by kernel_rfl) (fun _ _ _ h => h) (Or.inl ⟨by rfl, ?_⟩) (by assumption) ?_
    rotate_left 1
    · intro w hSw
      (try dsimp only at hSw)
      first | (go_simp; done) | (go_simp; with_reducible rfl)
    try simp only [Act.put, List.setIfInBounds_toArray, List.set_cons_zero, List.set_cons_succ]
    refine wpAnyH_take (i := 2) (oi := { dst := some 36, op := Op.load 54 (Operand.tmp 4), type := 54, pos := "exact.go:3339", after := #[], guard := none }) (v := ?_) rfl (by kernel_rfl) (by kernel_rfl) (by kernel_rfl) (fun _ _ _ h => h) (Or.inl ⟨by rfl, ?_⟩) (by assumption) ?_
    rotate_left 1
    · intro w hSw
      (try dsimp only at hSw)
      first | (go_simp; done) | (go_simp; with_reducible rfl)
    try simp only [Act.put, List.setIfInBounds_toArray, List.set_cons_zero, List.set_cons_succ]
    refine wpAnyH_take (i := 4) (oi := { dst := some 38, op := Op.move (Operand.tmp 2), type := 24, pos := "exact.go:3339", after := #[], guard := none }) (v := ?_) rfl (by kernel_rfl) (by kernel_rfl) (by kernel_rfl) (fun _ _ _ h => h) (Or.inl ⟨by rfl, ?_⟩) (by assumption) ?_
    rotate_left 1
    · intro w hSw
      (try dsimp only at hSw)
      first | (go_simp; done) | (go_simp; with_reducible rfl)
    try simp only [Act.put, List.setIfInBounds_toArray, List.set_cons_zero, List.set_cons_succ]
    refine wpAnyH_ready (rs := [1, 10]) (by kernel_rfl) (by simp) ?_
    refine AllReadyH.cons (o := { dst := some 35, op := Op.call { callee := Callee.value (Operand.func 30), args := #[Operand.tmp 34], argTypes := #[51] }, type := 26, pos := "exact.go:3339", after := #[{ on := 0, ground := Ground.data }], guard := none }) rfl (fun K hK => ?_) (AllReadyH.cons (o := { dst := some 8, op := Op.alloc 30, type := 0, pos := "exact.go:3339", after := #[], guard := none }) rfl (fun K hK => ?_) AllReadyH.nil)
    · go_simp
      refine (toConfig_ _ m0 _ hs0 (dUnhide A0 _ (belowThen B hcur))).mono ?_
      rintro e wq0 ⟨o0, rfl, q0, b0⟩
      replace hcur := belowThen hcur b0
      (try replace zz := BxZ.below zz b0)
      have Q0 := dHide q0
      obtain ⟨o0a, o0c, rfl, o0l⟩ := formConfig q0.now.rd
      clear q0 b0
      (try go_wp2_with fail)
      refine hK.out _ _ (by first | exact dUnhide HC _ hcur | exact dUnhide HC _ hst | exact dUnhide HC _ hbr | fail) (fun hHeld => ?_)
      clear hK K
      try simp only [Act.put, List.setIfInBounds_toArray, List.set_cons_zero, List.set_cons_succ]
      refine wpAnyH_ready (rs := [3, 10]) (by kernel_rfl) (by simp) ?_
      refine AllReadyH.cons (o := { dst := some 37, op := Op.call { callee := Callee.value (Operand.func 31), args := #[Operand.tmp 36], argTypes := #[54] }, type := 30, pos := "exact.go:3339", after := #[{ on := 2, ground := Ground.data }, { on := 1, ground := Ground.chain }], guard := none }) rfl (fun K hK => ?_) (AllReadyH.cons (o := { dst := some 8, op := Op.alloc 30, type := 0, pos := "exact.go:3339", after := #[], guard := none }) rfl (fun K hK => ?_) AllReadyH.nil)
      · go_simp
        refine (toMend_ _ m1 _ hs1 (dUnhide A1 _ (belowThen B hcur))).mono ?_
        rintro e wq1 ⟨o1, rfl, q1, b1⟩
        replace hcur := belowThen hcur b1
        (try replace zz := BxZ.below zz b1)
        replace Q0 := dHide ((dUnhide Q0).below b1)
        have Q1 := dHide q1
        obtain ⟨o1sa, o1sc, o1ea, o1ec, o1wa, o1wc, rfl, o1l1, o1l2, o1l3⟩ := formMend q1.now.rd
        clear q1 b1
        (try go_wp2_with fail)
        refine hK.out _ _ (by first | exact dUnhide HC _ hcur | exact dUnhide HC _ hst | exact dUnhide HC _ hbr | fail) (fun hHeld => ?_)
        clear hK K
        try simp only [Act.put, List.setIfInBounds_toArray, List.set_cons_zero, List.set_cons_succ]
        refine wpAnyH_ready (rs := [5, 10]) (by kernel_rfl) (by simp) ?_
        refine AllReadyH.cons (o := { dst := some 39, op := Op.call { callee := Callee.value (Operand.func 40), args := #[Operand.tmp 38], argTypes := #[24] }, type := 24, pos := "exact.go:3339", after := #[{ on := 4, ground := Ground.data }, { on := 3, ground := Ground.chain }], guard := none }) rfl (fun K hK => ?_) (AllReadyH.cons (o := { dst := some 8, op := Op.alloc 30, type := 0, pos := "exact.go:3339", after := #[], guard := none }) rfl (fun K hK => ?_) AllReadyH.nil)
        · go_simp
          refine (toIntS_ _ m2 _ hs2 (dUnhide A2 _ (belowThen B hcur))).mono ?_
          rintro e wq2 ⟨o2, rfl, q2, b2⟩
          replace hcur := belowThen hcur b2
          (try replace zz := BxZ.below zz b2)
          replace Q0 := dHide ((dUnhide Q0).below b2)
          replace Q1 := dHide ((dUnhide Q1).below b2)
          have Q2 := dHide q2
          obtain ⟨o2a, o2c, rfl, o2l⟩ := formIntS q2.now.rd
          clear q2 b2
          (try go_wp2_with fail)
          refine hK.out _ _ (by first | exact dUnhide HC _ hcur | exact dUnhide HC _ hst | exact dUnhide HC _ hbr | fail) (fun hHeld => ?_)
          clear hK K
          try simp only [Act.put, List.setIfInBounds_toArray, List.set_cons_zero, List.set_cons_succ]
          refine wpAnyH_ready (rs := [6, 10]) (by kernel_rfl) (by simp) ?_
          refine AllReadyH.cons (o := { dst := some 40, op := Op.call { callee := Callee.value (Operand.func 17), args := #[Operand.tmp 35, Operand.tmp 37, Operand.tmp 39], argTypes := #[26, 30, 24] }, type := 33, pos := "exact.go:3339", after := #[{ on := 1, ground := Ground.data }, { on := 3, ground := Ground.data }, { on := 5, ground := Ground.data }, { on := 5, ground := Ground.chain }], guard := none }) rfl (fun K hK => ?_) (AllReadyH.cons (o := { dst := some 8, op := Op.alloc 30, type := 0, pos := "exact.go:3339", after := #[], guard := none }) rfl (fun K hK => ?_) AllReadyH.nil)
          · go_simp
            (try have hlo := BxZ.lt zz)
            have hcz := hcur.size
            refine (dUnhide CP _ _ _ _ (dUnhide Q0).now.rd (dUnhide Q1).now.rd (dUnhide Q2).now.rd).mono ?_
            rintro e w5 ⟨u5, rfl, q5, b5⟩
            replace hcur := belowThen hcur b5
            (try replace zz := BxZ.below zz b5)
            have Q5 := dHide q5
            obtain ⟨o5sa, o5sc, o5ea, o5ec, o5wa, o5wc, rfl, o5l1, o5l2, o5l3⟩ := formMend q5.now.rd
            clear q5 b5 Q0 Q1 Q2
            (try go_wp2_with fail)
            refine hK.out _ _ (by first | exact dUnhide HC _ hcur | exact dUnhide HC _ hst | exact dUnhide HC _ hbr | fail) (fun hHeld => ?_)
            clear hK K
            try simp only [Act.put, List.setIfInBounds_toArray, List.set_cons_zero, List.set_cons_succ]
            refine wpAnyH_take (i := 7) (oi := { dst := some 33, op := Op.move (Operand.tmp 40), type := 33, pos := "exact.go:3339", after := #[{ on := 6, ground := Ground.data }], guard := none }) (v := ?_) rfl (by kernel_rfl) (by kernel_rfl) (by kernel_rfl) (fun _ _ _ h => h) (Or.inl ⟨by rfl, ?_⟩) (by assumption) ?_
            rotate_left 1
            · intro w hSw
              (try dsimp only at hSw)
              first | (go_simp; done) | (go_simp; with_reducible rfl)
            try simp only [Act.put, List.setIfInBounds_toArray, List.set_cons_zero, List.set_cons_succ]
            refine wpAnyH_take (i := 8) (oi := { dst := some 41, op := Op.extract (Operand.tmp 33) 0, type := 30, pos := "exact.go:3339", after := #[{ on := 7, ground := Ground.data }], guard := none }) (v := ?_) rfl (by kernel_rfl) (by kernel_rfl) (by kernel_rfl) (fun _ _ _ h => h) (Or.inl ⟨by rfl, ?_⟩) (by assumption) ?_
            rotate_left 1
            · intro w hSw
              (try dsimp only at hSw)
              first | (go_simp; done) | (go_simp; with_reducible rfl)
            try simp only [Act.put, List.setIfInBounds_toArray, List.set_cons_zero, List.set_cons_succ]
            refine wpAnyH_take (i := 9) (oi := { dst := some 42, op := Op.extract (Operand.tmp 33) 1, type := 4, pos := "exact.go:3339", after := #[{ on := 7, ground := Ground.data }, { on := 11, ground := Ground.gcOnly Departure.lateStores }], guard := none }) (v := ?_) rfl (by kernel_rfl) (by kernel_rfl) (by kernel_rfl) (fun _ _ _ h => h) (Or.inl ⟨by rfl, ?_⟩) (by assumption) ?_
            rotate_left 1
            · intro w hSw
              (try dsimp only at hSw)
              first | (go_simp; done) | (go_simp; with_reducible rfl)
            try simp only [Act.put, List.setIfInBounds_toArray, List.set_cons_zero, List.set_cons_succ]
            refine wpAnyH_ready (rs := [10]) (by kernel_rfl) (by simp) ?_
            refine AllReadyH.cons (o := { dst := some 8, op := Op.alloc 30, type := 0, pos := "exact.go:3339", after := #[], guard := none }) rfl (fun K hK => ?_) AllReadyH.nil
            go_simp
            have zz := BxZ.new (B := ws1.heap.size) _ [.int .i64 0, .int .i64 0, .slice none 0 0, .slice none 0 0, .bool false, .slice none 0 0] 30 hcur.size
            (try replace Q0 := dHide ((dUnhide Q0).below (ha _ (.cells #[.int .i64 0, .int .i64 0, .slice none 0 0, .slice none 0 0, .bool false, .slice none 0 0] 30))))
            (try replace Q1 := dHide ((dUnhide Q1).below (ha _ (.cells #[.int .i64 0, .int .i64 0, .slice none 0 0, .slice none 0 0, .bool false, .slice none 0 0] 30))))
            (try replace Q2 := dHide ((dUnhide Q2).below (ha _ (.cells #[.int .i64 0, .int .i64 0, .slice none 0 0, .slice none 0 0, .bool false, .slice none 0 0] 30))))
            (try replace Q5 := dHide ((dUnhide Q5).below (ha _ (.cells #[.int .i64 0, .int .i64 0, .slice none 0 0, .slice none 0 0, .bool false, .slice none 0 0] 30))))
            replace hcur := hcur.alloc hcur.size (.cells #[.int .i64 0, .int .i64 0, .slice none 0 0, .slice none 0 0, .bool false, .slice none 0 0] 30)
            first | generalize w5.alloc (.cells #[.int .i64 0, .int .i64 0, .slice none 0 0, .slice none 0 0, .bool false, .slice none 0 0] 30) = wa at * | generalize wq2.alloc (.cells #[.int .i64 0, .int .i64 0, .slice none 0 0, .slice none 0 0, .bool false, .slice none 0 0] 30) = wa at * | generalize wq1.alloc (.cells #[.int .i64 0, .int .i64 0, .slice none 0 0, .slice none 0 0, .bool false, .slice none 0 0] 30) = wa at * | generalize wq0.alloc (.cells #[.int .i64 0, .int .i64 0, .slice none 0 0, .slice none 0 0, .bool false, .slice none 0 0] 30) = wa at * | generalize wd.alloc (.cells #[.int .i64 0, .int .i64 0, .slice none 0 0, .slice none 0 0, .bool false, .slice none 0 0] 30) = wa at * | fail
            refine hK.out _ _ (by first | exact dUnhide HC _ hcur | exact dUnhide HC _ hst | exact dUnhide HC _ hbr | fail) (fun hHeld => ?_)
            clear hK K
            try simp only [Act.put, List.setIfInBounds_toArray, List.set_cons_zero, List.set_cons_succ]
            refine wpAnyH_ready (rs := [11]) (by kernel_rfl) (by simp) ?_
            refine AllReadyH.cons (o := { dst := none, op := Op.store 30 (Operand.tmp 8) (Operand.tmp 41), type := 0, pos := "exact.go:3339", after := #[{ on := 10, ground := Ground.data }, { on := 8, ground := Ground.data }, { on := 6, ground := Ground.chain }, { on := 0, ground := Ground.phase }, { on := 1, ground := Ground.phase }, { on := 2, ground := Ground.phase }, { on := 3, ground := Ground.phase }, { on := 4, ground := Ground.phase }, { on := 5, ground := Ground.phase }, { on := 6, ground := Ground.phase }, { on := 7, ground := Ground.phase }, { on := 8, ground := Ground.phase }, { on := 9, ground := Ground.textOnly Departure.lateStores }, { on := 10, ground := Ground.phase }], guard := none }) rfl (fun K hK => ?_) AllReadyH.nil
            obtain ⟨z0, y0⟩ := zz.2 0 _ rfl
            obtain ⟨z1, y1⟩ := zz.2 1 _ rfl
            obtain ⟨z2, y2⟩ := zz.2 2 _ rfl
            obtain ⟨z3, y3⟩ := zz.2 3 _ rfl
            obtain ⟨z4, y4⟩ := zz.2 4 _ rfl
            obtain ⟨z5, y5⟩ := zz.2 5 _ rfl
            go_simp
            have hst := below_six hcur zz.1 (.int .i64 R.bye) (.int .i64 R.epoch) (.slice o5sa R.sealed.length o5sc) (.slice o5ea R.seen.length o5ec) (.bool R.planned) (.slice o5wa R.wrote.length o5wc)
            clear hcur z0 y0 z1 y1 z2 y2 z3 y3 z4 y4 z5 y5
            refine hK.out _ _ (by first | exact dUnhide HC _ hcur | exact dUnhide HC _ hst | exact dUnhide HC _ hbr | fail) (fun hHeld => ?_)
            clear hK K
            try simp only [Act.put, List.setIfInBounds_toArray, List.set_cons_zero, List.set_cons_succ]
            refine wpAnyH_take (i := 12) (oi := { dst := some 9, op := Op.assign (Operand.tmp 42), type := 4, pos := "exact.go:3339", after := #[{ on := 9, ground := Ground.data }, { on := 11, ground := Ground.chain }, { on := 0, ground := Ground.phase }, { on := 1, ground := Ground.phase }, { on := 2, ground := Ground.phase }, { on := 3, ground := Ground.phase }, { on := 4, ground := Ground.phase }, { on := 5, ground := Ground.phase }, { on := 6, ground := Ground.phase }, { on := 7, ground := Ground.phase }, { on := 8, ground := Ground.phase }, { on := 9, ground := Ground.phase }, { on := 10, ground := Ground.phase }, { on := 11, ground := Ground.phase }], guard := none }) (v := ?_) rfl (by kernel_rfl) (by kernel_rfl) (by kernel_rfl) (fun _ _ _ h => h) (Or.inl ⟨by rfl, ?_⟩) (by assumption) ?_
            rotate_left 1
            · intro w hSw
              (try dsimp only at hSw)
              first | (go_simp; done) | (go_simp; with_reducible rfl)
            try simp only [Act.put, List.setIfInBounds_toArray, List.set_cons_zero, List.set_cons_succ]
            refine wpAnyH_done (by kernel_rfl) ?_ _
            refine NoPanic.normal ?_
            go_wp2_with fail
            go_meet
            case rel => first | exact ⟨_, _, _, _, _, _, _, _, _, rfl, rfl, ((((((zz.put 0 (.int .i64 R.bye)).put 1 (.int .i64 R.epoch)).put 2 (.slice o5sa R.sealed.length o5sc)).put 3 (.slice o5ea R.seen.length o5ec)).put 4 (.bool R.planned)).put 5 (.slice o5wa R.wrote.length o5wc)).bx.sits, ((((((dUnhide Q5).setFar (.inl hlo) (.int .i64 R.bye)).setFar (.inl hlo) (.int .i64 R.epoch)).setFar (.inl hlo) (.slice o5sa R.sealed.length o5sc)).setFar (.inl hlo) (.slice o5ea R.seen.length o5ec)).setFar (.inl hlo) (.bool R.planned)).setFar (.inl hlo) (.slice o5wa R.wrote.length o5wc), (.inl hlo), zz.1, hcz, hst⟩ | exact ⟨_, _, _, _, _, _, _, _, _, rfl, rfl, ((((((zz.put 0 (.int .i64 R.bye)).put 1 (.int .i64 R.epoch)).put 2 (.slice o5sa R.sealed.length o5sc)).put 3 (.slice o5ea R.seen.length o5ec)).put 4 (.bool R.planned)).put 5 (.slice o5wa R.wrote.length o5wc)).bx.sits, ((((((dUnhide Q5).setFar (.inr (Nat.le_refl _)) (.int .i64 R.bye)).setFar (.inr (Nat.le_refl _)) (.int .i64 R.epoch)).setFar (.inr (Nat.le_refl _)) (.slice o5sa R.sealed.length o5sc)).setFar (.inr (Nat.le_refl _)) (.slice o5ea R.seen.length o5ec)).setFar (.inr (Nat.le_refl _)) (.bool R.planned)).setFar (.inr (Nat.le_refl _)) (.slice o5wa R.wrote.length o5wc), (.inr (Nat.le_refl _)), zz.1, hcz, hst⟩
          · go_simp
            have zz := BxZ.new (B := ws1.heap.size) _ [.int .i64 0, .int .i64 0, .slice none 0 0, .slice none 0 0, .bool false, .slice none 0 0] 30 hcur.size
            (try replace Q0 := dHide ((dUnhide Q0).below (ha _ (.cells #[.int .i64 0, .int .i64 0, .slice none 0 0, .slice none 0 0, .bool false, .slice none 0 0] 30))))
            (try replace Q1 := dHide ((dUnhide Q1).below (ha _ (.cells #[.int .i64 0, .int .i64 0, .slice none 0 0, .slice none 0 0, .bool false, .slice none 0 0] 30))))
            (try replace Q2 := dHide ((dUnhide Q2).below (ha _ (.cells #[.int .i64 0, .int .i64 0, .slice none 0 0, .slice none 0 0, .bool false, .slice none 0 0] 30))))
            (try replace Q5 := dHide ((dUnhide Q5).below (ha _ (.cells #[.int .i64 0, .int .i64 0, .slice none 0 0, .slice none 0 0, .bool false, .slice none 0 0] 30))))
            replace hcur := hcur.alloc hcur.size (.cells #[.int .i64 0, .int .i64 0, .slice none 0 0, .slice none 0 0, .bool false, .slice none 0 0] 30)
            first | generalize w5.alloc (.cells #[.int .i64 0, .int .i64 0, .slice none 0 0, .slice none 0 0, .bool false, .slice none 0 0] 30) = wa at * | generalize wq2.alloc (.cells #[.int .i64 0, .int .i64 0, .slice none 0 0, .slice none 0 0, .bool false, .slice none 0 0] 30) = wa at * | generalize wq1.alloc (.cells #[.int .i64 0, .int .i64 0, .slice none 0 0, .slice none 0 0, .bool false, .slice none 0 0] 30) = wa at * | generalize wq0.alloc (.cells #[.int .i64 0, .int .i64 0, .slice none 0 0, .slice none 0 0, .bool false, .slice none 0 0] 30) = wa at * | generalize wd.alloc (.cells #[.int .i64 0, .int .i64 0, .slice none 0 0, .slice none 0 0, .bool false, .slice none 0 0] 30) = wa at * | fail
            refine hK.out _ _ (by first | exact dUnhide HC _ hcur | exact dUnhide HC _ hst | exact dUnhide HC _ hbr | fail) (fun hHeld => ?_)
            clear hK K
            try simp only [Act.put, List.setIfInBounds_toArray, List.set_cons_zero, List.set_cons_succ]
            refine wpAnyH_ready (rs := [6]) (by kernel_rfl) (by simp) ?_
            refine AllReadyH.cons (o := { dst := some 40, op := Op.call { callee := Callee.value (Operand.func 17), args := #[Operand.tmp 35, Operand.tmp 37, Operand.tmp 39], argTypes := #[26, 30, 24] }, type := 33, pos := "exact.go:3339", after := #[{ on := 1, ground := Ground.data }, { on := 3, ground := Ground.data }, { on := 5, ground := Ground.data }, { on := 5, ground := Ground.chain }], guard := none }) rfl (fun K hK => ?_) AllReadyH.nil
            go_simp
            (try have hlo := BxZ.lt zz)
            have hcz := hcur.size
            refine (dUnhide CP _ _ _ _ (dUnhide Q0).now.rd (dUnhide Q1).now.rd (dUnhide Q2).now.rd).mono ?_
            rintro e w5 ⟨u5, rfl, q5, b5⟩
            replace hcur := belowThen hcur b5
            (try replace zz := BxZ.below zz b5)
            have Q5 := dHide q5
            obtain ⟨o5sa, o5sc, o5ea, o5ec, o5wa, o5wc, rfl, o5l1, o5l2, o5l3⟩ := formMend q5.now.rd
            clear q5 b5 Q0 Q1 Q2
            (try go_wp2_with fail)
            refine hK.out _ _ (by first | exact dUnhide HC _ hcur | exact dUnhide HC _ hst | exact dUnhide HC _ hbr | fail) (fun hHeld => ?_)
            clear hK K
            try simp only [Act.put, List.setIfInBounds_toArray, List.set_cons_zero, List.set_cons_succ]
            refine wpAnyH_take (i := 7) (oi := { dst := some 33, op := Op.move (Operand.tmp 40), type := 33, pos := "exact.go:3339", after := #[{ on := 6, ground := Ground.data }], guard := none }) (v := ?_) rfl (by kernel_rfl) (by kernel_rfl) (by kernel_rfl) (fun _ _ _ h => h) (Or.inl ⟨by rfl, ?_⟩) (by assumption) ?_
            rotate_left 1
            · intro w hSw
              (try dsimp only at hSw)
              first | (go_simp; done) | (go_simp; with_reducible rfl)
            try simp only [Act.put, List.setIfInBounds_toArray, List.set_cons_zero, List.set_cons_succ]
            refine wpAnyH_take (i := 8) (oi := { dst := some 41, op := Op.extract (Operand.tmp 33) 0, type := 30, pos := "exact.go:3339", after := #[{ on := 7, ground := Ground.data }], guard := none }) (v := ?_) rfl (by kernel_rfl) (by kernel_rfl) (by kernel_rfl) (fun _ _ _ h => h) (Or.inl ⟨by rfl, ?_⟩) (by assumption) ?_
            rotate_left 1
            · intro w hSw
              (try dsimp only at hSw)
              first | (go_simp; done) | (go_simp; with_reducible rfl)
            try simp only [Act.put, List.setIfInBounds_toArray, List.set_cons_zero, List.set_cons_succ]
            refine wpAnyH_take (i := 9) (oi := { dst := some 42, op := Op.extract (Operand.tmp 33) 1, type := 4, pos := "exact.go:3339", after := #[{ on := 7, ground := Ground.data }, { on := 11, ground := Ground.gcOnly Departure.lateStores }], guard := none }) (v := ?_) rfl (by kernel_rfl) (by kernel_rfl) (by kernel_rfl) (fun _ _ _ h => h) (Or.inl ⟨by rfl, ?_⟩) (by assumption) ?_
            rotate_left 1
            · intro w hSw
              (try dsimp only at hSw)
              first | (go_simp; done) | (go_simp; with_reducible rfl)
            try simp only [Act.put, List.setIfInBounds_toArray, List.set_cons_zero, List.set_cons_succ]
            refine wpAnyH_ready (rs := [11]) (by kernel_rfl) (by simp) ?_
            refine AllReadyH.cons (o := { dst := none, op := Op.store 30 (Operand.tmp 8) (Operand.tmp 41), type := 0, pos := "exact.go:3339", after := #[{ on := 10, ground := Ground.data }, { on := 8, ground := Ground.data }, { on := 6, ground := Ground.chain }, { on := 0, ground := Ground.phase }, { on := 1, ground := Ground.phase }, { on := 2, ground := Ground.phase }, { on := 3, ground := Ground.phase }, { on := 4, ground := Ground.phase }, { on := 5, ground := Ground.phase }, { on := 6, ground := Ground.phase }, { on := 7, ground := Ground.phase }, { on := 8, ground := Ground.phase }, { on := 9, ground := Ground.textOnly Departure.lateStores }, { on := 10, ground := Ground.phase }], guard := none }) rfl (fun K hK => ?_) AllReadyH.nil
            obtain ⟨z0, y0⟩ := zz.2 0 _ rfl
            obtain ⟨z1, y1⟩ := zz.2 1 _ rfl
            obtain ⟨z2, y2⟩ := zz.2 2 _ rfl
            obtain ⟨z3, y3⟩ := zz.2 3 _ rfl
            obtain ⟨z4, y4⟩ := zz.2 4 _ rfl
            obtain ⟨z5, y5⟩ := zz.2 5 _ rfl
            go_simp
            have hst := below_six hcur zz.1 (.int .i64 R.bye) (.int .i64 R.epoch) (.slice o5sa R.sealed.length o5sc) (.slice o5ea R.seen.length o5ec) (.bool R.planned) (.slice o5wa R.wrote.length o5wc)
            clear hcur z0 y0 z1 y1 z2 y2 z3 y3 z4 y4 z5 y5
            refine hK.out _ _ (by first | exact dUnhide HC _ hcur | exact dUnhide HC _ hst | exact dUnhide HC _ hbr | fail) (fun hHeld => ?_)
            clear hK K
            try simp only [Act.put, List.setIfInBounds_toArray, List.set_cons_zero, List.set_cons_succ]
            refine wpAnyH_take (i := 12) (oi := { dst := some 9, op := Op.assign (Operand.tmp 42), type := 4, pos := "exact.go:3339", after := #[{ on := 9, ground := Ground.data }, { on := 11, ground := Ground.chain }, { on := 0, ground := Ground.phase }, { on := 1, ground := Ground.phase }, { on := 2, ground := Ground.phase }, { on := 3, ground := Ground.phase }, { on := 4, ground := Ground.phase }, { on := 5, ground := Ground.phase }, { on := 6, ground := Ground.phase }, { on := 7, ground := Ground.phase }, { on := 8, ground := Ground.phase }, { on := 9, ground := Ground.phase }, { on := 10, ground := Ground.phase }, { on := 11, ground := Ground.phase }], guard := none }) (v := ?_) rfl (by kernel_rfl) (by kernel_rfl) (by kernel_rfl) (fun _ _ _ h => h) (Or.inl ⟨by rfl, ?_⟩) (by assumption) ?_
            rotate_left 1
            · intro w hSw
              (try dsimp only at hSw)
              first | (go_simp; done) | (go_simp; with_reducible rfl)
            try simp only [Act.put, List.setIfInBounds_toArray, List.set_cons_zero, List.set_cons_succ]
            refine wpAnyH_done (by kernel_rfl) ?_ _
            refine NoPanic.normal ?_
            go_wp2_with fail
            go_meet
            case rel => first | exact ⟨_, _, _, _, _, _, _, _, _, rfl, rfl, ((((((zz.put 0 (.int .i64 R.bye)).put 1 (.int .i64 R.epoch)).put 2 (.slice o5sa R.sealed.length o5sc)).put 3 (.slice o5ea R.seen.length o5ec)).put 4 (.bool R.planned)).put 5 (.slice o5wa R.wrote.length o5wc)).bx.sits, ((((((dUnhide Q5).setFar (.inl hlo) (.int .i64 R.bye)).setFar (.inl hlo) (.int .i64 R.epoch)).setFar (.inl hlo) (.slice o5sa R.sealed.length o5sc)).setFar (.inl hlo) (.slice o5ea R.seen.length o5ec)).setFar (.inl hlo) (.bool R.planned)).setFar (.inl hlo) (.slice o5wa R.wrote.length o5wc), (.inl hlo), zz.1, hcz, hst⟩ | exact ⟨_, _, _, _, _, _, _, _, _, rfl, rfl, ((((((zz.put 0 (.int .i64 R.bye)).put 1 (.int .i64 R.epoch)).put 2 (.slice o5sa R.sealed.length o5sc)).put 3 (.slice o5ea R.seen.length o5ec)).put 4 (.bool R.planned)).put 5 (.slice o5wa R.wrote.length o5wc)).bx.sits, ((((((dUnhide Q5).setFar (.inr (Nat.le_refl _)) (.int .i64 R.bye)).setFar (.inr (Nat.le_refl _)) (.int .i64 R.epoch)).setFar (.inr (Nat.le_refl _)) (.slice o5sa R.sealed.length o5sc)).setFar (.inr (Nat.le_refl _)) (.slice o5ea R.seen.length o5ec)).setFar (.inr (Nat.le_refl _)) (.bool R.planned)).setFar (.inr (Nat.le_refl _)) (.slice o5wa R.wrote.length o5wc), (.inr (Nat.le_refl _)), zz.1, hcz, hst⟩
        · go_simp
          have zz := BxZ.new (B := ws1.heap.size) _ [.int .i64 0, .int .i64 0, .slice none 0 0, .slice none 0 0, .bool false, .slice none 0 0] 30 hcur.size
          (try replace Q0 := dHide ((dUnhide Q0).below (ha _ (.cells #[.int .i64 0, .int .i64 0, .slice none 0 0, .slice none 0 0, .bool false, .slice none 0 0] 30))))
          (try replace Q1 := dHide ((dUnhide Q1).below (ha _ (.cells #[.int .i64 0, .int .i64 0, .slice none 0 0, .slice none 0 0, .bool false, .slice none 0 0] 30))))
          (try replace Q2 := dHide ((dUnhide Q2).below (ha _ (.cells #[.int .i64 0, .int .i64 0, .slice none 0 0, .slice none 0 0, .bool false, .slice none 0 0] 30))))
          (try replace Q5 := dHide ((dUnhide Q5).below (ha _ (.cells #[.int .i64 0, .int .i64 0, .slice none 0 0, .slice none 0 0, .bool false, .slice none 0 0] 30))))
          replace hcur := hcur.alloc hcur.size (.cells #[.int .i64 0, .int .i64 0, .slice none 0 0, .slice none 0 0, .bool false, .slice none 0 0] 30)
          first | generalize w5.alloc (.cells #[.int .i64 0, .int .i64 0, .slice none 0 0, .slice none 0 0, .bool false, .slice none 0 0] 30) = wa at * | generalize wq2.alloc (.cells #[.int .i64 0, .int .i64 0, .slice none 0 0, .slice none 0 0, .bool false, .slice none 0 0] 30) = wa at * | generalize wq1.alloc (.cells #[.int .i64 0, .int .i64 0, .slice none 0 0, .slice none 0 0, .bool false, .slice none 0 0] 30) = wa at * | generalize wq0.alloc (.cells #[.int .i64 0, .int .i64 0, .slice none 0 0, .slice none 0 0, .bool false, .slice none 0 0] 30) = wa at * | generalize wd.alloc (.cells #[.int .i64 0, .int .i64 0, .slice none 0 0, .slice none 0 0, .bool false, .slice none 0 0] 30) = wa at * | fail
          refine hK.out _ _ (by first | exact dUnhide HC _ hcur | exact dUnhide HC _ hst | exact dUnhide HC _ hbr | fail) (fun hHeld => ?_)
          clear hK K
          try simp only [Act.put, List.setIfInBounds_toArray, List.set_cons_zero, List.set_cons_succ]
          refine wpAnyH_ready (rs := [5]) (by kernel_rfl) (by simp) ?_
          refine AllReadyH.cons (o := { dst := some 39, op := Op.call { callee := Callee.value (Operand.func 40), args := #[Operand.tmp 38], argTypes := #[24] }, type := 24, pos := "exact.go:3339", after := #[{ on := 4, ground := Ground.data }, { on := 3, ground := Ground.chain }], guard := none }) rfl (fun K hK => ?_) AllReadyH.nil
          go_simp
          refine (toIntS_ _ m2 _ hs2 (dUnhide A2 _ (belowThen B hcur))).mono ?_
          rintro e wq2 ⟨o2, rfl, q2, b2⟩
          replace hcur := belowThen hcur b2
          (try replace zz := BxZ.below zz b2)
          replace Q0 := dHide ((dUnhide Q0).below b2)
          replace Q1 := dHide ((dUnhide Q1).below b2)
          have Q2 := dHide q2
          obtain ⟨o2a, o2c, rfl, o2l⟩ := formIntS q2.now.rd
          clear q2 b2
          (try go_wp2_with fail)
          refine hK.out _ _ (by first | exact dUnhide HC _ hcur | exact dUnhide HC _ hst | exact dUnhide HC _ hbr | fail) (fun hHeld => ?_)
          clear hK K
          try simp only [Act.put, List.setIfInBounds_toArray, List.set_cons_zero, List.set_cons_succ]
          refine wpAnyH_ready (rs := [6]) (by kernel_rfl) (by simp) ?_
          refine AllReadyH.cons (o := { dst := some 40, op := Op.call { callee := Callee.value (Operand.func 17), args := #[Operand.tmp 35, Operand.tmp 37, Operand.tmp 39], argTypes := #[26, 30, 24] }, type := 33, pos := "exact.go:3339", after := #[{ on := 1, ground := Ground.data }, { on := 3, ground := Ground.data }, { on := 5, ground := Ground.data }, { on := 5, ground := Ground.chain }], guard := none }) rfl (fun K hK => ?_) AllReadyH.nil
          go_simp
          (try have hlo := BxZ.lt zz)
          have hcz := hcur.size
          refine (dUnhide CP _ _ _ _ (dUnhide Q0).now.rd (dUnhide Q1).now.rd (dUnhide Q2).now.rd).mono ?_
          rintro e w5 ⟨u5, rfl, q5, b5⟩
          replace hcur := belowThen hcur b5
          (try replace zz := BxZ.below zz b5)
          have Q5 := dHide q5
          obtain ⟨o5sa, o5sc, o5ea, o5ec, o5wa, o5wc, rfl, o5l1, o5l2, o5l3⟩ := formMend q5.now.rd
          clear q5 b5 Q0 Q1 Q2
          (try go_wp2_with fail)
          refine hK.out _ _ (by first | exact dUnhide HC _ hcur | exact dUnhide HC _ hst | exact dUnhide HC _ hbr | fail) (fun hHeld => ?_)
          clear hK K
          try simp only [Act.put, List.setIfInBounds_toArray, List.set_cons_zero, List.set_cons_succ]
          refine wpAnyH_take (i := 7) (oi := { dst := some 33, op := Op.move (Operand.tmp 40), type := 33, pos := "exact.go:3339", after := #[{ on := 6, ground := Ground.data }], guard := none }) (v := ?_) rfl (by kernel_rfl) (by kernel_rfl) (by kernel_rfl) (fun _ _ _ h => h) (Or.inl ⟨by rfl, ?_⟩) (by assumption) ?_
          rotate_left 1
          · intro w hSw
            (try dsimp only at hSw)
            first | (go_simp; done) | (go_simp; with_reducible rfl)
          try simp only [Act.put, List.setIfInBounds_toArray, List.set_cons_zero, List.set_cons_succ]
          refine wpAnyH_take (i := 8) (oi := { dst := some 41, op := Op.extract (Operand.tmp 33) 0, type := 30, pos := "exact.go:3339", after := #[{ on := 7, ground := Ground.data }], guard := none }) (v := ?_) rfl (by kernel_rfl) (by kernel_rfl) (by kernel_rfl) (fun _ _ _ h => h) (Or.inl ⟨by rfl, ?_⟩) (by assumption) ?_
          rotate_left 1
          · intro w hSw
            (try dsimp only at hSw)
            first | (go_simp; done) | (go_simp; with_reducible rfl)
          try simp only [Act.put, List.setIfInBounds_toArray, List.set_cons_zero, List.set_cons_succ]
          refine wpAnyH_take (i := 9) (oi := { dst := some 42, op := Op.extract (Operand.tmp 33) 1, type := 4, pos := "exact.go:3339", after := #[{ on := 7, ground := Ground.data }, { on := 11, ground := Ground.gcOnly Departure.lateStores }], guard := none }) (v := ?_) rfl (by kernel_rfl) (by kernel_rfl) (by kernel_rfl) (fun _ _ _ h => h) (Or.inl ⟨by rfl, ?_⟩) (by assumption) ?_
          rotate_left 1
          · intro w hSw
            (try dsimp only at hSw)
            first | (go_simp; done) | (go_simp; with_reducible rfl)
          try simp only [Act.put, List.setIfInBounds_toArray, List.set_cons_zero, List.set_cons_succ]
          refine wpAnyH_ready (rs := [11]) (by kernel_rfl) (by simp) ?_
          refine AllReadyH.cons (o := { dst := none, op := Op.store 30 (Operand.tmp 8) (Operand.tmp 41), type := 0, pos := "exact.go:3339", after := #[{ on := 10, ground := Ground.data }, { on := 8, ground := Ground.data }, { on := 6, ground := Ground.chain }, { on := 0, ground := Ground.phase }, { on := 1, ground := Ground.phase }, { on := 2, ground := Ground.phase }, { on := 3, ground := Ground.phase }, { on := 4, ground := Ground.phase }, { on := 5, ground := Ground.phase }, { on := 6, ground := Ground.phase }, { on := 7, ground := Ground.phase }, { on := 8, ground := Ground.phase }, { on := 9, ground := Ground.textOnly Departure.lateStores }, { on := 10, ground := Ground.phase }], guard := none }) rfl (fun K hK => ?_) AllReadyH.nil
          obtain ⟨z0, y0⟩ := zz.2 0 _ rfl
          obtain ⟨z1, y1⟩ := zz.2 1 _ rfl
          obtain ⟨z2, y2⟩ := zz.2 2 _ rfl
          obtain ⟨z3, y3⟩ := zz.2 3 _ rfl
          obtain ⟨z4, y4⟩ := zz.2 4 _ rfl
          obtain ⟨z5, y5⟩ := zz.2 5 _ rfl
          go_simp
          have hst := below_six hcur zz.1 (.int .i64 R.bye) (.int .i64 R.epoch) (.slice o5sa R.sealed.length o5sc) (.slice o5ea R.seen.length o5ec) (.bool R.planned) (.slice o5wa R.wrote.length o5wc)
          clear hcur z0 y0 z1 y1 z2 y2 z3 y3 z4 y4 z5 y5
          refine hK.out _ _ (by first | exact dUnhide HC _ hcur | exact dUnhide HC _ hst | exact dUnhide HC _ hbr | fail) (fun hHeld => ?_)
          clear hK K
          try simp only [Act.put, List.setIfInBounds_toArray, List.set_cons_zero, List.set_cons_succ]
          refine wpAnyH_take (i := 12) (oi := { dst := some 9, op := Op.assign (Operand.tmp 42), type := 4, pos := "exact.go:3339", after := #[{ on := 9, ground := Ground.data }, { on := 11, ground := Ground.chain }, { on := 0, ground := Ground.phase }, { on := 1, ground := Ground.phase }, { on := 2, ground := Ground.phase }, { on := 3, ground := Ground.phase }, { on := 4, ground := Ground.phase }, { on := 5, ground := Ground.phase }, { on := 6, ground := Ground.phase }, { on := 7, ground := Ground.phase }, { on := 8, ground := Ground.phase }, { on := 9, ground := Ground.phase }, { on := 10, ground := Ground.phase }, { on := 11, ground := Ground.phase }], guard := none }) (v := ?_) rfl (by kernel_rfl) (by kernel_rfl) (by kernel_rfl) (fun _ _ _ h => h) (Or.inl ⟨by rfl, ?_⟩) (by assumption) ?_
          rotate_left 1
          · intro w hSw
            (try dsimp only at hSw)
            first | (go_simp; done) | (go_simp; with_reducible rfl)
          try simp only [Act.put, List.setIfInBounds_toArray, List.set_cons_zero, List.set_cons_succ]
          refine wpAnyH_done (by kernel_rfl) ?_ _
          refine NoPanic.normal ?_
          go_wp2_with fail
          go_meet
          case rel => first | exact ⟨_, _, _, _, _, _, _, _, _, rfl, rfl, ((((((zz.put 0 (.int .i64 R.bye)).put 1 (.int .i64 R.epoch)).put 2 (.slice o5sa R.sealed.length o5sc)).put 3 (.slice o5ea R.seen.length o5ec)).put 4 (.bool R.planned)).put 5 (.slice o5wa R.wrote.length o5wc)).bx.sits, ((((((dUnhide Q5).setFar (.inl hlo) (.int .i64 R.bye)).setFar (.inl hlo) (.int .i64 R.epoch)).setFar (.inl hlo) (.slice o5sa R.sealed.length o5sc)).setFar (.inl hlo) (.slice o5ea R.seen.length o5ec)).setFar (.inl hlo) (.bool R.planned)).setFar (.inl hlo) (.slice o5wa R.wrote.length o5wc), (.inl hlo), zz.1, hcz, hst⟩ | exact ⟨_, _, _, _, _, _, _, _, _, rfl, rfl, ((((((zz.put 0 (.int .i64 R.bye)).put 1 (.int .i64 R.epoch)).put 2 (.slice o5sa R.sealed.length o5sc)).put 3 (.slice o5ea R.seen.length o5ec)).put 4 (.bool R.planned)).put 5 (.slice o5wa R.wrote.length o5wc)).bx.sits, ((((((dUnhide Q5).setFar (.inr (Nat.le_refl _)) (.int .i64 R.bye)).setFar (.inr (Nat.le_refl _)) (.int .i64 R.epoch)).setFar (.inr (Nat.le_refl _)) (.slice o5sa R.sealed.length o5sc)).setFar (.inr (Nat.le_refl _)) (.slice o5ea R.seen.length o5ec)).setFar (.inr (Nat.le_refl _)) (.bool R.planned)).setFar (.inr (Nat.le_refl _)) (.slice o5wa R.wrote.length o5wc), (.inr (Nat.le_refl _)), zz.1, hcz, hst⟩
      · go_simp
        have zz := BxZ.new (B := ws1.heap.size) _ [.int .i64 0, .int .i64 0, .slice none 0 0, .slice none 0 0, .bool false, .slice none 0 0] 30 hcur.size
        (try replace Q0 := dHide ((dUnhide Q0).below (ha _ (.cells #[.int .i64 0, .int .i64 0, .slice none 0 0, .slice none 0 0, .bool false, .slice none 0 0] 30))))
        (try replace Q1 := dHide ((dUnhide Q1).below (ha _ (.cells #[.int .i64 0, .int .i64 0, .slice none 0 0, .slice none 0 0, .bool false, .slice none 0 0] 30))))
        (try replace Q2 := dHide ((dUnhide Q2).below (ha _ (.cells #[.int .i64 0, .int .i64 0, .slice none 0 0, .slice none 0 0, .bool false, .slice none 0 0] 30))))
        (try replace Q5 := dHide ((dUnhide Q5).below (ha _ (.cells #[.int .i64 0, .int .i64 0, .slice none 0 0, .slice none 0 0, .bool false, .slice none 0 0] 30))))
        replace hcur := hcur.alloc hcur.size (.cells #[.int .i64 0, .int .i64 0, .slice none 0 0, .slice none 0 0, .bool false, .slice none 0 0] 30)
        first | generalize w5.alloc (.cells #[.int .i64 0, .int .i64 0, .slice none 0 0, .slice none 0 0, .bool false, .slice none 0 0] 30) = wa at * | generalize wq2.alloc (.cells #[.int .i64 0, .int .i64 0, .slice none 0 0, .slice none 0 0, .bool false, .slice none 0 0] 30) = wa at * | generalize wq1.alloc (.cells #[.int .i64 0, .int .i64 0, .slice none 0 0, .slice none 0 0, .bool false, .slice none 0 0] 30) = wa at * | generalize wq0.alloc (.cells #[.int .i64 0, .int .i64 0, .slice none 0 0, .slice none 0 0, .bool false, .slice none 0 0] 30) = wa at * | generalize wd.alloc (.cells #[.int .i64 0, .int .i64 0, .slice none 0 0, .slice none 0 0, .bool false, .slice none 0 0] 30) = wa at * | fail
        refine hK.out _ _ (by first | exact dUnhide HC _ hcur | exact dUnhide HC _ hst | exact dUnhide HC _ hbr | fail) (fun hHeld => ?_)
        clear hK K
        try simp only [Act.put, List.setIfInBounds_toArray, List.set_cons_zero, List.set_cons_succ]
        refine wpAnyH_ready (rs := [3]) (by kernel_rfl) (by simp) ?_
        refine AllReadyH.cons (o := { dst := some 37, op := Op.call { callee := Callee.value (Operand.func 31), args := #[Operand.tmp 36], argTypes := #[54] }, type := 30, pos := "exact.go:3339", after := #[{ on := 2, ground := Ground.data }, { on := 1, ground := Ground.chain }], guard := none }) rfl (fun K hK => ?_) AllReadyH.nil
        go_simp
        refine (toMend_ _ m1 _ hs1 (dUnhide A1 _ (belowThen B hcur))).mono ?_
        rintro e wq1 ⟨o1, rfl, q1, b1⟩
        replace hcur := belowThen hcur b1
        (try replace zz := BxZ.below zz b1)
        replace Q0 := dHide ((dUnhide Q0).below b1)
        have Q1 := dHide q1
        obtain ⟨o1sa, o1sc, o1ea, o1ec, o1wa, o1wc, rfl, o1l1, o1l2, o1l3⟩ := formMend q1.now.rd
        clear q1 b1
        (try go_wp2_with fail)
        refine hK.out _ _ (by first | exact dUnhide HC _ hcur | exact dUnhide HC _ hst | exact dUnhide HC _ hbr | fail) (fun hHeld => ?_)
        clear hK K
        try simp only [Act.put, List.setIfInBounds_toArray, List.set_cons_zero, List.set_cons_succ]
        refine wpAnyH_ready (rs := [5]) (by kernel_rfl) (by simp) ?_
        refine AllReadyH.cons (o := { dst := some 39, op := Op.call { callee := Callee.value (Operand.func 40), args := #[Operand.tmp 38], argTypes := #[24] }, type := 24, pos := "exact.go:3339", after := #[{ on := 4, ground := Ground.data }, { on := 3, ground := Ground.chain }], guard := none }) rfl (fun K hK => ?_) AllReadyH.nil
        go_simp
        refine (toIntS_ _ m2 _ hs2 (dUnhide A2 _ (belowThen B hcur))).mono ?_
        rintro e wq2 ⟨o2, rfl, q2, b2⟩
        replace hcur := belowThen hcur b2
        (try replace zz := BxZ.below zz b2)
        replace Q0 := dHide ((dUnhide Q0).below b2)
        replace Q1 := dHide ((dUnhide Q1).below b2)
        have Q2 := dHide q2
        obtain ⟨o2a, o2c, rfl, o2l⟩ := formIntS q2.now.rd
        clear q2 b2
        (try go_wp2_with fail)
        refine hK.out _ _ (by first | exact dUnhide HC _ hcur | exact dUnhide HC _ hst | exact dUnhide HC _ hbr | fail) (fun hHeld => ?_)
        clear hK K
        try simp only [Act.put, List.setIfInBounds_toArray, List.set_cons_zero, List.set_cons_succ]
        refine wpAnyH_ready (rs := [6]) (by kernel_rfl) (by simp) ?_
        refine AllReadyH.cons (o := { dst := some 40, op := Op.call { callee := Callee.value (Operand.func 17), args := #[Operand.tmp 35, Operand.tmp 37, Operand.tmp 39], argTypes := #[26, 30, 24] }, type := 33, pos := "exact.go:3339", after := #[{ on := 1, ground := Ground.data }, { on := 3, ground := Ground.data }, { on := 5, ground := Ground.data }, { on := 5, ground := Ground.chain }], guard := none }) rfl (fun K hK => ?_) AllReadyH.nil
        go_simp
        (try have hlo := BxZ.lt zz)
        have hcz := hcur.size
        refine (dUnhide CP _ _ _ _ (dUnhide Q0).now.rd (dUnhide Q1).now.rd (dUnhide Q2).now.rd).mono ?_
        rintro e w5 ⟨u5, rfl, q5, b5⟩
        replace hcur := belowThen hcur b5
        (try replace zz := BxZ.below zz b5)
        have Q5 := dHide q5
        obtain ⟨o5sa, o5sc, o5ea, o5ec, o5wa, o5wc, rfl, o5l1, o5l2, o5l3⟩ := formMend q5.now.rd
        clear q5 b5 Q0 Q1 Q2
        (try go_wp2_with fail)
        refine hK.out _ _ (by first | exact dUnhide HC _ hcur | exact dUnhide HC _ hst | exact dUnhide HC _ hbr | fail) (fun hHeld => ?_)
        clear hK K
        try simp only [Act.put, List.setIfInBounds_toArray, List.set_cons_zero, List.set_cons_succ]
        refine wpAnyH_take (i := 7) (oi := { dst := some 33, op := Op.move (Operand.tmp 40), type := 33, pos := "exact.go:3339", after := #[{ on := 6, ground := Ground.data }], guard := none }) (v := ?_) rfl (by kernel_rfl) (by kernel_rfl) (by kernel_rfl) (fun _ _ _ h => h) (Or.inl ⟨by rfl, ?_⟩) (by assumption) ?_
        rotate_left 1
        · intro w hSw
          (try dsimp only at hSw)
          first | (go_simp; done) | (go_simp; with_reducible rfl)
        try simp only [Act.put, List.setIfInBounds_toArray, List.set_cons_zero, List.set_cons_succ]
        refine wpAnyH_take (i := 8) (oi := { dst := some 41, op := Op.extract (Operand.tmp 33) 0, type := 30, pos := "exact.go:3339", after := #[{ on := 7, ground := Ground.data }], guard := none }) (v := ?_) rfl (by kernel_rfl) (by kernel_rfl) (by kernel_rfl) (fun _ _ _ h => h) (Or.inl ⟨by rfl, ?_⟩) (by assumption) ?_
        rotate_left 1
        · intro w hSw
          (try dsimp only at hSw)
          first | (go_simp; done) | (go_simp; with_reducible rfl)
        try simp only [Act.put, List.setIfInBounds_toArray, List.set_cons_zero, List.set_cons_succ]
        refine wpAnyH_take (i := 9) (oi := { dst := some 42, op := Op.extract (Operand.tmp 33) 1, type := 4, pos := "exact.go:3339", after := #[{ on := 7, ground := Ground.data }, { on := 11, ground := Ground.gcOnly Departure.lateStores }], guard := none }) (v := ?_) rfl (by kernel_rfl) (by kernel_rfl) (by kernel_rfl) (fun _ _ _ h => h) (Or.inl ⟨by rfl, ?_⟩) (by assumption) ?_
        rotate_left 1
        · intro w hSw
          (try dsimp only at hSw)
          first | (go_simp; done) | (go_simp; with_reducible rfl)
        try simp only [Act.put, List.setIfInBounds_toArray, List.set_cons_zero, List.set_cons_succ]
        refine wpAnyH_ready (rs := [11]) (by kernel_rfl) (by simp) ?_
        refine AllReadyH.cons (o := { dst := none, op := Op.store 30 (Operand.tmp 8) (Operand.tmp 41), type := 0, pos := "exact.go:3339", after := #[{ on := 10, ground := Ground.data }, { on := 8, ground := Ground.data }, { on := 6, ground := Ground.chain }, { on := 0, ground := Ground.phase }, { on := 1, ground := Ground.phase }, { on := 2, ground := Ground.phase }, { on := 3, ground := Ground.phase }, { on := 4, ground := Ground.phase }, { on := 5, ground := Ground.phase }, { on := 6, ground := Ground.phase }, { on := 7, ground := Ground.phase }, { on := 8, ground := Ground.phase }, { on := 9, ground := Ground.textOnly Departure.lateStores }, { on := 10, ground := Ground.phase }], guard := none }) rfl (fun K hK => ?_) AllReadyH.nil
        obtain ⟨z0, y0⟩ := zz.2 0 _ rfl
        obtain ⟨z1, y1⟩ := zz.2 1 _ rfl
        obtain ⟨z2, y2⟩ := zz.2 2 _ rfl
        obtain ⟨z3, y3⟩ := zz.2 3 _ rfl
        obtain ⟨z4, y4⟩ := zz.2 4 _ rfl
        obtain ⟨z5, y5⟩ := zz.2 5 _ rfl
        go_simp
        have hst := below_six hcur zz.1 (.int .i64 R.bye) (.int .i64 R.epoch) (.slice o5sa R.sealed.length o5sc) (.slice o5ea R.seen.length o5ec) (.bool R.planned) (.slice o5wa R.wrote.length o5wc)
        clear hcur z0 y0 z1 y1 z2 y2 z3 y3 z4 y4 z5 y5
        refine hK.out _ _ (by first | exact dUnhide HC _ hcur | exact dUnhide HC _ hst | exact dUnhide HC _ hbr | fail) (fun hHeld => ?_)
        clear hK K
        try simp only [Act.put, List.setIfInBounds_toArray, List.set_cons_zero, List.set_cons_succ]
        refine wpAnyH_take (i := 12) (oi := { dst := some 9, op := Op.assign (Operand.tmp 42), type := 4, pos := "exact.go:3339", after := #[{ on := 9, ground := Ground.data }, { on := 11, ground := Ground.chain }, { on := 0, ground := Ground.phase }, { on := 1, ground := Ground.phase }, { on := 2, ground := Ground.phase }, { on := 3, ground := Ground.phase }, { on := 4, ground := Ground.phase }, { on := 5, ground := Ground.phase }, { on := 6, ground := Ground.phase }, { on := 7, ground := Ground.phase }, { on := 8, ground := Ground.phase }, { on := 9, ground := Ground.phase }, { on := 10, ground := Ground.phase }, { on := 11, ground := Ground.phase }], guard := none }) (v := ?_) rfl (by kernel_rfl) (by kernel_rfl) (by kernel_rfl) (fun _ _ _ h => h) (Or.inl ⟨by rfl, ?_⟩) (by assumption) ?_
        rotate_left 1
        · intro w hSw
          (try dsimp only at hSw)
          first | (go_simp; done) | (go_simp; with_reducible rfl)
        try simp only [Act.put, List.setIfInBounds_toArray, List.set_cons_zero, List.set_cons_succ]
        refine wpAnyH_done (by kernel_rfl) ?_ _
        refine NoPanic.normal ?_
        go_wp2_with fail
        go_meet
        case rel => first | exact ⟨_, _, _, _, _, _, _, _, _, rfl, rfl, ((((((zz.put 0 (.int .i64 R.bye)).put 1 (.int .i64 R.epoch)).put 2 (.slice o5sa R.sealed.length o5sc)).put 3 (.slice o5ea R.seen.length o5ec)).put 4 (.bool R.planned)).put 5 (.slice o5wa R.wrote.length o5wc)).bx.sits, ((((((dUnhide Q5).setFar (.inl hlo) (.int .i64 R.bye)).setFar (.inl hlo) (.int .i64 R.epoch)).setFar (.inl hlo) (.slice o5sa R.sealed.length o5sc)).setFar (.inl hlo) (.slice o5ea R.seen.length o5ec)).setFar (.inl hlo) (.bool R.planned)).setFar (.inl hlo) (.slice o5wa R.wrote.length o5wc), (.inl hlo), zz.1, hcz, hst⟩ | exact ⟨_, _, _, _, _, _, _, _, _, rfl, rfl, ((((((zz.put 0 (.int .i64 R.bye)).put 1 (.int .i64 R.epoch)).put 2 (.slice o5sa R.sealed.length o5sc)).put 3 (.slice o5ea R.seen.length o5ec)).put 4 (.bool R.planned)).put 5 (.slice o5wa R.wrote.length o5wc)).bx.sits, ((((((dUnhide Q5).setFar (.inr (Nat.le_refl _)) (.int .i64 R.bye)).setFar (.inr (Nat.le_refl _)) (.int .i64 R.epoch)).setFar (.inr (Nat.le_refl _)) (.slice o5sa R.sealed.length o5sc)).setFar (.inr (Nat.le_refl _)) (.slice o5ea R.seen.length o5ec)).setFar (.inr (Nat.le_refl _)) (.bool R.planned)).setFar (.inr (Nat.le_refl _)) (.slice o5wa R.wrote.length o5wc), (.inr (Nat.le_refl _)), zz.1, hcz, hst⟩
    · go_simp
      have zz := BxZ.new (B := ws1.heap.size) _ [.int .i64 0, .int .i64 0, .slice none 0 0, .slice none 0 0, .bool false, .slice none 0 0] 30 hcur.size
      (try replace Q0 := dHide ((dUnhide Q0).below (ha _ (.cells #[.int .i64 0, .int .i64 0, .slice none 0 0, .slice none 0 0, .bool false, .slice none 0 0] 30))))
      (try replace Q1 := dHide ((dUnhide Q1).below (ha _ (.cells #[.int .i64 0, .int .i64 0, .slice none 0 0, .slice none 0 0, .bool false, .slice none 0 0] 30))))
      (try replace Q2 := dHide ((dUnhide Q2).below (ha _ (.cells #[.int .i64 0, .int .i64 0, .slice none 0 0, .slice none 0 0, .bool false, .slice none 0 0] 30))))
      (try replace Q5 := dHide ((dUnhide Q5).below (ha _ (.cells #[.int .i64 0, .int .i64 0, .slice none 0 0, .slice none 0 0, .bool false, .slice none 0 0] 30))))
      replace hcur := hcur.alloc hcur.size (.cells #[.int .i64 0, .int .i64 0, .slice none 0 0, .slice none 0 0, .bool false, .slice none 0 0] 30)
      first | generalize w5.alloc (.cells #[.int .i64 0, .int .i64 0, .slice none 0 0, .slice none 0 0, .bool false, .slice none 0 0] 30) = wa at * | generalize wq2.alloc (.cells #[.int .i64 0, .int .i64 0, .slice none 0 0, .slice none 0 0, .bool false, .slice none 0 0] 30) = wa at * | generalize wq1.alloc (.cells #[.int .i64 0, .int .i64 0, .slice none 0 0, .slice none 0 0, .bool false, .slice none 0 0] 30) = wa at * | generalize wq0.alloc (.cells #[.int .i64 0, .int .i64 0, .slice none 0 0, .slice none 0 0, .bool false, .slice none 0 0] 30) = wa at * | generalize wd.alloc (.cells #[.int .i64 0, .int .i64 0, .slice none 0 0, .slice none 0 0, .bool false, .slice none 0 0] 30) = wa at * | fail
      refine hK.out _ _ (by first | exact dUnhide HC _ hcur | exact dUnhide HC _ hst | exact dUnhide HC _ hbr | fail) (fun hHeld => ?_)
      clear hK K
      try simp only [Act.put, List.setIfInBounds_toArray, List.set_cons_zero, List.set_cons_succ]
      refine wpAnyH_ready (rs := [1]) (by kernel_rfl) (by simp) ?_
      refine AllReadyH.cons (o := { dst := some 35, op := Op.call { callee := Callee.value (Operand.func 30), args := #[Operand.tmp 34], argTypes := #[51] }, type := 26, pos := "exact.go:3339", after := #[{ on := 0, ground := Ground.data }], guard := none }) rfl (fun K hK => ?_) AllReadyH.nil
      go_simp
      refine (toConfig_ _ m0 _ hs0 (dUnhide A0 _ (belowThen B hcur))).mono ?_
      rintro e wq0 ⟨o0, rfl, q0, b0⟩
      replace hcur := belowThen hcur b0
      (try replace zz := BxZ.below zz b0)
      have Q0 := dHide q0
      obtain ⟨o0a, o0c, rfl, o0l⟩ := formConfig q0.now.rd
      clear q0 b0
      (try go_wp2_with fail)
      refine hK.out _ _ (by first | exact dUnhide HC _ hcur | exact dUnhide HC _ hst | exact dUnhide HC _ hbr | fail) (fun hHeld => ?_)
      clear hK K
      try simp only [Act.put, List.setIfInBounds_toArray, List.set_cons_zero, List.set_cons_succ]
      refine wpAnyH_ready (rs := [3]) (by kernel_rfl) (by simp) ?_
      refine AllReadyH.cons (o := { dst := some 37, op := Op.call { callee := Callee.value (Operand.func 31), args := #[Operand.tmp 36], argTypes := #[54] }, type := 30, pos := "exact.go:3339", after := #[{ on := 2, ground := Ground.data }, { on := 1, ground := Ground.chain }], guard := none }) rfl (fun K hK => ?_) AllReadyH.nil
      go_simp
      refine (toMend_ _ m1 _ hs1 (dUnhide A1 _ (belowThen B hcur))).mono ?_
      rintro e wq1 ⟨o1, rfl, q1, b1⟩
      replace hcur := belowThen hcur b1
      (try replace zz := BxZ.below zz b1)
      replace Q0 := dHide ((dUnhide Q0).below b1)
      have Q1 := dHide q1
      obtain ⟨o1sa, o1sc, o1ea, o1ec, o1wa, o1wc, rfl, o1l1, o1l2, o1l3⟩ := formMend q1.now.rd
      clear q1 b1
      (try go_wp2_with fail)
      refine hK.out _ _ (by first | exact dUnhide HC _ hcur | exact dUnhide HC _ hst | exact dUnhide HC _ hbr | fail) (fun hHeld => ?_)
      clear hK K
      try simp only [Act.put, List.setIfInBounds_toArray, List.set_cons_zero, List.set_cons_succ]
      refine wpAnyH_ready (rs := [5]) (by kernel_rfl) (by simp) ?_
      refine AllReadyH.cons (o := { dst := some 39, op := Op.call { callee := Callee.value (Operand.func 40), args := #[Operand.tmp 38], argTypes := #[24] }, type := 24, pos := "exact.go:3339", after := #[{ on := 4, ground := Ground.data }, { on := 3, ground := Ground.chain }], guard := none }) rfl (fun K hK => ?_) AllReadyH.nil
      go_simp
      refine (toIntS_ _ m2 _ hs2 (dUnhide A2 _ (belowThen B hcur))).mono ?_
      rintro e wq2 ⟨o2, rfl, q2, b2⟩
      replace hcur := belowThen hcur b2
      (try replace zz := BxZ.below zz b2)
      replace Q0 := dHide ((dUnhide Q0).below b2)
      replace Q1 := dHide ((dUnhide Q1).below b2)
      have Q2 := dHide q2
      obtain ⟨o2a, o2c, rfl, o2l⟩ := formIntS q2.now.rd
      clear q2 b2
      (try go_wp2_with fail)
      refine hK.out _ _ (by first | exact dUnhide HC _ hcur | exact dUnhide HC _ hst | exact dUnhide HC _ hbr | fail) (fun hHeld => ?_)
      clear hK K
      try simp only [Act.put, List.setIfInBounds_toArray, List.set_cons_zero, List.set_cons_succ]
      refine wpAnyH_ready (rs := [6]) (by kernel_rfl) (by simp) ?_
      refine AllReadyH.cons (o := { dst := some 40, op := Op.call { callee := Callee.value (Operand.func 17), args := #[Operand.tmp 35, Operand.tmp 37, Operand.tmp 39], argTypes := #[26, 30, 24] }, type := 33, pos := "exact.go:3339", after := #[{ on := 1, ground := Ground.data }, { on := 3, ground := Ground.data }, { on := 5, ground := Ground.data }, { on := 5, ground := Ground.chain }], guard := none }) rfl (fun K hK => ?_) AllReadyH.nil
      go_simp
      (try have hlo := BxZ.lt zz)
      have hcz := hcur.size
      refine (dUnhide CP _ _ _ _ (dUnhide Q0).now.rd (dUnhide Q1).now.rd (dUnhide Q2).now.rd).mono ?_
      rintro e w5 ⟨u5, rfl, q5, b5⟩
      replace hcur := belowThen hcur b5
      (try replace zz := BxZ.below zz b5)
      have Q5 := dHide q5
      obtain ⟨o5sa, o5sc, o5ea, o5ec, o5wa, o5wc, rfl, o5l1, o5l2, o5l3⟩ := formMend q5.now.rd
      clear q5 b5 Q0 Q1 Q2
      (try go_wp2_with fail)
      refine hK.out _ _ (by first | exact dUnhide HC _ hcur | exact dUnhide HC _ hst | exact dUnhide HC _ hbr | fail) (fun hHeld => ?_)
      clear hK K
      try simp only [Act.put, List.setIfInBounds_toArray, List.set_cons_zero, List.set_cons_succ]
      refine wpAnyH_take (i := 7) (oi := { dst := some 33, op := Op.move (Operand.tmp 40), type := 33, pos := "exact.go:3339", after := #[{ on := 6, ground := Ground.data }], guard := none }) (v := ?_) rfl (by kernel_rfl) (by kernel_rfl) (by kernel_rfl) (fun _ _ _ h => h) (Or.inl ⟨by rfl, ?_⟩) (by assumption) ?_
      rotate_left 1
      · intro w hSw
        (try dsimp only at hSw)
        first | (go_simp; done) | (go_simp; with_reducible rfl)
      try simp only [Act.put, List.setIfInBounds_toArray, List.set_cons_zero, List.set_cons_succ]
      refine wpAnyH_take (i := 8) (oi := { dst := some 41, op := Op.extract (Operand.tmp 33) 0, type := 30, pos := "exact.go:3339", after := #[{ on := 7, ground := Ground.data }], guard := none }) (v := ?_) rfl (by kernel_rfl) (by kernel_rfl) (by kernel_rfl) (fun _ _ _ h => h) (Or.inl ⟨by rfl, ?_⟩) (by assumption) ?_
      rotate_left 1
      · intro w hSw
        (try dsimp only at hSw)
        first | (go_simp; done) | (go_simp; with_reducible rfl)
      try simp only [Act.put, List.setIfInBounds_toArray, List.set_cons_zero, List.set_cons_succ]
      refine wpAnyH_take (i := 9) (oi := { dst := some 42, op := Op.extract (Operand.tmp 33) 1, type := 4, pos := "exact.go:3339", after := #[{ on := 7, ground := Ground.data }, { on := 11, ground := Ground.gcOnly Departure.lateStores }], guard := none }) (v := ?_) rfl (by kernel_rfl) (by kernel_rfl) (by kernel_rfl) (fun _ _ _ h => h) (Or.inl ⟨by rfl, ?_⟩) (by assumption) ?_
      rotate_left 1
      · intro w hSw
        (try dsimp only at hSw)
        first | (go_simp; done) | (go_simp; with_reducible rfl)
      try simp only [Act.put, List.setIfInBounds_toArray, List.set_cons_zero, List.set_cons_succ]
      refine wpAnyH_ready (rs := [11]) (by kernel_rfl) (by simp) ?_
      refine AllReadyH.cons (o := { dst := none, op := Op.store 30 (Operand.tmp 8) (Operand.tmp 41), type := 0, pos := "exact.go:3339", after := #[{ on := 10, ground := Ground.data }, { on := 8, ground := Ground.data }, { on := 6, ground := Ground.chain }, { on := 0, ground := Ground.phase }, { on := 1, ground := Ground.phase }, { on := 2, ground := Ground.phase }, { on := 3, ground := Ground.phase }, { on := 4, ground := Ground.phase }, { on := 5, ground := Ground.phase }, { on := 6, ground := Ground.phase }, { on := 7, ground := Ground.phase }, { on := 8, ground := Ground.phase }, { on := 9, ground := Ground.textOnly Departure.lateStores }, { on := 10, ground := Ground.phase }], guard := none }) rfl (fun K hK => ?_) AllReadyH.nil
      obtain ⟨z0, y0⟩ := zz.2 0 _ rfl
      obtain ⟨z1, y1⟩ := zz.2 1 _ rfl
      obtain ⟨z2, y2⟩ := zz.2 2 _ rfl
      obtain ⟨z3, y3⟩ := zz.2 3 _ rfl
      obtain ⟨z4, y4⟩ := zz.2 4 _ rfl
      obtain ⟨z5, y5⟩ := zz.2 5 _ rfl
      go_simp
      have hst := below_six hcur zz.1 (.int .i64 R.bye) (.int .i64 R.epoch) (.slice o5sa R.sealed.length o5sc) (.slice o5ea R.seen.length o5ec) (.bool R.planned) (.slice o5wa R.wrote.length o5wc)
      clear hcur z0 y0 z1 y1 z2 y2 z3 y3 z4 y4 z5 y5
      refine hK.out _ _ (by first | exact dUnhide HC _ hcur | exact dUnhide HC _ hst | exact dUnhide HC _ hbr | fail) (fun hHeld => ?_)
      clear hK K
      try simp only [Act.put, List.setIfInBounds_toArray, List.set_cons_zero, List.set_cons_succ]
      refine wpAnyH_take (i := 12) (oi := { dst := some 9, op := Op.assign (Operand.tmp 42), type := 4, pos := "exact.go:3339", after := #[{ on := 9, ground := Ground.data }, { on := 11, ground := Ground.chain }, { on := 0, ground := Ground.phase }, { on := 1, ground := Ground.phase }, { on := 2, ground := Ground.phase }, { on := 3, ground := Ground.phase }, { on := 4, ground := Ground.phase }, { on := 5, ground := Ground.phase }, { on := 6, ground := Ground.phase }, { on := 7, ground := Ground.phase }, { on := 8, ground := Ground.phase }, { on := 9, ground := Ground.phase }, { on := 10, ground := Ground.phase }, { on := 11, ground := Ground.phase }], guard := none }) (v := ?_) rfl (by kernel_rfl) (by kernel_rfl) (by kernel_rfl) (fun _ _ _ h => h) (Or.inl ⟨by rfl, ?_⟩) (by assumption) ?_
      rotate_left 1
      · intro w hSw
        (try dsimp only at hSw)
        first | (go_simp; done) | (go_simp; with_reducible rfl)
      try simp only [Act.put, List.setIfInBounds_toArray, List.set_cons_zero, List.set_cons_succ]
      refine wpAnyH_done (by kernel_rfl) ?_ _
      refine NoPanic.normal ?_
      go_wp2_with fail
      go_meet
      case rel => first | exact ⟨_, _, _, _, _, _, _, _, _, rfl, rfl, ((((((zz.put 0 (.int .i64 R.bye)).put 1 (.int .i64 R.epoch)).put 2 (.slice o5sa R.sealed.length o5sc)).put 3 (.slice o5ea R.seen.length o5ec)).put 4 (.bool R.planned)).put 5 (.slice o5wa R.wrote.length o5wc)).bx.sits, ((((((dUnhide Q5).setFar (.inl hlo) (.int .i64 R.bye)).setFar (.inl hlo) (.int .i64 R.epoch)).setFar (.inl hlo) (.slice o5sa R.sealed.length o5sc)).setFar (.inl hlo) (.slice o5ea R.seen.length o5ec)).setFar (.inl hlo) (.bool R.planned)).setFar (.inl hlo) (.slice o5wa R.wrote.length o5wc), (.inl hlo), zz.1, hcz, hst⟩ | exact ⟨_, _, _, _, _, _, _, _, _, rfl, rfl, ((((((zz.put 0 (.int .i64 R.bye)).put 1 (.int .i64 R.epoch)).put 2 (.slice o5sa R.sealed.length o5sc)).put 3 (.slice o5ea R.seen.length o5ec)).put 4 (.bool R.planned)).put 5 (.slice o5wa R.wrote.length o5wc)).bx.sits, ((((((dUnhide Q5).setFar (.inr (Nat.le_refl _)) (.int .i64 R.bye)).setFar (.inr (Nat.le_refl _)) (.int .i64 R.epoch)).setFar (.inr (Nat.le_refl _)) (.slice o5sa R.sealed.length o5sc)).setFar (.inr (Nat.le_refl _)) (.slice o5ea R.seen.length o5ec)).setFar (.inr (Nat.le_refl _)) (.bool R.planned)).setFar (.inr (Nat.le_refl _)) (.slice o5wa R.wrote.length o5wc), (.inr (Nat.le_refl _)), zz.1, hcz, hst⟩
  case rest =>
    obtain ⟨bX10, lod9, hid9, uwsa, uwsc, uwea, uwec, uwwa, uwwc, rfl, rfl, X10, OW, dd9, gd9, id9, bc⟩ := hcut
    clear kd90 kd91 kd92 kd93 kd94 kd95 kd96 kd97 HC hbr
    have sz11 := dHide bc.size
    replace X0 := dHide ((dUnhide X0).below bc)
    replace X1 := dHide ((dUnhide X1).below bc)
    replace B := belowThen B bc
    have sz12 := dHide dd9
    have sz13 := dHide gd9
    have sz14 := dHide id9
    have sz15 := dHide X10.fit
    have sz16 := dHide OW.fit
    replace X10 := dHide X10
    replace OW := dHide OW
    clear bc dd9 gd9 id9
    generalize wc = w3 at *
    clear CP
    have k17 := (dUnhide X0).now 0 _ rfl
    have k18 := (dUnhide X0).now 1 _ rfl
    go_wp2_with fail
    refine (toConfig_ _ m0 _ hs0 (dUnhide A0 _ B)).mono ?_
    rintro e w21 ⟨u20, rfl, T19, b22⟩
    clear k17 k18
    have sz23 := dHide b22.size
    replace X0 := dHide ((dUnhide X0).below b22)
    replace X1 := dHide ((dUnhide X1).below b22)
    replace X10 := dHide ((dUnhide X10).below b22)
    replace OW := dHide ((dUnhide OW).below b22)
    replace B := belowThen B b22
    replace T19 := dHide T19
    clear b22
    obtain ⟨u20a, u20c, rfl, u20l⟩ := formConfig (dUnhide T19).now.rd
    have X24 := Sits.box w21 #[.slice u20a m0.1.length u20c, .int .i64 m0.2] 26
    have ba := ha w21 (.cells #[.slice u20a m0.1.length u20c, .int .i64 m0.2] 26)
    have sz26 := dHide ba.size
    replace X0 := dHide ((dUnhide X0).below ba)
    replace X1 := dHide ((dUnhide X1).below ba)
    replace X10 := dHide ((dUnhide X10).below ba)
    replace OW := dHide ((dUnhide OW).below ba)
    replace T19 := dHide ((dUnhide T19).below ba)
    replace B := belowThen B ba
    have sz27 : Hid (w21.heap.size + 1 = (w21.alloc (.cells #[.slice u20a m0.1.length u20c, .int .i64 m0.2] 26)).heap.size) := by simp [Hid]
    replace X24 := dHide X24
    clear ba
    have k28 := (dUnhide X1).now 0 _ rfl
    have k29 := (dUnhide X1).now 1 _ rfl
    have k30 := (dUnhide X1).now 2 _ rfl
    have k31 := (dUnhide X1).now 3 _ rfl
    have k32 := (dUnhide X1).now 4 _ rfl
    have k33 := (dUnhide X1).now 5 _ rfl
    go_wp2_with fail
    generalize hbx25 : w21.heap.size = bx25 at *
    generalize w21.alloc (.cells #[.slice u20a m0.1.length u20c, .int .i64 m0.2] 26) = w34 at *
    have sz35 := dHide hbx25
    clear hbx25
    have k36 := (dUnhide X1).now 0 _ rfl
    have k37 := (dUnhide X1).now 1 _ rfl
    have k38 := (dUnhide X1).now 2 _ rfl
    have k39 := (dUnhide X1).now 3 _ rfl
    have k40 := (dUnhide X1).now 4 _ rfl
    have k41 := (dUnhide X1).now 5 _ rfl
    refine (toMend_ _ m1 _ hs1 (dUnhide A1 _ B)).mono ?_
    rintro e w44 ⟨u43, rfl, T42, b45⟩
    clear k36 k37 k38 k39 k40 k41
    clear k28 k29 k30 k31 k32 k33
    have sz46 := dHide b45.size
    replace X0 := dHide ((dUnhide X0).below b45)
    replace X1 := dHide ((dUnhide X1).below b45)
    replace X10 := dHide ((dUnhide X10).below b45)
    replace OW := dHide ((dUnhide OW).below b45)
    replace T19 := dHide ((dUnhide T19).below b45)
    replace X24 := dHide ((dUnhide X24).below b45)
    replace B := belowThen B b45
    replace T42 := dHide T42
    clear b45
    obtain ⟨u43sa, u43sc, u43ea, u43ec, u43wa, u43wc, rfl, u43l1, u43l2, u43l3⟩ := formMend (dUnhide T42).now.rd
    have X47 := Sits.box w44 #[.int .i64 m1.bye, .int .i64 m1.epoch, .slice u43sa m1.sealed.length u43sc, .slice u43ea m1.seen.length u43ec, .bool m1.planned, .slice u43wa m1.wrote.length u43wc] 30
    have ba := ha w44 (.cells #[.int .i64 m1.bye, .int .i64 m1.epoch, .slice u43sa m1.sealed.length u43sc, .slice u43ea m1.seen.length u43ec, .bool m1.planned, .slice u43wa m1.wrote.length u43wc] 30)
    have sz49 := dHide ba.size
    replace X0 := dHide ((dUnhide X0).below ba)
    replace X1 := dHide ((dUnhide X1).below ba)
    replace X10 := dHide ((dUnhide X10).below ba)
    replace OW := dHide ((dUnhide OW).below ba)
    replace T19 := dHide ((dUnhide T19).below ba)
    replace X24 := dHide ((dUnhide X24).below ba)
    replace T42 := dHide ((dUnhide T42).below ba)
    replace B := belowThen B ba
    have sz50 : Hid (w44.heap.size + 1 = (w44.alloc (.cells #[.int .i64 m1.bye, .int .i64 m1.epoch, .slice u43sa m1.sealed.length u43sc, .slice u43ea m1.seen.length u43ec, .bool m1.planned, .slice u43wa m1.wrote.length u43wc] 30)).heap.size) := by simp [Hid]
    replace X47 := dHide X47
    clear ba
    go_wp2_with fail
    generalize hbx48 : w44.heap.size = bx48 at *
    generalize w44.alloc (.cells #[.int .i64 m1.bye, .int .i64 m1.epoch, .slice u43sa m1.sealed.length u43sc, .slice u43ea m1.seen.length u43ec, .bool m1.planned, .slice u43wa m1.wrote.length u43wc] 30) = w51 at *
    have sz52 := dHide hbx48
    clear hbx48
    refine (toIntS_ _ m2 _ hs2 (dUnhide A2 _ B)).mono ?_
    rintro e w55 ⟨u54, rfl, T53, b56⟩
    have sz57 := dHide b56.size
    replace X0 := dHide ((dUnhide X0).below b56)
    replace X1 := dHide ((dUnhide X1).below b56)
    replace X10 := dHide ((dUnhide X10).below b56)
    replace OW := dHide ((dUnhide OW).below b56)
    replace T19 := dHide ((dUnhide T19).below b56)
    replace X24 := dHide ((dUnhide X24).below b56)
    replace T42 := dHide ((dUnhide T42).below b56)
    replace X47 := dHide ((dUnhide X47).below b56)
    replace B := belowThen B b56
    replace T53 := dHide T53
    clear b56
    obtain ⟨u54a, u54c, rfl, u54l⟩ := formIntS (dUnhide T53).now.rd
    have k58 := (dUnhide X24).now 0 _ rfl
    have k59 := (dUnhide X24).now 1 _ rfl
    have k60 := (dUnhide X47).now 0 _ rfl
    have k61 := (dUnhide X47).now 1 _ rfl
    have k62 := (dUnhide X47).now 2 _ rfl
    have k63 := (dUnhide X47).now 3 _ rfl
    have k64 := (dUnhide X47).now 4 _ rfl
    have k65 := (dUnhide X47).now 5 _ rfl
    go_wp2_with fail
    refine (dUnhide CI _ _ _ _ (dUnhide T19).now.rd (dUnhide T42).now.rd (dUnhide T53).now.rd).mono ?_
    rintro e w66 ⟨ug, rfl, OG, b67⟩
    clear k58 k59 k60 k61 k62 k63 k64 k65
    have sz68 := dHide b67.size
    replace X0 := dHide ((dUnhide X0).below b67)
    replace X1 := dHide ((dUnhide X1).below b67)
    replace X10 := dHide ((dUnhide X10).below b67)
    replace OW := dHide ((dUnhide OW).below b67)
    replace T19 := dHide ((dUnhide T19).below b67)
    replace X24 := dHide ((dUnhide X24).below b67)
    replace T42 := dHide ((dUnhide T42).below b67)
    replace X47 := dHide ((dUnhide X47).below b67)
    replace T53 := dHide ((dUnhide T53).below b67)
    replace B := belowThen B b67
    replace OG := dHide OG
    clear b67
    obtain ⟨ugsa, ugsc, ugea, ugec, ugwa, ugwc, rfl, ugl1, ugl2, ugl3⟩ := formMend (dUnhide OG).now.rd
    have X69 := Sits.box w66 #[.int .i64 R.bye, .int .i64 R.epoch, .slice ugsa R.sealed.length ugsc, .slice ugea R.seen.length ugec, .bool R.planned, .slice ugwa R.wrote.length ugwc] 30
    have ba := ha w66 (.cells #[.int .i64 R.bye, .int .i64 R.epoch, .slice ugsa R.sealed.length ugsc, .slice ugea R.seen.length ugec, .bool R.planned, .slice ugwa R.wrote.length ugwc] 30)
    have sz71 := dHide ba.size
    replace X0 := dHide ((dUnhide X0).below ba)
    replace X1 := dHide ((dUnhide X1).below ba)
    replace X10 := dHide ((dUnhide X10).below ba)
    replace OW := dHide ((dUnhide OW).below ba)
    replace T19 := dHide ((dUnhide T19).below ba)
    replace X24 := dHide ((dUnhide X24).below ba)
    replace T42 := dHide ((dUnhide T42).below ba)
    replace X47 := dHide ((dUnhide X47).below ba)
    replace T53 := dHide ((dUnhide T53).below ba)
    replace OG := dHide ((dUnhide OG).below ba)
    replace B := belowThen B ba
    have sz72 : Hid (w66.heap.size + 1 = (w66.alloc (.cells #[.int .i64 R.bye, .int .i64 R.epoch, .slice ugsa R.sealed.length ugsc, .slice ugea R.seen.length ugec, .bool R.planned, .slice ugwa R.wrote.length ugwc] 30)).heap.size) := by simp [Hid]
    replace X69 := dHide X69
    clear ba
    have k73 := (dUnhide X69).now 0 _ rfl
    have k74 := (dUnhide X69).now 1 _ rfl
    have k75 := (dUnhide X69).now 2 _ rfl
    have k76 := (dUnhide X69).now 3 _ rfl
    have k77 := (dUnhide X69).now 4 _ rfl
    have k78 := (dUnhide X69).now 5 _ rfl
    have k79 := (dUnhide X10).now 0 _ rfl
    have k80 := (dUnhide X10).now 1 _ rfl
    have k81 := (dUnhide X10).now 2 _ rfl
    have k82 := (dUnhide X10).now 3 _ rfl
    have k83 := (dUnhide X10).now 4 _ rfl
    have k84 := (dUnhide X10).now 5 _ rfl
    go_wp2_with fail
    generalize hbx70 : w66.heap.size = bx70 at *
    generalize w66.alloc (.cells #[.int .i64 R.bye, .int .i64 R.epoch, .slice ugsa R.sealed.length ugsc, .slice ugea R.seen.length ugec, .bool R.planned, .slice ugwa R.wrote.length ugwc] 30) = w85 at *
    have sz86 := dHide hbx70
    clear hbx70
    refine (eqMend_ _ _ _ _ (dUnhide OG).now.rd (dUnhide OW).now.rd).mono ?_
    rintro e w87 ⟨rfl, b88⟩
    clear k73 k74 k75 k76 k77 k78 k79 k80 k81 k82 k83 k84
    have sz89 := dHide b88.size
    replace X0 := dHide ((dUnhide X0).below b88)
    replace X1 := dHide ((dUnhide X1).below b88)
    replace X10 := dHide ((dUnhide X10).below b88)
    replace OW := dHide ((dUnhide OW).below b88)
    replace T19 := dHide ((dUnhide T19).below b88)
    replace X24 := dHide ((dUnhide X24).below b88)
    replace T42 := dHide ((dUnhide T42).below b88)
    replace X47 := dHide ((dUnhide X47).below b88)
    replace T53 := dHide ((dUnhide T53).below b88)
    replace OG := dHide ((dUnhide OG).below b88)
    replace X69 := dHide ((dUnhide X69).below b88)
    replace B := belowThen B b88
    clear b88
    have k90 := (dUnhide X24).now 0 _ rfl
    have k91 := (dUnhide X24).now 1 _ rfl
    have k92 := (dUnhide X0).now 0 _ rfl
    have k93 := (dUnhide X0).now 1 _ rfl
    have hbr := Below.refl w87.heap.size w87
    go_wp2_with fail
    go_cut [69] (fun sv wx => sv = .bool false ∧ Below w87.heap.size w87 wx)
    case first =>
      go_region_held3 (fun W => W.cell? ⟨bx25, 0, none⟩ = some (.slice u20a m0.1.length u20c) ∧ W.cell? ⟨bx25, 1, none⟩ = some (.int .i64 m0.2) ∧ W.cell? ⟨w.heap.size, 0, none⟩ = some (.slice v0a m0.1.length v0c) ∧ W.cell? ⟨w.heap.size, 1, none⟩ = some (.int .i64 m0.2)) (go_keep)
        (first
          | (go_at_call 30; refine (toConfig_ _ m0 _ hs0 (dUnhide A0 _ (belowThen B hbr.drew))).mono ?_; rintro e w8 ⟨o8, rfl, q8, b8⟩; have hb8 := belowThen hbr.drew b8; have k94 := ((dUnhide X24).at hb8) 0 _ rfl; have k95 := ((dUnhide X24).at hb8) 1 _ rfl; have k96 := ((dUnhide X0).at hb8) 0 _ rfl; have k97 := ((dUnhide X0).at hb8) 1 _ rfl; have Q8 := dHide q8; obtain ⟨o8a, o8c, rfl, o8l⟩ := formConfig q8.now.rd; clear q8)
          | (go_at_call 34; refine (eqConfig_ _ _ _ _ ((dUnhide T19).at hb8).rd (dUnhide Q8).now.rd).mono ?_; rintro e w9 ⟨rfl, b9⟩; have hb9 := belowThen hb8 b9; have k98 := ((dUnhide X24).at hb9) 0 _ rfl; have k99 := ((dUnhide X24).at hb9) 1 _ rfl; have k100 := ((dUnhide X0).at hb9) 0 _ rfl; have k101 := ((dUnhide X0).at hb9) 1 _ rfl))
      all_goals
        go_wp2_with fail
        go_meet
        case rel => exact ⟨rfl, hb9⟩
    case rest =>
      obtain ⟨rfl, bc⟩ := hcut
      clear hbr
      clear k90 k91 k92 k93
      have sz102 := dHide bc.size
      replace X0 := dHide ((dUnhide X0).below bc)
      replace X1 := dHide ((dUnhide X1).below bc)
      replace X10 := dHide ((dUnhide X10).below bc)
      replace OW := dHide ((dUnhide OW).below bc)
      replace T19 := dHide ((dUnhide T19).below bc)
      replace X24 := dHide ((dUnhide X24).below bc)
      replace T42 := dHide ((dUnhide T42).below bc)
      replace X47 := dHide ((dUnhide X47).below bc)
      replace T53 := dHide ((dUnhide T53).below bc)
      replace OG := dHide ((dUnhide OG).below bc)
      replace X69 := dHide ((dUnhide X69).below bc)
      replace B := belowThen B bc
      generalize wc = w103 at *
      clear bc
      have k104 := (dUnhide X47).now 0 _ rfl
      have k105 := (dUnhide X47).now 1 _ rfl
      have k106 := (dUnhide X47).now 2 _ rfl
      have k107 := (dUnhide X47).now 3 _ rfl
      have k108 := (dUnhide X47).now 4 _ rfl
      have k109 := (dUnhide X47).now 5 _ rfl
      have k110 := (dUnhide X1).now 0 _ rfl
      have k111 := (dUnhide X1).now 1 _ rfl
      have k112 := (dUnhide X1).now 2 _ rfl
      have k113 := (dUnhide X1).now 3 _ rfl
      have k114 := (dUnhide X1).now 4 _ rfl
      have k115 := (dUnhide X1).now 5 _ rfl
      have hbr := Below.refl w103.heap.size w103
      go_wp2_with fail
      go_cut [74] (fun sv wx => sv = .bool false ∧ Below w103.heap.size w103 wx)
      case first =>
        go_region_held3 (fun W => W.cell? ⟨bx48, 0, none⟩ = some (.int .i64 m1.bye) ∧ W.cell? ⟨bx48, 1, none⟩ = some (.int .i64 m1.epoch) ∧ W.cell? ⟨bx48, 2, none⟩ = some (.slice u43sa m1.sealed.length u43sc) ∧ W.cell? ⟨bx48, 3, none⟩ = some (.slice u43ea m1.seen.length u43ec) ∧ W.cell? ⟨bx48, 4, none⟩ = some (.bool m1.planned) ∧ W.cell? ⟨bx48, 5, none⟩ = some (.slice u43wa m1.wrote.length u43wc) ∧ W.cell? ⟨w.heap.size + 1, 0, none⟩ = some (.int .i64 m1.bye) ∧ W.cell? ⟨w.heap.size + 1, 1, none⟩ = some (.int .i64 m1.epoch) ∧ W.cell? ⟨w.heap.size + 1, 2, none⟩ = some (.slice v1sa m1.sealed.length v1sc) ∧ W.cell? ⟨w.heap.size + 1, 3, none⟩ = some (.slice v1ea m1.seen.length v1ec) ∧ W.cell? ⟨w.heap.size + 1, 4, none⟩ = some (.bool m1.planned) ∧ W.cell? ⟨w.heap.size + 1, 5, none⟩ = some (.slice v1wa m1.wrote.length v1wc)) (go_keep)
          (first
            | (go_at_call 31; refine (toMend_ _ m1 _ hs1 (dUnhide A1 _ (belowThen B hbr.drew))).mono ?_; rintro e w8 ⟨o8, rfl, q8, b8⟩; have hb8 := belowThen hbr.drew b8; have k116 := ((dUnhide X47).at hb8) 0 _ rfl; have k117 := ((dUnhide X47).at hb8) 1 _ rfl; have k118 := ((dUnhide X47).at hb8) 2 _ rfl; have k119 := ((dUnhide X47).at hb8) 3 _ rfl; have k120 := ((dUnhide X47).at hb8) 4 _ rfl; have k121 := ((dUnhide X47).at hb8) 5 _ rfl; have k122 := ((dUnhide X1).at hb8) 0 _ rfl; have k123 := ((dUnhide X1).at hb8) 1 _ rfl; have k124 := ((dUnhide X1).at hb8) 2 _ rfl; have k125 := ((dUnhide X1).at hb8) 3 _ rfl; have k126 := ((dUnhide X1).at hb8) 4 _ rfl; have k127 := ((dUnhide X1).at hb8) 5 _ rfl; have Q8 := dHide q8; obtain ⟨o8sa, o8sc, o8ea, o8ec, o8wa, o8wc, rfl, o8l1, o8l2, o8l3⟩ := formMend q8.now.rd; clear q8)
            | (go_at_call 33; refine (eqMend_ _ _ _ _ ((dUnhide T42).at hb8).rd (dUnhide Q8).now.rd).mono ?_; rintro e w9 ⟨rfl, b9⟩; have hb9 := belowThen hb8 b9; have k128 := ((dUnhide X47).at hb9) 0 _ rfl; have k129 := ((dUnhide X47).at hb9) 1 _ rfl; have k130 := ((dUnhide X47).at hb9) 2 _ rfl; have k131 := ((dUnhide X47).at hb9) 3 _ rfl; have k132 := ((dUnhide X47).at hb9) 4 _ rfl; have k133 := ((dUnhide X47).at hb9) 5 _ rfl; have k134 := ((dUnhide X1).at hb9) 0 _ rfl; have k135 := ((dUnhide X1).at hb9) 1 _ rfl; have k136 := ((dUnhide X1).at hb9) 2 _ rfl; have k137 := ((dUnhide X1).at hb9) 3 _ rfl; have k138 := ((dUnhide X1).at hb9) 4 _ rfl; have k139 := ((dUnhide X1).at hb9) 5 _ rfl))
        all_goals
          go_wp2_with fail
          go_meet
          case rel => exact ⟨rfl, hb9⟩
      case rest =>
        obtain ⟨rfl, bc⟩ := hcut
        clear hbr
        clear k104 k105 k106 k107 k108 k109 k110 k111 k112 k113 k114 k115
        have sz140 := dHide bc.size
        replace X0 := dHide ((dUnhide X0).below bc)
        replace X1 := dHide ((dUnhide X1).below bc)
        replace X10 := dHide ((dUnhide X10).below bc)
        replace OW := dHide ((dUnhide OW).below bc)
        replace T19 := dHide ((dUnhide T19).below bc)
        replace X24 := dHide ((dUnhide X24).below bc)
        replace T42 := dHide ((dUnhide T42).below bc)
        replace X47 := dHide ((dUnhide X47).below bc)
        replace T53 := dHide ((dUnhide T53).below bc)
        replace OG := dHide ((dUnhide OG).below bc)
        replace X69 := dHide ((dUnhide X69).below bc)
        replace B := belowThen B bc
        generalize wc = w141 at *
        clear bc
        go_wp2_with fail
        refine (toIntS_ _ m2 _ hs2 (dUnhide A2 _ B)).mono ?_
        rintro e w144 ⟨u143, rfl, T142, b145⟩
        have sz146 := dHide b145.size
        replace X0 := dHide ((dUnhide X0).below b145)
        replace X1 := dHide ((dUnhide X1).below b145)
        replace X10 := dHide ((dUnhide X10).below b145)
        replace OW := dHide ((dUnhide OW).below b145)
        replace T19 := dHide ((dUnhide T19).below b145)
        replace X24 := dHide ((dUnhide X24).below b145)
        replace T42 := dHide ((dUnhide T42).below b145)
        replace X47 := dHide ((dUnhide X47).below b145)
        replace T53 := dHide ((dUnhide T53).below b145)
        replace OG := dHide ((dUnhide OG).below b145)
        replace X69 := dHide ((dUnhide X69).below b145)
        replace B := belowThen B b145
        replace T142 := dHide T142
        clear b145
        obtain ⟨u143a, u143c, rfl, u143l⟩ := formIntS (dUnhide T142).now.rd
        go_wp2_with fail
        refine (eqIntS_ _ _ _ _ (dUnhide T53).now.rd (dUnhide T142).now.rd).mono ?_
        rintro e w147 ⟨rfl, b148⟩
        clear T142
        have sz149 := dHide b148.size
        replace X0 := dHide ((dUnhide X0).below b148)
        replace X1 := dHide ((dUnhide X1).below b148)
        replace X10 := dHide ((dUnhide X10).below b148)
        replace OW := dHide ((dUnhide OW).below b148)
        replace T19 := dHide ((dUnhide T19).below b148)
        replace X24 := dHide ((dUnhide X24).below b148)
        replace T42 := dHide ((dUnhide T42).below b148)
        replace X47 := dHide ((dUnhide X47).below b148)
        replace T53 := dHide ((dUnhide T53).below b148)
        replace OG := dHide ((dUnhide OG).below b148)
        replace X69 := dHide ((dUnhide X69).below b148)
        replace B := belowThen B b148
        clear b148
        have k150 := (dUnhide X24).now 0 _ rfl
        have k151 := (dUnhide X24).now 1 _ rfl
        go_wp2_with fail
        refine (markConfig_ _ _ _ _ 1 _ (by omega) (by omega) (dUnhide T19)).mono ?_
        rintro e w152 ⟨rfl, M154, b153⟩
        clear k150 k151
        replace X0 := dHide ((dUnhide X0).wr b153 (by have := dUnhide sz0; have := dUnhide sz1; have := dUnhide sz8; have := dUnhide sz11; have := dUnhide sz12; have := dUnhide sz13; have := dUnhide sz14; have := dUnhide sz15; have := dUnhide sz16; have := dUnhide sz23; have := dUnhide sz26; have := dUnhide sz27; have := dUnhide sz35; have := dUnhide sz46; have := dUnhide sz49; have := dUnhide sz50; have := dUnhide sz52; have := dUnhide sz57; have := dUnhide sz68; have := dUnhide sz71; have := dUnhide sz72; have := dUnhide sz86; have := dUnhide sz89; have := dUnhide sz102; have := dUnhide sz140; have := dUnhide sz146; have := dUnhide sz149; omega))
        replace X1 := dHide ((dUnhide X1).wr b153 (by have := dUnhide sz0; have := dUnhide sz1; have := dUnhide sz8; have := dUnhide sz11; have := dUnhide sz12; have := dUnhide sz13; have := dUnhide sz14; have := dUnhide sz15; have := dUnhide sz16; have := dUnhide sz23; have := dUnhide sz26; have := dUnhide sz27; have := dUnhide sz35; have := dUnhide sz46; have := dUnhide sz49; have := dUnhide sz50; have := dUnhide sz52; have := dUnhide sz57; have := dUnhide sz68; have := dUnhide sz71; have := dUnhide sz72; have := dUnhide sz86; have := dUnhide sz89; have := dUnhide sz102; have := dUnhide sz140; have := dUnhide sz146; have := dUnhide sz149; omega))
        replace X10 := dHide ((dUnhide X10).wr b153 (by have := dUnhide sz0; have := dUnhide sz1; have := dUnhide sz8; have := dUnhide sz11; have := dUnhide sz12; have := dUnhide sz13; have := dUnhide sz14; have := dUnhide sz15; have := dUnhide sz16; have := dUnhide sz23; have := dUnhide sz26; have := dUnhide sz27; have := dUnhide sz35; have := dUnhide sz46; have := dUnhide sz49; have := dUnhide sz50; have := dUnhide sz52; have := dUnhide sz57; have := dUnhide sz68; have := dUnhide sz71; have := dUnhide sz72; have := dUnhide sz86; have := dUnhide sz89; have := dUnhide sz102; have := dUnhide sz140; have := dUnhide sz146; have := dUnhide sz149; omega))
        replace OW := dHide ((dUnhide OW).wr b153 (by have := dUnhide sz0; have := dUnhide sz1; have := dUnhide sz8; have := dUnhide sz11; have := dUnhide sz12; have := dUnhide sz13; have := dUnhide sz14; have := dUnhide sz15; have := dUnhide sz16; have := dUnhide sz23; have := dUnhide sz26; have := dUnhide sz27; have := dUnhide sz35; have := dUnhide sz46; have := dUnhide sz49; have := dUnhide sz50; have := dUnhide sz52; have := dUnhide sz57; have := dUnhide sz68; have := dUnhide sz71; have := dUnhide sz72; have := dUnhide sz86; have := dUnhide sz89; have := dUnhide sz102; have := dUnhide sz140; have := dUnhide sz146; have := dUnhide sz149; omega))
        replace X24 := dHide ((dUnhide X24).wr b153 (by have := dUnhide sz0; have := dUnhide sz1; have := dUnhide sz8; have := dUnhide sz11; have := dUnhide sz12; have := dUnhide sz13; have := dUnhide sz14; have := dUnhide sz15; have := dUnhide sz16; have := dUnhide sz23; have := dUnhide sz26; have := dUnhide sz27; have := dUnhide sz35; have := dUnhide sz46; have := dUnhide sz49; have := dUnhide sz50; have := dUnhide sz52; have := dUnhide sz57; have := dUnhide sz68; have := dUnhide sz71; have := dUnhide sz72; have := dUnhide sz86; have := dUnhide sz89; have := dUnhide sz102; have := dUnhide sz140; have := dUnhide sz146; have := dUnhide sz149; omega))
        replace T42 := dHide ((dUnhide T42).wr b153 (by have := dUnhide sz0; have := dUnhide sz1; have := dUnhide sz8; have := dUnhide sz11; have := dUnhide sz12; have := dUnhide sz13; have := dUnhide sz14; have := dUnhide sz15; have := dUnhide sz16; have := dUnhide sz23; have := dUnhide sz26; have := dUnhide sz27; have := dUnhide sz35; have := dUnhide sz46; have := dUnhide sz49; have := dUnhide sz50; have := dUnhide sz52; have := dUnhide sz57; have := dUnhide sz68; have := dUnhide sz71; have := dUnhide sz72; have := dUnhide sz86; have := dUnhide sz89; have := dUnhide sz102; have := dUnhide sz140; have := dUnhide sz146; have := dUnhide sz149; omega))
        replace X47 := dHide ((dUnhide X47).wr b153 (by have := dUnhide sz0; have := dUnhide sz1; have := dUnhide sz8; have := dUnhide sz11; have := dUnhide sz12; have := dUnhide sz13; have := dUnhide sz14; have := dUnhide sz15; have := dUnhide sz16; have := dUnhide sz23; have := dUnhide sz26; have := dUnhide sz27; have := dUnhide sz35; have := dUnhide sz46; have := dUnhide sz49; have := dUnhide sz50; have := dUnhide sz52; have := dUnhide sz57; have := dUnhide sz68; have := dUnhide sz71; have := dUnhide sz72; have := dUnhide sz86; have := dUnhide sz89; have := dUnhide sz102; have := dUnhide sz140; have := dUnhide sz146; have := dUnhide sz149; omega))
        replace T53 := dHide ((dUnhide T53).wr b153 (by have := dUnhide sz0; have := dUnhide sz1; have := dUnhide sz8; have := dUnhide sz11; have := dUnhide sz12; have := dUnhide sz13; have := dUnhide sz14; have := dUnhide sz15; have := dUnhide sz16; have := dUnhide sz23; have := dUnhide sz26; have := dUnhide sz27; have := dUnhide sz35; have := dUnhide sz46; have := dUnhide sz49; have := dUnhide sz50; have := dUnhide sz52; have := dUnhide sz57; have := dUnhide sz68; have := dUnhide sz71; have := dUnhide sz72; have := dUnhide sz86; have := dUnhide sz89; have := dUnhide sz102; have := dUnhide sz140; have := dUnhide sz146; have := dUnhide sz149; omega))
        replace OG := dHide ((dUnhide OG).wr b153 (by have := dUnhide sz0; have := dUnhide sz1; have := dUnhide sz8; have := dUnhide sz11; have := dUnhide sz12; have := dUnhide sz13; have := dUnhide sz14; have := dUnhide sz15; have := dUnhide sz16; have := dUnhide sz23; have := dUnhide sz26; have := dUnhide sz27; have := dUnhide sz35; have := dUnhide sz46; have := dUnhide sz49; have := dUnhide sz50; have := dUnhide sz52; have := dUnhide sz57; have := dUnhide sz68; have := dUnhide sz71; have := dUnhide sz72; have := dUnhide sz86; have := dUnhide sz89; have := dUnhide sz102; have := dUnhide sz140; have := dUnhide sz146; have := dUnhide sz149; omega))
        replace X69 := dHide ((dUnhide X69).wr b153 (by have := dUnhide sz0; have := dUnhide sz1; have := dUnhide sz8; have := dUnhide sz11; have := dUnhide sz12; have := dUnhide sz13; have := dUnhide sz14; have := dUnhide sz15; have := dUnhide sz16; have := dUnhide sz23; have := dUnhide sz26; have := dUnhide sz27; have := dUnhide sz35; have := dUnhide sz46; have := dUnhide sz49; have := dUnhide sz50; have := dUnhide sz52; have := dUnhide sz57; have := dUnhide sz68; have := dUnhide sz71; have := dUnhide sz72; have := dUnhide sz86; have := dUnhide sz89; have := dUnhide sz102; have := dUnhide sz140; have := dUnhide sz146; have := dUnhide sz149; omega))
        replace B := b153.below B B.size (by have := dUnhide sz0; have := dUnhide sz1; have := dUnhide sz8; have := dUnhide sz11; have := dUnhide sz12; have := dUnhide sz13; have := dUnhide sz14; have := dUnhide sz15; have := dUnhide sz16; have := dUnhide sz23; have := dUnhide sz26; have := dUnhide sz27; have := dUnhide sz35; have := dUnhide sz46; have := dUnhide sz49; have := dUnhide sz50; have := dUnhide sz52; have := dUnhide sz57; have := dUnhide sz68; have := dUnhide sz71; have := dUnhide sz72; have := dUnhide sz86; have := dUnhide sz89; have := dUnhide sz102; have := dUnhide sz140; have := dUnhide sz146; have := dUnhide sz149; omega)
        have sz155 := dHide b153.size
        replace M154 := dHide M154
        clear b153 T19
        have k156 := (dUnhide X47).now 0 _ rfl
        have k157 := (dUnhide X47).now 1 _ rfl
        have k158 := (dUnhide X47).now 2 _ rfl
        have k159 := (dUnhide X47).now 3 _ rfl
        have k160 := (dUnhide X47).now 4 _ rfl
        have k161 := (dUnhide X47).now 5 _ rfl
        go_wp2_with fail
        refine (markMend_ _ _ _ _ (1 + cntConfig m0) _ (by omega) (by omega) (dUnhide T42)).mono ?_
        rintro e w162 ⟨rfl, M164, b163⟩
        clear k156 k157 k158 k159 k160 k161
        replace X0 := dHide ((dUnhide X0).wr b163 (by have := dUnhide sz0; have := dUnhide sz1; have := dUnhide sz8; have := dUnhide sz11; have := dUnhide sz12; have := dUnhide sz13; have := dUnhide sz14; have := dUnhide sz15; have := dUnhide sz16; have := dUnhide sz23; have := dUnhide sz26; have := dUnhide sz27; have := dUnhide sz35; have := dUnhide sz46; have := dUnhide sz49; have := dUnhide sz50; have := dUnhide sz52; have := dUnhide sz57; have := dUnhide sz68; have := dUnhide sz71; have := dUnhide sz72; have := dUnhide sz86; have := dUnhide sz89; have := dUnhide sz102; have := dUnhide sz140; have := dUnhide sz146; have := dUnhide sz149; have := dUnhide sz155; omega))
        replace X1 := dHide ((dUnhide X1).wr b163 (by have := dUnhide sz0; have := dUnhide sz1; have := dUnhide sz8; have := dUnhide sz11; have := dUnhide sz12; have := dUnhide sz13; have := dUnhide sz14; have := dUnhide sz15; have := dUnhide sz16; have := dUnhide sz23; have := dUnhide sz26; have := dUnhide sz27; have := dUnhide sz35; have := dUnhide sz46; have := dUnhide sz49; have := dUnhide sz50; have := dUnhide sz52; have := dUnhide sz57; have := dUnhide sz68; have := dUnhide sz71; have := dUnhide sz72; have := dUnhide sz86; have := dUnhide sz89; have := dUnhide sz102; have := dUnhide sz140; have := dUnhide sz146; have := dUnhide sz149; have := dUnhide sz155; omega))
        replace X10 := dHide ((dUnhide X10).wr b163 (by have := dUnhide sz0; have := dUnhide sz1; have := dUnhide sz8; have := dUnhide sz11; have := dUnhide sz12; have := dUnhide sz13; have := dUnhide sz14; have := dUnhide sz15; have := dUnhide sz16; have := dUnhide sz23; have := dUnhide sz26; have := dUnhide sz27; have := dUnhide sz35; have := dUnhide sz46; have := dUnhide sz49; have := dUnhide sz50; have := dUnhide sz52; have := dUnhide sz57; have := dUnhide sz68; have := dUnhide sz71; have := dUnhide sz72; have := dUnhide sz86; have := dUnhide sz89; have := dUnhide sz102; have := dUnhide sz140; have := dUnhide sz146; have := dUnhide sz149; have := dUnhide sz155; omega))
        replace OW := dHide ((dUnhide OW).wr b163 (by have := dUnhide sz0; have := dUnhide sz1; have := dUnhide sz8; have := dUnhide sz11; have := dUnhide sz12; have := dUnhide sz13; have := dUnhide sz14; have := dUnhide sz15; have := dUnhide sz16; have := dUnhide sz23; have := dUnhide sz26; have := dUnhide sz27; have := dUnhide sz35; have := dUnhide sz46; have := dUnhide sz49; have := dUnhide sz50; have := dUnhide sz52; have := dUnhide sz57; have := dUnhide sz68; have := dUnhide sz71; have := dUnhide sz72; have := dUnhide sz86; have := dUnhide sz89; have := dUnhide sz102; have := dUnhide sz140; have := dUnhide sz146; have := dUnhide sz149; have := dUnhide sz155; omega))
        replace X24 := dHide ((dUnhide X24).wr b163 (by have := dUnhide sz0; have := dUnhide sz1; have := dUnhide sz8; have := dUnhide sz11; have := dUnhide sz12; have := dUnhide sz13; have := dUnhide sz14; have := dUnhide sz15; have := dUnhide sz16; have := dUnhide sz23; have := dUnhide sz26; have := dUnhide sz27; have := dUnhide sz35; have := dUnhide sz46; have := dUnhide sz49; have := dUnhide sz50; have := dUnhide sz52; have := dUnhide sz57; have := dUnhide sz68; have := dUnhide sz71; have := dUnhide sz72; have := dUnhide sz86; have := dUnhide sz89; have := dUnhide sz102; have := dUnhide sz140; have := dUnhide sz146; have := dUnhide sz149; have := dUnhide sz155; omega))
        replace X47 := dHide ((dUnhide X47).wr b163 (by have := dUnhide sz0; have := dUnhide sz1; have := dUnhide sz8; have := dUnhide sz11; have := dUnhide sz12; have := dUnhide sz13; have := dUnhide sz14; have := dUnhide sz15; have := dUnhide sz16; have := dUnhide sz23; have := dUnhide sz26; have := dUnhide sz27; have := dUnhide sz35; have := dUnhide sz46; have := dUnhide sz49; have := dUnhide sz50; have := dUnhide sz52; have := dUnhide sz57; have := dUnhide sz68; have := dUnhide sz71; have := dUnhide sz72; have := dUnhide sz86; have := dUnhide sz89; have := dUnhide sz102; have := dUnhide sz140; have := dUnhide sz146; have := dUnhide sz149; have := dUnhide sz155; omega))
        replace T53 := dHide ((dUnhide T53).wr b163 (by have := dUnhide sz0; have := dUnhide sz1; have := dUnhide sz8; have := dUnhide sz11; have := dUnhide sz12; have := dUnhide sz13; have := dUnhide sz14; have := dUnhide sz15; have := dUnhide sz16; have := dUnhide sz23; have := dUnhide sz26; have := dUnhide sz27; have := dUnhide sz35; have := dUnhide sz46; have := dUnhide sz49; have := dUnhide sz50; have := dUnhide sz52; have := dUnhide sz57; have := dUnhide sz68; have := dUnhide sz71; have := dUnhide sz72; have := dUnhide sz86; have := dUnhide sz89; have := dUnhide sz102; have := dUnhide sz140; have := dUnhide sz146; have := dUnhide sz149; have := dUnhide sz155; omega))
        replace OG := dHide ((dUnhide OG).wr b163 (by have := dUnhide sz0; have := dUnhide sz1; have := dUnhide sz8; have := dUnhide sz11; have := dUnhide sz12; have := dUnhide sz13; have := dUnhide sz14; have := dUnhide sz15; have := dUnhide sz16; have := dUnhide sz23; have := dUnhide sz26; have := dUnhide sz27; have := dUnhide sz35; have := dUnhide sz46; have := dUnhide sz49; have := dUnhide sz50; have := dUnhide sz52; have := dUnhide sz57; have := dUnhide sz68; have := dUnhide sz71; have := dUnhide sz72; have := dUnhide sz86; have := dUnhide sz89; have := dUnhide sz102; have := dUnhide sz140; have := dUnhide sz146; have := dUnhide sz149; have := dUnhide sz155; omega))
        replace X69 := dHide ((dUnhide X69).wr b163 (by have := dUnhide sz0; have := dUnhide sz1; have := dUnhide sz8; have := dUnhide sz11; have := dUnhide sz12; have := dUnhide sz13; have := dUnhide sz14; have := dUnhide sz15; have := dUnhide sz16; have := dUnhide sz23; have := dUnhide sz26; have := dUnhide sz27; have := dUnhide sz35; have := dUnhide sz46; have := dUnhide sz49; have := dUnhide sz50; have := dUnhide sz52; have := dUnhide sz57; have := dUnhide sz68; have := dUnhide sz71; have := dUnhide sz72; have := dUnhide sz86; have := dUnhide sz89; have := dUnhide sz102; have := dUnhide sz140; have := dUnhide sz146; have := dUnhide sz149; have := dUnhide sz155; omega))
        replace M154 := dHide ((dUnhide M154).wr b163 (by have := dUnhide sz0; have := dUnhide sz1; have := dUnhide sz8; have := dUnhide sz11; have := dUnhide sz12; have := dUnhide sz13; have := dUnhide sz14; have := dUnhide sz15; have := dUnhide sz16; have := dUnhide sz23; have := dUnhide sz26; have := dUnhide sz27; have := dUnhide sz35; have := dUnhide sz46; have := dUnhide sz49; have := dUnhide sz50; have := dUnhide sz52; have := dUnhide sz57; have := dUnhide sz68; have := dUnhide sz71; have := dUnhide sz72; have := dUnhide sz86; have := dUnhide sz89; have := dUnhide sz102; have := dUnhide sz140; have := dUnhide sz146; have := dUnhide sz149; have := dUnhide sz155; omega))
        replace B := b163.below B B.size (by have := dUnhide sz0; have := dUnhide sz1; have := dUnhide sz8; have := dUnhide sz11; have := dUnhide sz12; have := dUnhide sz13; have := dUnhide sz14; have := dUnhide sz15; have := dUnhide sz16; have := dUnhide sz23; have := dUnhide sz26; have := dUnhide sz27; have := dUnhide sz35; have := dUnhide sz46; have := dUnhide sz49; have := dUnhide sz50; have := dUnhide sz52; have := dUnhide sz57; have := dUnhide sz68; have := dUnhide sz71; have := dUnhide sz72; have := dUnhide sz86; have := dUnhide sz89; have := dUnhide sz102; have := dUnhide sz140; have := dUnhide sz146; have := dUnhide sz149; have := dUnhide sz155; omega)
        have sz165 := dHide b163.size
        replace M164 := dHide M164
        clear b163 T42
        go_wp2_with fail
        refine (markIntS_ _ _ _ _ (1 + cntConfig m0 + cntMend m1) _ (by omega) (by omega) (dUnhide T53)).mono ?_
        rintro e w166 ⟨rfl, M168, b167⟩
        replace X0 := dHide ((dUnhide X0).wr b167 (by have := dUnhide sz0; have := dUnhide sz1; have := dUnhide sz8; have := dUnhide sz11; have := dUnhide sz12; have := dUnhide sz13; have := dUnhide sz14; have := dUnhide sz15; have := dUnhide sz16; have := dUnhide sz23; have := dUnhide sz26; have := dUnhide sz27; have := dUnhide sz35; have := dUnhide sz46; have := dUnhide sz49; have := dUnhide sz50; have := dUnhide sz52; have := dUnhide sz57; have := dUnhide sz68; have := dUnhide sz71; have := dUnhide sz72; have := dUnhide sz86; have := dUnhide sz89; have := dUnhide sz102; have := dUnhide sz140; have := dUnhide sz146; have := dUnhide sz149; have := dUnhide sz155; have := dUnhide sz165; omega))
        replace X1 := dHide ((dUnhide X1).wr b167 (by have := dUnhide sz0; have := dUnhide sz1; have := dUnhide sz8; have := dUnhide sz11; have := dUnhide sz12; have := dUnhide sz13; have := dUnhide sz14; have := dUnhide sz15; have := dUnhide sz16; have := dUnhide sz23; have := dUnhide sz26; have := dUnhide sz27; have := dUnhide sz35; have := dUnhide sz46; have := dUnhide sz49; have := dUnhide sz50; have := dUnhide sz52; have := dUnhide sz57; have := dUnhide sz68; have := dUnhide sz71; have := dUnhide sz72; have := dUnhide sz86; have := dUnhide sz89; have := dUnhide sz102; have := dUnhide sz140; have := dUnhide sz146; have := dUnhide sz149; have := dUnhide sz155; have := dUnhide sz165; omega))
        replace X10 := dHide ((dUnhide X10).wr b167 (by have := dUnhide sz0; have := dUnhide sz1; have := dUnhide sz8; have := dUnhide sz11; have := dUnhide sz12; have := dUnhide sz13; have := dUnhide sz14; have := dUnhide sz15; have := dUnhide sz16; have := dUnhide sz23; have := dUnhide sz26; have := dUnhide sz27; have := dUnhide sz35; have := dUnhide sz46; have := dUnhide sz49; have := dUnhide sz50; have := dUnhide sz52; have := dUnhide sz57; have := dUnhide sz68; have := dUnhide sz71; have := dUnhide sz72; have := dUnhide sz86; have := dUnhide sz89; have := dUnhide sz102; have := dUnhide sz140; have := dUnhide sz146; have := dUnhide sz149; have := dUnhide sz155; have := dUnhide sz165; omega))
        replace OW := dHide ((dUnhide OW).wr b167 (by have := dUnhide sz0; have := dUnhide sz1; have := dUnhide sz8; have := dUnhide sz11; have := dUnhide sz12; have := dUnhide sz13; have := dUnhide sz14; have := dUnhide sz15; have := dUnhide sz16; have := dUnhide sz23; have := dUnhide sz26; have := dUnhide sz27; have := dUnhide sz35; have := dUnhide sz46; have := dUnhide sz49; have := dUnhide sz50; have := dUnhide sz52; have := dUnhide sz57; have := dUnhide sz68; have := dUnhide sz71; have := dUnhide sz72; have := dUnhide sz86; have := dUnhide sz89; have := dUnhide sz102; have := dUnhide sz140; have := dUnhide sz146; have := dUnhide sz149; have := dUnhide sz155; have := dUnhide sz165; omega))
        replace X24 := dHide ((dUnhide X24).wr b167 (by have := dUnhide sz0; have := dUnhide sz1; have := dUnhide sz8; have := dUnhide sz11; have := dUnhide sz12; have := dUnhide sz13; have := dUnhide sz14; have := dUnhide sz15; have := dUnhide sz16; have := dUnhide sz23; have := dUnhide sz26; have := dUnhide sz27; have := dUnhide sz35; have := dUnhide sz46; have := dUnhide sz49; have := dUnhide sz50; have := dUnhide sz52; have := dUnhide sz57; have := dUnhide sz68; have := dUnhide sz71; have := dUnhide sz72; have := dUnhide sz86; have := dUnhide sz89; have := dUnhide sz102; have := dUnhide sz140; have := dUnhide sz146; have := dUnhide sz149; have := dUnhide sz155; have := dUnhide sz165; omega))
        replace X47 := dHide ((dUnhide X47).wr b167 (by have := dUnhide sz0; have := dUnhide sz1; have := dUnhide sz8; have := dUnhide sz11; have := dUnhide sz12; have := dUnhide sz13; have := dUnhide sz14; have := dUnhide sz15; have := dUnhide sz16; have := dUnhide sz23; have := dUnhide sz26; have := dUnhide sz27; have := dUnhide sz35; have := dUnhide sz46; have := dUnhide sz49; have := dUnhide sz50; have := dUnhide sz52; have := dUnhide sz57; have := dUnhide sz68; have := dUnhide sz71; have := dUnhide sz72; have := dUnhide sz86; have := dUnhide sz89; have := dUnhide sz102; have := dUnhide sz140; have := dUnhide sz146; have := dUnhide sz149; have := dUnhide sz155; have := dUnhide sz165; omega))
        replace OG := dHide ((dUnhide OG).wr b167 (by have := dUnhide sz0; have := dUnhide sz1; have := dUnhide sz8; have := dUnhide sz11; have := dUnhide sz12; have := dUnhide sz13; have := dUnhide sz14; have := dUnhide sz15; have := dUnhide sz16; have := dUnhide sz23; have := dUnhide sz26; have := dUnhide sz27; have := dUnhide sz35; have := dUnhide sz46; have := dUnhide sz49; have := dUnhide sz50; have := dUnhide sz52; have := dUnhide sz57; have := dUnhide sz68; have := dUnhide sz71; have := dUnhide sz72; have := dUnhide sz86; have := dUnhide sz89; have := dUnhide sz102; have := dUnhide sz140; have := dUnhide sz146; have := dUnhide sz149; have := dUnhide sz155; have := dUnhide sz165; omega))
        replace X69 := dHide ((dUnhide X69).wr b167 (by have := dUnhide sz0; have := dUnhide sz1; have := dUnhide sz8; have := dUnhide sz11; have := dUnhide sz12; have := dUnhide sz13; have := dUnhide sz14; have := dUnhide sz15; have := dUnhide sz16; have := dUnhide sz23; have := dUnhide sz26; have := dUnhide sz27; have := dUnhide sz35; have := dUnhide sz46; have := dUnhide sz49; have := dUnhide sz50; have := dUnhide sz52; have := dUnhide sz57; have := dUnhide sz68; have := dUnhide sz71; have := dUnhide sz72; have := dUnhide sz86; have := dUnhide sz89; have := dUnhide sz102; have := dUnhide sz140; have := dUnhide sz146; have := dUnhide sz149; have := dUnhide sz155; have := dUnhide sz165; omega))
        replace M154 := dHide ((dUnhide M154).wr b167 (by have := dUnhide sz0; have := dUnhide sz1; have := dUnhide sz8; have := dUnhide sz11; have := dUnhide sz12; have := dUnhide sz13; have := dUnhide sz14; have := dUnhide sz15; have := dUnhide sz16; have := dUnhide sz23; have := dUnhide sz26; have := dUnhide sz27; have := dUnhide sz35; have := dUnhide sz46; have := dUnhide sz49; have := dUnhide sz50; have := dUnhide sz52; have := dUnhide sz57; have := dUnhide sz68; have := dUnhide sz71; have := dUnhide sz72; have := dUnhide sz86; have := dUnhide sz89; have := dUnhide sz102; have := dUnhide sz140; have := dUnhide sz146; have := dUnhide sz149; have := dUnhide sz155; have := dUnhide sz165; omega))
        replace M164 := dHide ((dUnhide M164).wr b167 (by have := dUnhide sz0; have := dUnhide sz1; have := dUnhide sz8; have := dUnhide sz11; have := dUnhide sz12; have := dUnhide sz13; have := dUnhide sz14; have := dUnhide sz15; have := dUnhide sz16; have := dUnhide sz23; have := dUnhide sz26; have := dUnhide sz27; have := dUnhide sz35; have := dUnhide sz46; have := dUnhide sz49; have := dUnhide sz50; have := dUnhide sz52; have := dUnhide sz57; have := dUnhide sz68; have := dUnhide sz71; have := dUnhide sz72; have := dUnhide sz86; have := dUnhide sz89; have := dUnhide sz102; have := dUnhide sz140; have := dUnhide sz146; have := dUnhide sz149; have := dUnhide sz155; have := dUnhide sz165; omega))
        replace B := b167.below B B.size (by have := dUnhide sz0; have := dUnhide sz1; have := dUnhide sz8; have := dUnhide sz11; have := dUnhide sz12; have := dUnhide sz13; have := dUnhide sz14; have := dUnhide sz15; have := dUnhide sz16; have := dUnhide sz23; have := dUnhide sz26; have := dUnhide sz27; have := dUnhide sz35; have := dUnhide sz46; have := dUnhide sz49; have := dUnhide sz50; have := dUnhide sz52; have := dUnhide sz57; have := dUnhide sz68; have := dUnhide sz71; have := dUnhide sz72; have := dUnhide sz86; have := dUnhide sz89; have := dUnhide sz102; have := dUnhide sz140; have := dUnhide sz146; have := dUnhide sz149; have := dUnhide sz155; have := dUnhide sz165; omega)
        have sz169 := dHide b167.size
        replace M168 := dHide M168
        clear b167 T53
        clear M154 M164 M168 X24 X47
        have hk : ¬ (((1 + cntConfig m0 + cntMend m1 + cntIntS m2 : Nat) : Int) < 0) := by omega
        have k170 := (dUnhide X69).now 0 _ rfl
        have k171 := (dUnhide X69).now 1 _ rfl
        have k172 := (dUnhide X69).now 2 _ rfl
        have k173 := (dUnhide X69).now 3 _ rfl
        have k174 := (dUnhide X69).now 4 _ rfl
        have k175 := (dUnhide X69).now 5 _ rfl
        have k176 := (dUnhide X10).now 0 _ rfl
        have k177 := (dUnhide X10).now 1 _ rfl
        have k178 := (dUnhide X10).now 2 _ rfl
        have k179 := (dUnhide X10).now 3 _ rfl
        have k180 := (dUnhide X10).now 4 _ rfl
        have k181 := (dUnhide X10).now 5 _ rfl
        go_wp2_with fail
        refine (eqMend_ _ _ _ _ (dUnhide OG).now.rd (dUnhide OW).now.rd).mono ?_
        rintro e w182 ⟨rfl, b183⟩
        clear k170 k171 k172 k173 k174 k175 k176 k177 k178 k179 k180 k181
        have sz184 := dHide b183.size
        replace X0 := dHide ((dUnhide X0).below b183)
        replace X1 := dHide ((dUnhide X1).below b183)
        replace X10 := dHide ((dUnhide X10).below b183)
        replace OW := dHide ((dUnhide OW).below b183)
        replace OG := dHide ((dUnhide OG).below b183)
        replace X69 := dHide ((dUnhide X69).below b183)
        replace B := belowThen B b183
        clear b183
        have k185 := (dUnhide X69).now 0 _ rfl
        have k186 := (dUnhide X69).now 1 _ rfl
        have k187 := (dUnhide X69).now 2 _ rfl
        have k188 := (dUnhide X69).now 3 _ rfl
        have k189 := (dUnhide X69).now 4 _ rfl
        have k190 := (dUnhide X69).now 5 _ rfl
        go_wp2_with fail
        refine (markMend_ _ _ _ _ 1 _ (by omega) (by omega) (dUnhide OG)).mono ?_
        rintro e w191 ⟨rfl, M193, b192⟩
        clear k185 k186 k187 k188 k189 k190
        replace X0 := dHide ((dUnhide X0).wr b192 (by have := dUnhide sz0; have := dUnhide sz1; have := dUnhide sz8; have := dUnhide sz11; have := dUnhide sz12; have := dUnhide sz13; have := dUnhide sz14; have := dUnhide sz15; have := dUnhide sz16; have := dUnhide sz23; have := dUnhide sz26; have := dUnhide sz27; have := dUnhide sz35; have := dUnhide sz46; have := dUnhide sz49; have := dUnhide sz50; have := dUnhide sz52; have := dUnhide sz57; have := dUnhide sz68; have := dUnhide sz71; have := dUnhide sz72; have := dUnhide sz86; have := dUnhide sz89; have := dUnhide sz102; have := dUnhide sz140; have := dUnhide sz146; have := dUnhide sz149; have := dUnhide sz155; have := dUnhide sz165; have := dUnhide sz169; have := dUnhide sz184; omega))
        replace X1 := dHide ((dUnhide X1).wr b192 (by have := dUnhide sz0; have := dUnhide sz1; have := dUnhide sz8; have := dUnhide sz11; have := dUnhide sz12; have := dUnhide sz13; have := dUnhide sz14; have := dUnhide sz15; have := dUnhide sz16; have := dUnhide sz23; have := dUnhide sz26; have := dUnhide sz27; have := dUnhide sz35; have := dUnhide sz46; have := dUnhide sz49; have := dUnhide sz50; have := dUnhide sz52; have := dUnhide sz57; have := dUnhide sz68; have := dUnhide sz71; have := dUnhide sz72; have := dUnhide sz86; have := dUnhide sz89; have := dUnhide sz102; have := dUnhide sz140; have := dUnhide sz146; have := dUnhide sz149; have := dUnhide sz155; have := dUnhide sz165; have := dUnhide sz169; have := dUnhide sz184; omega))
        replace X10 := dHide ((dUnhide X10).wr b192 (by have := dUnhide sz0; have := dUnhide sz1; have := dUnhide sz8; have := dUnhide sz11; have := dUnhide sz12; have := dUnhide sz13; have := dUnhide sz14; have := dUnhide sz15; have := dUnhide sz16; have := dUnhide sz23; have := dUnhide sz26; have := dUnhide sz27; have := dUnhide sz35; have := dUnhide sz46; have := dUnhide sz49; have := dUnhide sz50; have := dUnhide sz52; have := dUnhide sz57; have := dUnhide sz68; have := dUnhide sz71; have := dUnhide sz72; have := dUnhide sz86; have := dUnhide sz89; have := dUnhide sz102; have := dUnhide sz140; have := dUnhide sz146; have := dUnhide sz149; have := dUnhide sz155; have := dUnhide sz165; have := dUnhide sz169; have := dUnhide sz184; omega))
        replace OW := dHide ((dUnhide OW).wr b192 (by have := dUnhide sz0; have := dUnhide sz1; have := dUnhide sz8; have := dUnhide sz11; have := dUnhide sz12; have := dUnhide sz13; have := dUnhide sz14; have := dUnhide sz15; have := dUnhide sz16; have := dUnhide sz23; have := dUnhide sz26; have := dUnhide sz27; have := dUnhide sz35; have := dUnhide sz46; have := dUnhide sz49; have := dUnhide sz50; have := dUnhide sz52; have := dUnhide sz57; have := dUnhide sz68; have := dUnhide sz71; have := dUnhide sz72; have := dUnhide sz86; have := dUnhide sz89; have := dUnhide sz102; have := dUnhide sz140; have := dUnhide sz146; have := dUnhide sz149; have := dUnhide sz155; have := dUnhide sz165; have := dUnhide sz169; have := dUnhide sz184; omega))
        replace X69 := dHide ((dUnhide X69).wr b192 (by have := dUnhide sz0; have := dUnhide sz1; have := dUnhide sz8; have := dUnhide sz11; have := dUnhide sz12; have := dUnhide sz13; have := dUnhide sz14; have := dUnhide sz15; have := dUnhide sz16; have := dUnhide sz23; have := dUnhide sz26; have := dUnhide sz27; have := dUnhide sz35; have := dUnhide sz46; have := dUnhide sz49; have := dUnhide sz50; have := dUnhide sz52; have := dUnhide sz57; have := dUnhide sz68; have := dUnhide sz71; have := dUnhide sz72; have := dUnhide sz86; have := dUnhide sz89; have := dUnhide sz102; have := dUnhide sz140; have := dUnhide sz146; have := dUnhide sz149; have := dUnhide sz155; have := dUnhide sz165; have := dUnhide sz169; have := dUnhide sz184; omega))
        replace B := b192.below B B.size (by have := dUnhide sz0; have := dUnhide sz1; have := dUnhide sz8; have := dUnhide sz11; have := dUnhide sz12; have := dUnhide sz13; have := dUnhide sz14; have := dUnhide sz15; have := dUnhide sz16; have := dUnhide sz23; have := dUnhide sz26; have := dUnhide sz27; have := dUnhide sz35; have := dUnhide sz46; have := dUnhide sz49; have := dUnhide sz50; have := dUnhide sz52; have := dUnhide sz57; have := dUnhide sz68; have := dUnhide sz71; have := dUnhide sz72; have := dUnhide sz86; have := dUnhide sz89; have := dUnhide sz102; have := dUnhide sz140; have := dUnhide sz146; have := dUnhide sz149; have := dUnhide sz155; have := dUnhide sz165; have := dUnhide sz169; have := dUnhide sz184; omega)
        have sz194 := dHide b192.size
        replace M193 := dHide M193
        clear b192 OG
        have k195 := (dUnhide X69).now 0 _ rfl
        have k196 := (dUnhide X69).now 1 _ rfl
        have k197 := (dUnhide X69).now 2 _ rfl
        have k198 := (dUnhide X69).now 3 _ rfl
        have k199 := (dUnhide X69).now 4 _ rfl
        have k200 := (dUnhide X69).now 5 _ rfl
        go_wp2_with fail
        refine (heldMend_ _ R 1 _ (by omega) (by omega) (dUnhide M193).now.rd).mono ?_
        rintro e w201 ⟨rfl, b202⟩
        clear k195 k196 k197 k198 k199 k200
        have sz203 := dHide b202.size
        replace X0 := dHide ((dUnhide X0).below b202)
        replace X1 := dHide ((dUnhide X1).below b202)
        replace X10 := dHide ((dUnhide X10).below b202)
        replace OW := dHide ((dUnhide OW).below b202)
        replace X69 := dHide ((dUnhide X69).below b202)
        replace M193 := dHide ((dUnhide M193).below b202)
        replace B := belowThen B b202
        clear b202
        have hq : ¬ (((1 + cntMend R : Nat) : Int) < 0) := by omega
        go_wp2_with fail
        have hC : ∀ W, Below w201.heap.size w201 W → W.cell? ⟨w.heap.size, 0, none⟩ = some (.slice v0a m0.1.length v0c) ∧ W.cell? ⟨w.heap.size, 1, none⟩ = some (.int .i64 m0.2) ∧ W.cell? ⟨w.heap.size + 1, 0, none⟩ = some (.int .i64 m1.bye) ∧ W.cell? ⟨w.heap.size + 1, 1, none⟩ = some (.int .i64 m1.epoch) ∧ W.cell? ⟨w.heap.size + 1, 2, none⟩ = some (.slice v1sa m1.sealed.length v1sc) ∧ W.cell? ⟨w.heap.size + 1, 3, none⟩ = some (.slice v1ea m1.seen.length v1ec) ∧ W.cell? ⟨w.heap.size + 1, 4, none⟩ = some (.bool m1.planned) ∧ W.cell? ⟨w.heap.size + 1, 5, none⟩ = some (.slice v1wa m1.wrote.length v1wc) := fun W hb =>
          ⟨(dUnhide X0).at hb 0 _ rfl, (dUnhide X0).at hb 1 _ rfl, (dUnhide X1).at hb 0 _ rfl, (dUnhide X1).at hb 1 _ rfl, (dUnhide X1).at hb 2 _ rfl, (dUnhide X1).at hb 3 _ rfl, (dUnhide X1).at hb 4 _ rfl, (dUnhide X1).at hb 5 _ rfl⟩
        have HC := dHide hC
        have hbr := Below.refl w201.heap.size w201
        obtain ⟨kd2050, kd2051, kd2052, kd2053, kd2054, kd2055, kd2056, kd2057⟩ := hC w201 hbr
        clear hC
        go_cut [18, 19] (fun sv t1 wx => ∃ (bv lo hi : Nat) (sa : Option Addr) (sc : Nat) (ea : Option Addr) (ec : Nat) (wa : Option Addr) (wc : Nat), sv = .pointer (some ⟨bv, 0, none⟩) ∧ t1 = .bool s1 ∧ Sits (Box bv #[.int .i64 R.bye, .int .i64 R.epoch, .slice sa R.sealed.length sc, .slice ea R.seen.length ec, .bool R.planned, .slice wa R.wrote.length wc]) bv (bv + 1) wx ∧ Sits (OwMend lo hi (.agg #[.int .i64 R.bye, .int .i64 R.epoch, .slice sa R.sealed.length sc, .slice ea R.seen.length ec, .bool R.planned, .slice wa R.wrote.length wc]) R) lo hi wx ∧ (bv < lo ∨ hi ≤ bv) ∧ w201.heap.size ≤ bv ∧ w201.heap.size ≤ lo ∧ Below w201.heap.size w201 wx)
        case first =>
          clear kd2050 kd2051 kd2052 kd2053 kd2054 kd2055 kd2056 kd2057
          have hcur := hbr.drew
          refine wp_region_noPanic ?_
          refine wp_region_held_drew (S := fun W => W.cell? ⟨w.heap.size, 0, none⟩ = some (.slice v0a m0.1.length v0c) ∧ W.cell? ⟨w.heap.size, 1, none⟩ = some (.int .i64 m0.2) ∧ W.cell? ⟨w.heap.size + 1, 0, none⟩ = some (.int .i64 m1.bye) ∧ W.cell? ⟨w.heap.size + 1, 1, none⟩ = some (.int .i64 m1.epoch) ∧ W.cell? ⟨w.heap.size + 1, 2, none⟩ = some (.slice v1sa m1.sealed.length v1sc) ∧ W.cell? ⟨w.heap.size + 1, 3, none⟩ = some (.slice v1ea m1.seen.length v1ec) ∧ W.cell? ⟨w.heap.size + 1, 4, none⟩ = some (.bool m1.planned) ∧ W.cell? ⟨w.heap.size + 1, 5, none⟩ = some (.slice v1wa m1.wrote.length v1wc)) (by kernel_rfl) (by first | exact dUnhide HC _ hcur | exact dUnhide HC _ hst | exact dUnhide HC _ hbr | fail) (fun hHeld => ?_)
          clear hbr
          generalize w201.drew = wd at *
          refine wpAnyH_take (i := 0) (oi := { dst := some 114, op := Op.load 51 (Operand.tmp 3), type := 51, pos := "exact.go:3373", after := #[], guard := none }) (v := ?_) rfl (by kernel_rfl) (by kernel_rfl) (by kernel_rfl) (fun _ _ _ h => h) (Or.inl ⟨by rfl, ?_⟩) (by assumption) ?_
          rotate_left 1
          · intro w hSw
            (try dsimp only at hSw)
            first | (go_simp; done) | (go_simp; with_reducible rfl)
          try simp only [Act.put, List.setIfInBounds_toArray, List.set_cons_zero, List.set_cons_succ]
          refine wpAnyH_take (i := 2) (oi := { dst := some 116, op := Op.load 54 (Operand.tmp 4), type := 54, pos := "exact.go:3373", after := #[], guard := none }) (v := ?_) rfl (by kernel_rfl) (by kernel_rfl) (by kernel_rfl) (fun _ _ _ h => h) (Or.inl ⟨by rfl, ?_⟩) (by assumption) ?_
          rotate_left 1
          · intro w hSw
            (try dsimp only at hSw)
            first | (go_simp; done) | (go_simp; with_reducible rfl)
          try simp only [Act.put, List.setIfInBounds_toArray, List.set_cons_zero, List.set_cons_succ]
          refine wpAnyH_take (i := 4) (oi := { dst := some 118, op := Op.move (Operand.tmp 2), type := 24, pos := "exact.go:3373", after := #[], guard := none }) (v := ?_) rfl (by kernel_rfl) (by kernel_rfl) (by kernel_rfl) (fun _ _ _ h => h) (Or.inl ⟨by rfl, ?_⟩) (by assumption) ?_
          rotate_left 1
          · intro w hSw
            (try dsimp only at hSw)
            first | (go_simp; done) | (go_simp; with_reducible rfl)
          try simp only [Act.put, List.setIfInBounds_toArray, List.set_cons_zero, List.set_cons_succ]
          refine wpAnyH_ready (rs := [1, 10]) (by kernel_rfl) (by simp) ?_
          refine AllReadyH.cons (o := { dst := some 115, op := Op.call { callee := Callee.value (Operand.func 30), args := #[Operand.tmp 114], argTypes := #[51] }, type := 26, pos := "exact.go:3373", after := #[{ on := 0, ground := Ground.data }], guard := none }) rfl (fun K hK => ?_) (AllReadyH.cons (o := { dst := some 18, op := Op.alloc 30, type := 0, pos := "exact.go:3373", after := #[], guard := none }) rfl (fun K hK => ?_) AllReadyH.nil)
          · go_simp
            refine (toConfig_ _ m0 _ hs0 (dUnhide A0 _ (belowThen B hcur))).mono ?_
            rintro e wq0 ⟨o0, rfl, q0, b0⟩
            replace hcur := belowThen hcur b0
            (try replace zz := BxZ.below zz b0)
            have Q0 := dHide q0
            obtain ⟨o0a, o0c, rfl, o0l⟩ := formConfig q0.now.rd
            clear q0 b0
            (try go_wp2_with fail)
            refine hK.out _ _ (by first | exact dUnhide HC _ hcur | exact dUnhide HC _ hst | exact dUnhide HC _ hbr | fail) (fun hHeld => ?_)
            clear hK K
            try simp only [Act.put, List.setIfInBounds_toArray, List.set_cons_zero, List.set_cons_succ]
            refine wpAnyH_ready (rs := [3, 10]) (by kernel_rfl) (by simp) ?_
            refine AllReadyH.cons (o := { dst := some 117, op := Op.call { callee := Callee.value (Operand.func 31), args := #[Operand.tmp 116], argTypes := #[54] }, type := 30, pos := "exact.go:3373", after := #[{ on := 2, ground := Ground.data }, { on := 1, ground := Ground.chain }], guard := none }) rfl (fun K hK => ?_) (AllReadyH.cons (o := { dst := some 18, op := Op.alloc 30, type := 0, pos := "exact.go:3373", after := #[], guard := none }) rfl (fun K hK => ?_) AllReadyH.nil)
            · go_simp
              refine (toMend_ _ m1 _ hs1 (dUnhide A1 _ (belowThen B hcur))).mono ?_
              rintro e wq1 ⟨o1, rfl, q1, b1⟩
              replace hcur := belowThen hcur b1
              (try replace zz := BxZ.below zz b1)
              replace Q0 := dHide ((dUnhide Q0).below b1)
              have Q1 := dHide q1
              obtain ⟨o1sa, o1sc, o1ea, o1ec, o1wa, o1wc, rfl, o1l1, o1l2, o1l3⟩ := formMend q1.now.rd
              clear q1 b1
              (try go_wp2_with fail)
              refine hK.out _ _ (by first | exact dUnhide HC _ hcur | exact dUnhide HC _ hst | exact dUnhide HC _ hbr | fail) (fun hHeld => ?_)
              clear hK K
              try simp only [Act.put, List.setIfInBounds_toArray, List.set_cons_zero, List.set_cons_succ]
              refine wpAnyH_ready (rs := [5, 10]) (by kernel_rfl) (by simp) ?_
              refine AllReadyH.cons (o := { dst := some 119, op := Op.call { callee := Callee.value (Operand.func 40), args := #[Operand.tmp 118], argTypes := #[24] }, type := 24, pos := "exact.go:3373", after := #[{ on := 4, ground := Ground.data }, { on := 3, ground := Ground.chain }], guard := none }) rfl (fun K hK => ?_) (AllReadyH.cons (o := { dst := some 18, op := Op.alloc 30, type := 0, pos := "exact.go:3373", after := #[], guard := none }) rfl (fun K hK => ?_) AllReadyH.nil)
              · go_simp
                refine (toIntS_ _ m2 _ hs2 (dUnhide A2 _ (belowThen B hcur))).mono ?_
                rintro e wq2 ⟨o2, rfl, q2, b2⟩
                replace hcur := belowThen hcur b2
                (try replace zz := BxZ.below zz b2)
                replace Q0 := dHide ((dUnhide Q0).below b2)
                replace Q1 := dHide ((dUnhide Q1).below b2)
                have Q2 := dHide q2
                obtain ⟨o2a, o2c, rfl, o2l⟩ := formIntS q2.now.rd
                clear q2 b2
                (try go_wp2_with fail)
                refine hK.out _ _ (by first | exact dUnhide HC _ hcur | exact dUnhide HC _ hst | exact dUnhide HC _ hbr | fail) (fun hHeld => ?_)
                clear hK K
                try simp only [Act.put, List.setIfInBounds_toArray, List.set_cons_zero, List.set_cons_succ]
                refine wpAnyH_ready (rs := [6, 10]) (by kernel_rfl) (by simp) ?_
                refine AllReadyH.cons (o := { dst := some 120, op := Op.call { callee := Callee.value (Operand.func 16), args := #[Operand.tmp 115, Operand.tmp 117, Operand.tmp 119], argTypes := #[26, 30, 24] }, type := 33, pos := "exact.go:3373", after := #[{ on := 1, ground := Ground.data }, { on := 3, ground := Ground.data }, { on := 5, ground := Ground.data }, { on := 5, ground := Ground.chain }], guard := none }) rfl (fun K hK => ?_) (AllReadyH.cons (o := { dst := some 18, op := Op.alloc 30, type := 0, pos := "exact.go:3373", after := #[], guard := none }) rfl (fun K hK => ?_) AllReadyH.nil)
                · go_simp
                  (try have hlo := BxZ.lt zz)
                  have hcz := hcur.size
                  refine (dUnhide CI _ _ _ _ (dUnhide Q0).now.rd (dUnhide Q1).now.rd (dUnhide Q2).now.rd).mono ?_
                  rintro e w5 ⟨u5, rfl, q5, b5⟩
                  replace hcur := belowThen hcur b5
                  (try replace zz := BxZ.below zz b5)
                  have Q5 := dHide q5
                  obtain ⟨o5sa, o5sc, o5ea, o5ec, o5wa, o5wc, rfl, o5l1, o5l2, o5l3⟩ := formMend q5.now.rd
                  clear q5 b5 Q0 Q1 Q2
                  (try go_wp2_with fail)
                  refine hK.out _ _ (by first | exact dUnhide HC _ hcur | exact dUnhide HC _ hst | exact dUnhide HC _ hbr | fail) (fun hHeld => ?_)
                  clear hK K
                  try simp only [Act.put, List.setIfInBounds_toArray, List.set_cons_zero, List.set_cons_succ]
                  refine wpAnyH_take (i := 7) (oi := { dst := some 113, op := Op.move (Operand.tmp 120), type := 33, pos := "exact.go:3373", after := #[{ on := 6, ground := Ground.data }], guard := none }) (v := ?_) rfl (by kernel_rfl) (by kernel_rfl) (by kernel_rfl) (fun _ _ _ h => h) (Or.inl ⟨by rfl, ?_⟩) (by assumption) ?_
                  rotate_left 1
                  · intro w hSw
                    (try dsimp only at hSw)
                    first | (go_simp; done) | (go_simp; with_reducible rfl)
                  try simp only [Act.put, List.setIfInBounds_toArray, List.set_cons_zero, List.set_cons_succ]
                  refine wpAnyH_take (i := 8) (oi := { dst := some 121, op := Op.extract (Operand.tmp 113) 0, type := 30, pos := "exact.go:3373", after := #[{ on := 7, ground := Ground.data }], guard := none }) (v := ?_) rfl (by kernel_rfl) (by kernel_rfl) (by kernel_rfl) (fun _ _ _ h => h) (Or.inl ⟨by rfl, ?_⟩) (by assumption) ?_
                  rotate_left 1
                  · intro w hSw
                    (try dsimp only at hSw)
                    first | (go_simp; done) | (go_simp; with_reducible rfl)
                  try simp only [Act.put, List.setIfInBounds_toArray, List.set_cons_zero, List.set_cons_succ]
                  refine wpAnyH_take (i := 9) (oi := { dst := some 122, op := Op.extract (Operand.tmp 113) 1, type := 4, pos := "exact.go:3373", after := #[{ on := 7, ground := Ground.data }, { on := 11, ground := Ground.gcOnly Departure.lateStores }], guard := none }) (v := ?_) rfl (by kernel_rfl) (by kernel_rfl) (by kernel_rfl) (fun _ _ _ h => h) (Or.inl ⟨by rfl, ?_⟩) (by assumption) ?_
                  rotate_left 1
                  · intro w hSw
                    (try dsimp only at hSw)
                    first | (go_simp; done) | (go_simp; with_reducible rfl)
                  try simp only [Act.put, List.setIfInBounds_toArray, List.set_cons_zero, List.set_cons_succ]
                  refine wpAnyH_ready (rs := [10]) (by kernel_rfl) (by simp) ?_
                  refine AllReadyH.cons (o := { dst := some 18, op := Op.alloc 30, type := 0, pos := "exact.go:3373", after := #[], guard := none }) rfl (fun K hK => ?_) AllReadyH.nil
                  go_simp
                  have zz := BxZ.new (B := w201.heap.size) _ [.int .i64 0, .int .i64 0, .slice none 0 0, .slice none 0 0, .bool false, .slice none 0 0] 30 hcur.size
                  (try replace Q0 := dHide ((dUnhide Q0).below (ha _ (.cells #[.int .i64 0, .int .i64 0, .slice none 0 0, .slice none 0 0, .bool false, .slice none 0 0] 30))))
                  (try replace Q1 := dHide ((dUnhide Q1).below (ha _ (.cells #[.int .i64 0, .int .i64 0, .slice none 0 0, .slice none 0 0, .bool false, .slice none 0 0] 30))))
                  (try replace Q2 := dHide ((dUnhide Q2).below (ha _ (.cells #[.int .i64 0, .int .i64 0, .slice none 0 0, .slice none 0 0, .bool false, .slice none 0 0] 30))))
                  (try replace Q5 := dHide ((dUnhide Q5).below (ha _ (.cells #[.int .i64 0, .int .i64 0, .slice none 0 0, .slice none 0 0, .bool false, .slice none 0 0] 30))))
                  replace hcur := hcur.alloc hcur.size (.cells #[.int .i64 0, .int .i64 0, .slice none 0 0, .slice none 0 0, .bool false, .slice none 0 0] 30)
                  first | generalize w5.alloc (.cells #[.int .i64 0, .int .i64 0, .slice none 0 0, .slice none 0 0, .bool false, .slice none 0 0] 30) = wa at * | generalize wq2.alloc (.cells #[.int .i64 0, .int .i64 0, .slice none 0 0, .slice none 0 0, .bool false, .slice none 0 0] 30) = wa at * | generalize wq1.alloc (.cells #[.int .i64 0, .int .i64 0, .slice none 0 0, .slice none 0 0, .bool false, .slice none 0 0] 30) = wa at * | generalize wq0.alloc (.cells #[.int .i64 0, .int .i64 0, .slice none 0 0, .slice none 0 0, .bool false, .slice none 0 0] 30) = wa at * | generalize wd.alloc (.cells #[.int .i64 0, .int .i64 0, .slice none 0 0, .slice none 0 0, .bool false, .slice none 0 0] 30) = wa at * | fail
                  refine hK.out _ _ (by first | exact dUnhide HC _ hcur | exact dUnhide HC _ hst | exact dUnhide HC _ hbr | fail) (fun hHeld => ?_)
                  clear hK K
                  try simp only [Act.put, List.setIfInBounds_toArray, List.set_cons_zero, List.set_cons_succ]
                  refine wpAnyH_ready (rs := [11]) (by kernel_rfl) (by simp) ?_
                  refine AllReadyH.cons (o := { dst := none, op := Op.store 30 (Operand.tmp 18) (Operand.tmp 121), type := 0, pos := "exact.go:3373", after := #[{ on := 10, ground := Ground.data }, { on := 8, ground := Ground.data }, { on := 6, ground := Ground.chain }, { on := 0, ground := Ground.phase }, { on := 1, ground := Ground.phase }, { on := 2, ground := Ground.phase }, { on := 3, ground := Ground.phase }, { on := 4, ground := Ground.phase }, { on := 5, ground := Ground.phase }, { on := 6, ground := Ground.phase }, { on := 7, ground := Ground.phase }, { on := 8, ground := Ground.phase }, { on := 9, ground := Ground.textOnly Departure.lateStores }, { on := 10, ground := Ground.phase }], guard := none }) rfl (fun K hK => ?_) AllReadyH.nil
                  obtain ⟨z0, y0⟩ := zz.2 0 _ rfl
                  obtain ⟨z1, y1⟩ := zz.2 1 _ rfl
                  obtain ⟨z2, y2⟩ := zz.2 2 _ rfl
                  obtain ⟨z3, y3⟩ := zz.2 3 _ rfl
                  obtain ⟨z4, y4⟩ := zz.2 4 _ rfl
                  obtain ⟨z5, y5⟩ := zz.2 5 _ rfl
                  go_simp
                  have hst := below_six hcur zz.1 (.int .i64 R.bye) (.int .i64 R.epoch) (.slice o5sa R.sealed.length o5sc) (.slice o5ea R.seen.length o5ec) (.bool R.planned) (.slice o5wa R.wrote.length o5wc)
                  clear hcur z0 y0 z1 y1 z2 y2 z3 y3 z4 y4 z5 y5
                  refine hK.out _ _ (by first | exact dUnhide HC _ hcur | exact dUnhide HC _ hst | exact dUnhide HC _ hbr | fail) (fun hHeld => ?_)
                  clear hK K
                  try simp only [Act.put, List.setIfInBounds_toArray, List.set_cons_zero, List.set_cons_succ]
                  refine wpAnyH_take (i := 12) (oi := { dst := some 19, op := Op.assign (Operand.tmp 122), type := 4, pos := "exact.go:3373", after := #[{ on := 9, ground := Ground.data }, { on := 11, ground := Ground.chain }, { on := 0, ground := Ground.phase }, { on := 1, ground := Ground.phase }, { on := 2, ground := Ground.phase }, { on := 3, ground := Ground.phase }, { on := 4, ground := Ground.phase }, { on := 5, ground := Ground.phase }, { on := 6, ground := Ground.phase }, { on := 7, ground := Ground.phase }, { on := 8, ground := Ground.phase }, { on := 9, ground := Ground.phase }, { on := 10, ground := Ground.phase }, { on := 11, ground := Ground.phase }], guard := none }) (v := ?_) rfl (by kernel_rfl) (by kernel_rfl) (by kernel_rfl) (fun _ _ _ h => h) (Or.inl ⟨by rfl, ?_⟩) (by assumption) ?_
                  rotate_left 1
                  · intro w hSw
                    (try dsimp only at hSw)
                    first | (go_simp; done) | (go_simp; with_reducible rfl)
                  try simp only [Act.put, List.setIfInBounds_toArray, List.set_cons_zero, List.set_cons_succ]
                  refine wpAnyH_done (by kernel_rfl) ?_ _
                  refine NoPanic.normal ?_
                  go_wp2_with fail
                  go_meet
                  case rel => first | exact ⟨_, _, _, _, _, _, _, _, _, rfl, rfl, ((((((zz.put 0 (.int .i64 R.bye)).put 1 (.int .i64 R.epoch)).put 2 (.slice o5sa R.sealed.length o5sc)).put 3 (.slice o5ea R.seen.length o5ec)).put 4 (.bool R.planned)).put 5 (.slice o5wa R.wrote.length o5wc)).bx.sits, ((((((dUnhide Q5).setFar (.inl hlo) (.int .i64 R.bye)).setFar (.inl hlo) (.int .i64 R.epoch)).setFar (.inl hlo) (.slice o5sa R.sealed.length o5sc)).setFar (.inl hlo) (.slice o5ea R.seen.length o5ec)).setFar (.inl hlo) (.bool R.planned)).setFar (.inl hlo) (.slice o5wa R.wrote.length o5wc), (.inl hlo), zz.1, hcz, hst⟩ | exact ⟨_, _, _, _, _, _, _, _, _, rfl, rfl, ((((((zz.put 0 (.int .i64 R.bye)).put 1 (.int .i64 R.epoch)).put 2 (.slice o5sa R.sealed.length o5sc)).put 3 (.slice o5ea R.seen.length o5ec)).put 4 (.bool R.planned)).put 5 (.slice o5wa R.wrote.length o5wc)).bx.sits, ((((((dUnhide Q5).setFar (.inr (Nat.le_refl _)) (.int .i64 R.bye)).setFar (.inr (Nat.le_refl _)) (.int .i64 R.epoch)).setFar (.inr (Nat.le_refl _)) (.slice o5sa R.sealed.length o5sc)).setFar (.inr (Nat.le_refl _)) (.slice o5ea R.seen.length o5ec)).setFar (.inr (Nat.le_refl _)) (.bool R.planned)).setFar (.inr (Nat.le_refl _)) (.slice o5wa R.wrote.length o5wc), (.inr (Nat.le_refl _)), zz.1, hcz, hst⟩
                · go_simp
                  have zz := BxZ.new (B := w201.heap.size) _ [.int .i64 0, .int .i64 0, .slice none 0 0, .slice none 0 0, .bool false, .slice none 0 0] 30 hcur.size
                  (try replace Q0 := dHide ((dUnhide Q0).below (ha _ (.cells #[.int .i64 0, .int .i64 0, .slice none 0 0, .slice none 0 0, .bool false, .slice none 0 0] 30))))
                  (try replace Q1 := dHide ((dUnhide Q1).below (ha _ (.cells #[.int .i64 0, .int .i64 0, .slice none 0 0, .slice none 0 0, .bool false, .slice none 0 0] 30))))
                  (try replace Q2 := dHide ((dUnhide Q2).below (ha _ (.cells #[.int .i64 0, .int .i64 0, .slice none 0 0, .slice none 0 0, .bool false, .slice none 0 0] 30))))
                  (try replace Q5 := dHide ((dUnhide Q5).below (ha _ (.cells #[.int .i64 0, .int .i64 0, .slice none 0 0, .slice none 0 0, .bool false, .slice none 0 0] 30))))
                  replace hcur := hcur.alloc hcur.size (.cells #[.int .i64 0, .int .i64 0, .slice none 0 0, .slice none 0 0, .bool false, .slice none 0 0] 30)
                  first | generalize w5.alloc (.cells #[.int .i64 0, .int .i64 0, .slice none 0 0, .slice none 0 0, .bool false, .slice none 0 0] 30) = wa at * | generalize wq2.alloc (.cells #[.int .i64 0, .int .i64 0, .slice none 0 0, .slice none 0 0, .bool false, .slice none 0 0] 30) = wa at * | generalize wq1.alloc (.cells #[.int .i64 0, .int .i64 0, .slice none 0 0, .slice none 0 0, .bool false, .slice none 0 0] 30) = wa at * | generalize wq0.alloc (.cells #[.int .i64 0, .int .i64 0, .slice none 0 0, .slice none 0 0, .bool false, .slice none 0 0] 30) = wa at * | generalize wd.alloc (.cells #[.int .i64 0, .int .i64 0, .slice none 0 0, .slice none 0 0, .bool false, .slice none 0 0] 30) = wa at * | fail
                  refine hK.out _ _ (by first | exact dUnhide HC _ hcur | exact dUnhide HC _ hst | exact dUnhide HC _ hbr | fail) (fun hHeld => ?_)
                  clear hK K
                  try simp only [Act.put, List.setIfInBounds_toArray, List.set_cons_zero, List.set_cons_succ]
                  refine wpAnyH_ready (rs := [6]) (by kernel_rfl) (by simp) ?_
                  refine AllReadyH.cons (o := { dst := some 120, op := Op.call { callee := Callee.value (Operand.func 16), args := #[Operand.tmp 115, Operand.tmp 117, Operand.tmp 119], argTypes := #[26, 30, 24] }, type := 33, pos := "exact.go:3373", after := #[{ on := 1, ground := Ground.data }, { on := 3, ground := Ground.data }, { on := 5, ground := Ground.data }, { on := 5, ground := Ground.chain }], guard := none }) rfl (fun K hK => ?_) AllReadyH.nil
                  go_simp
                  (try have hlo := BxZ.lt zz)
                  have hcz := hcur.size
                  refine (dUnhide CI _ _ _ _ (dUnhide Q0).now.rd (dUnhide Q1).now.rd (dUnhide Q2).now.rd).mono ?_
                  rintro e w5 ⟨u5, rfl, q5, b5⟩
                  replace hcur := belowThen hcur b5
                  (try replace zz := BxZ.below zz b5)
                  have Q5 := dHide q5
                  obtain ⟨o5sa, o5sc, o5ea, o5ec, o5wa, o5wc, rfl, o5l1, o5l2, o5l3⟩ := formMend q5.now.rd
                  clear q5 b5 Q0 Q1 Q2
                  (try go_wp2_with fail)
                  refine hK.out _ _ (by first | exact dUnhide HC _ hcur | exact dUnhide HC _ hst | exact dUnhide HC _ hbr | fail) (fun hHeld => ?_)
                  clear hK K
                  try simp only [Act.put, List.setIfInBounds_toArray, List.set_cons_zero, List.set_cons_succ]
                  refine wpAnyH_take (i := 7) (oi := { dst := some 113, op := Op.move (Operand.tmp 120), type := 33, pos := "exact.go:3373", after := #[{ on := 6, ground := Ground.data }], guard := none }) (v := ?_) rfl (by kernel_rfl) (by kernel_rfl) (by kernel_rfl) (fun _ _ _ h => h) (Or.inl ⟨by rfl, ?_⟩) (by assumption) ?_
                  rotate_left 1
                  · intro w hSw
                    (try dsimp only at hSw)
                    first | (go_simp; done) | (go_simp; with_reducible rfl)
                  try simp only [Act.put, List.setIfInBounds_toArray, List.set_cons_zero, List.set_cons_succ]
                  refine wpAnyH_take (i := 8) (oi := { dst := some 121, op := Op.extract (Operand.tmp 113) 0, type := 30, pos := "exact.go:3373", after := #[{ on := 7, ground := Ground.data }], guard := none }) (v := ?_) rfl (by kernel_rfl) (by kernel_rfl) (by kernel_rfl) (fun _ _ _ h => h) (Or.inl ⟨by rfl, ?_⟩) (by assumption) ?_
                  rotate_left 1
                  · intro w hSw
                    (try dsimp only at hSw)
                    first | (go_simp; done) | (go_simp; with_reducible rfl)
                  try simp only [Act.put, List.setIfInBounds_toArray, List.set_cons_zero, List.set_cons_succ]
                  refine wpAnyH_take (i := 9) (oi := { dst := some 122, op := Op.extract (Operand.tmp 113) 1, type := 4, pos := "exact.go:3373", after := #[{ on := 7, ground := Ground.data }, { on := 11, ground := Ground.gcOnly Departure.lateStores }], guard := none }) (v := ?_) rfl (by kernel_rfl) (by kernel_rfl) (by kernel_rfl) (fun _ _ _ h => h) (Or.inl ⟨by rfl, ?_⟩) (by assumption) ?_
                  rotate_left 1
                  · intro w hSw
                    (try dsimp only at hSw)
                    first | (go_simp; done) | (go_simp; with_reducible rfl)
                  try simp only [Act.put, List.setIfInBounds_toArray, List.set_cons_zero, List.set_cons_succ]
                  refine wpAnyH_ready (rs := [11]) (by kernel_rfl) (by simp) ?_
                  refine AllReadyH.cons (o := { dst := none, op := Op.store 30 (Operand.tmp 18) (Operand.tmp 121), type := 0, pos := "exact.go:3373", after := #[{ on := 10, ground := Ground.data }, { on := 8, ground := Ground.data }, { on := 6, ground := Ground.chain }, { on := 0, ground := Ground.phase }, { on := 1, ground := Ground.phase }, { on := 2, ground := Ground.phase }, { on := 3, ground := Ground.phase }, { on := 4, ground := Ground.phase }, { on := 5, ground := Ground.phase }, { on := 6, ground := Ground.phase }, { on := 7, ground := Ground.phase }, { on := 8, ground := Ground.phase }, { on := 9, ground := Ground.textOnly Departure.lateStores }, { on := 10, ground := Ground.phase }], guard := none }) rfl (fun K hK => ?_) AllReadyH.nil
                  obtain ⟨z0, y0⟩ := zz.2 0 _ rfl
                  obtain ⟨z1, y1⟩ := zz.2 1 _ rfl
                  obtain ⟨z2, y2⟩ := zz.2 2 _ rfl
                  obtain ⟨z3, y3⟩ := zz.2 3 _ rfl
                  obtain ⟨z4, y4⟩ := zz.2 4 _ rfl
                  obtain ⟨z5, y5⟩ := zz.2 5 _ rfl
                  go_simp
                  have hst := below_six hcur zz.1 (.int .i64 R.bye) (.int .i64 R.epoch) (.slice o5sa R.sealed.length o5sc) (.slice o5ea R.seen.length o5ec) (.bool R.planned) (.slice o5wa R.wrote.length o5wc)
                  clear hcur z0 y0 z1 y1 z2 y2 z3 y3 z4 y4 z5 y5
                  refine hK.out _ _ (by first | exact dUnhide HC _ hcur | exact dUnhide HC _ hst | exact dUnhide HC _ hbr | fail) (fun hHeld => ?_)
                  clear hK K
                  try simp only [Act.put, List.setIfInBounds_toArray, List.set_cons_zero, List.set_cons_succ]
                  refine wpAnyH_take (i := 12) (oi := { dst := some 19, op := Op.assign (Operand.tmp 122), type := 4, pos := "exact.go:3373", after := #[{ on := 9, ground := Ground.data }, { on := 11, ground := Ground.chain }, { on := 0, ground := Ground.phase }, { on := 1, ground := Ground.phase }, { on := 2, ground := Ground.phase }, { on := 3, ground := Ground.phase }, { on := 4, ground := Ground.phase }, { on := 5, ground := Ground.phase }, { on := 6, ground := Ground.phase }, { on := 7, ground := Ground.phase }, { on := 8, ground := Ground.phase }, { on := 9, ground := Ground.phase }, { on := 10, ground := Ground.phase }, { on := 11, ground := Ground.phase }], guard := none }) (v := ?_) rfl (by kernel_rfl) (by kernel_rfl) (by kernel_rfl) (fun _ _ _ h => h) (Or.inl ⟨by rfl, ?_⟩) (by assumption) ?_
                  rotate_left 1
                  · intro w hSw
                    (try dsimp only at hSw)
                    first | (go_simp; done) | (go_simp; with_reducible rfl)
                  try simp only [Act.put, List.setIfInBounds_toArray, List.set_cons_zero, List.set_cons_succ]
                  refine wpAnyH_done (by kernel_rfl) ?_ _
                  refine NoPanic.normal ?_
                  go_wp2_with fail
                  go_meet
                  case rel => first | exact ⟨_, _, _, _, _, _, _, _, _, rfl, rfl, ((((((zz.put 0 (.int .i64 R.bye)).put 1 (.int .i64 R.epoch)).put 2 (.slice o5sa R.sealed.length o5sc)).put 3 (.slice o5ea R.seen.length o5ec)).put 4 (.bool R.planned)).put 5 (.slice o5wa R.wrote.length o5wc)).bx.sits, ((((((dUnhide Q5).setFar (.inl hlo) (.int .i64 R.bye)).setFar (.inl hlo) (.int .i64 R.epoch)).setFar (.inl hlo) (.slice o5sa R.sealed.length o5sc)).setFar (.inl hlo) (.slice o5ea R.seen.length o5ec)).setFar (.inl hlo) (.bool R.planned)).setFar (.inl hlo) (.slice o5wa R.wrote.length o5wc), (.inl hlo), zz.1, hcz, hst⟩ | exact ⟨_, _, _, _, _, _, _, _, _, rfl, rfl, ((((((zz.put 0 (.int .i64 R.bye)).put 1 (.int .i64 R.epoch)).put 2 (.slice o5sa R.sealed.length o5sc)).put 3 (.slice o5ea R.seen.length o5ec)).put 4 (.bool R.planned)).put 5 (.slice o5wa R.wrote.length o5wc)).bx.sits, ((((((dUnhide Q5).setFar (.inr (Nat.le_refl _)) (.int .i64 R.bye)).setFar (.inr (Nat.le_refl _)) (.int .i64 R.epoch)).setFar (.inr (Nat.le_refl _)) (.slice o5sa R.sealed.length o5sc)).setFar (.inr (Nat.le_refl _)) (.slice o5ea R.seen.length o5ec)).setFar (.inr (Nat.le_refl _)) (.bool R.planned)).setFar (.inr (Nat.le_refl _)) (.slice o5wa R.wrote.length o5wc), (.inr (Nat.le_refl _)), zz.1, hcz, hst⟩
              · go_simp
                have zz := BxZ.new (B := w201.heap.size) _ [.int .i64 0, .int .i64 0, .slice none 0 0, .slice none 0 0, .bool false, .slice none 0 0] 30 hcur.size
                (try replace Q0 := dHide ((dUnhide Q0).below (ha _ (.cells #[.int .i64 0, .int .i64 0, .slice none 0 0, .slice none 0 0, .bool false, .slice none 0 0] 30))))
                (try replace Q1 := dHide ((dUnhide Q1).below (ha _ (.cells #[.int .i64 0, .int .i64 0, .slice none 0 0, .slice none 0 0, .bool false, .slice none 0 0] 30))))
                (try replace Q2 := dHide ((dUnhide Q2).below (ha _ (.cells #[.int .i64 0, .int .i64 0, .slice none 0 0, .slice none 0 0, .bool false, .slice none 0 0] 30))))
                (try replace Q5 := dHide ((dUnhide Q5).below (ha _ (.cells #[.int .i64 0, .int .i64 0, .slice none 0 0, .slice none 0 0, .bool false, .slice none 0 0] 30))))
                replace hcur := hcur.alloc hcur.size (.cells #[.int .i64 0, .int .i64 0, .slice none 0 0, .slice none 0 0, .bool false, .slice none 0 0] 30)
                first | generalize w5.alloc (.cells #[.int .i64 0, .int .i64 0, .slice none 0 0, .slice none 0 0, .bool false, .slice none 0 0] 30) = wa at * | generalize wq2.alloc (.cells #[.int .i64 0, .int .i64 0, .slice none 0 0, .slice none 0 0, .bool false, .slice none 0 0] 30) = wa at * | generalize wq1.alloc (.cells #[.int .i64 0, .int .i64 0, .slice none 0 0, .slice none 0 0, .bool false, .slice none 0 0] 30) = wa at * | generalize wq0.alloc (.cells #[.int .i64 0, .int .i64 0, .slice none 0 0, .slice none 0 0, .bool false, .slice none 0 0] 30) = wa at * | generalize wd.alloc (.cells #[.int .i64 0, .int .i64 0, .slice none 0 0, .slice none 0 0, .bool false, .slice none 0 0] 30) = wa at * | fail
                refine hK.out _ _ (by first | exact dUnhide HC _ hcur | exact dUnhide HC _ hst | exact dUnhide HC _ hbr | fail) (fun hHeld => ?_)
                clear hK K
                try simp only [Act.put, List.setIfInBounds_toArray, List.set_cons_zero, List.set_cons_succ]
                refine wpAnyH_ready (rs := [5]) (by kernel_rfl) (by simp) ?_
                refine AllReadyH.cons (o := { dst := some 119, op := Op.call { callee := Callee.value (Operand.func 40), args := #[Operand.tmp 118], argTypes := #[24] }, type := 24, pos := "exact.go:3373", after := #[{ on := 4, ground := Ground.data }, { on := 3, ground := Ground.chain }], guard := none }) rfl (fun K hK => ?_) AllReadyH.nil
                go_simp
                refine (toIntS_ _ m2 _ hs2 (dUnhide A2 _ (belowThen B hcur))).mono ?_
                rintro e wq2 ⟨o2, rfl, q2, b2⟩
                replace hcur := belowThen hcur b2
                (try replace zz := BxZ.below zz b2)
                replace Q0 := dHide ((dUnhide Q0).below b2)
                replace Q1 := dHide ((dUnhide Q1).below b2)
                have Q2 := dHide q2
                obtain ⟨o2a, o2c, rfl, o2l⟩ := formIntS q2.now.rd
                clear q2 b2
                (try go_wp2_with fail)
                refine hK.out _ _ (by first | exact dUnhide HC _ hcur | exact dUnhide HC _ hst | exact dUnhide HC _ hbr | fail) (fun hHeld => ?_)
                clear hK K
                try simp only [Act.put, List.setIfInBounds_toArray, List.set_cons_zero, List.set_cons_succ]
                refine wpAnyH_ready (rs := [6]) (by kernel_rfl) (by simp) ?_
                refine AllReadyH.cons (o := { dst := some 120, op := Op.call { callee := Callee.value (Operand.func 16), args := #[Operand.tmp 115, Operand.tmp 117, Operand.tmp 119], argTypes := #[26, 30, 24] }, type := 33, pos := "exact.go:3373", after := #[{ on := 1, ground := Ground.data }, { on := 3, ground := Ground.data }, { on := 5, ground := Ground.data }, { on := 5, ground := Ground.chain }], guard := none }) rfl (fun K hK => ?_) AllReadyH.nil
                go_simp
                (try have hlo := BxZ.lt zz)
                have hcz := hcur.size
                refine (dUnhide CI _ _ _ _ (dUnhide Q0).now.rd (dUnhide Q1).now.rd (dUnhide Q2).now.rd).mono ?_
                rintro e w5 ⟨u5, rfl, q5, b5⟩
                replace hcur := belowThen hcur b5
                (try replace zz := BxZ.below zz b5)
                have Q5 := dHide q5
                obtain ⟨o5sa, o5sc, o5ea, o5ec, o5wa, o5wc, rfl, o5l1, o5l2, o5l3⟩ := formMend q5.now.rd
                clear q5 b5 Q0 Q1 Q2
                (try go_wp2_with fail)
                refine hK.out _ _ (by first | exact dUnhide HC _ hcur | exact dUnhide HC _ hst | exact dUnhide HC _ hbr | fail) (fun hHeld => ?_)
                clear hK K
                try simp only [Act.put, List.setIfInBounds_toArray, List.set_cons_zero, List.set_cons_succ]
                refine wpAnyH_take (i := 7) (oi := { dst := some 113, op := Op.move (Operand.tmp 120), type := 33, pos := "exact.go:3373", after := #[{ on := 6, ground := Ground.data }], guard := none }) (v := ?_) rfl (by kernel_rfl) (by kernel_rfl) (by kernel_rfl) (fun _ _ _ h => h) (Or.inl ⟨by rfl, ?_⟩) (by assumption) ?_
                rotate_left 1
                · intro w hSw
                  (try dsimp only at hSw)
                  first | (go_simp; done) | (go_simp; with_reducible rfl)
                try simp only [Act.put, List.setIfInBounds_toArray, List.set_cons_zero, List.set_cons_succ]
                refine wpAnyH_take (i := 8) (oi := { dst := some 121, op := Op.extract (Operand.tmp 113) 0, type := 30, pos := "exact.go:3373", after := #[{ on := 7, ground := Ground.data }], guard := none }) (v := ?_) rfl (by kernel_rfl) (by kernel_rfl) (by kernel_rfl) (fun _ _ _ h => h) (Or.inl ⟨by rfl, ?_⟩) (by assumption) ?_
                rotate_left 1
                · intro w hSw
                  (try dsimp only at hSw)
                  first | (go_simp; done) | (go_simp; with_reducible rfl)
                try simp only [Act.put, List.setIfInBounds_toArray, List.set_cons_zero, List.set_cons_succ]
                refine wpAnyH_take (i := 9) (oi := { dst := some 122, op := Op.extract (Operand.tmp 113) 1, type := 4, pos := "exact.go:3373", after := #[{ on := 7, ground := Ground.data }, { on := 11, ground := Ground.gcOnly Departure.lateStores }], guard := none }) (v := ?_) rfl (by kernel_rfl) (by kernel_rfl) (by kernel_rfl) (fun _ _ _ h => h) (Or.inl ⟨by rfl, ?_⟩) (by assumption) ?_
                rotate_left 1
                · intro w hSw
                  (try dsimp only at hSw)
                  first | (go_simp; done) | (go_simp; with_reducible rfl)
                try simp only [Act.put, List.setIfInBounds_toArray, List.set_cons_zero, List.set_cons_succ]
                refine wpAnyH_ready (rs := [11]) (by kernel_rfl) (by simp) ?_
                refine AllReadyH.cons (o := { dst := none, op := Op.store 30 (Operand.tmp 18) (Operand.tmp 121), type := 0, pos := "exact.go:3373", after := #[{ on := 10, ground := Ground.data }, { on := 8, ground := Ground.data }, { on := 6, ground := Ground.chain }, { on := 0, ground := Ground.phase }, { on := 1, ground := Ground.phase }, { on := 2, ground := Ground.phase }, { on := 3, ground := Ground.phase }, { on := 4, ground := Ground.phase }, { on := 5, ground := Ground.phase }, { on := 6, ground := Ground.phase }, { on := 7, ground := Ground.phase }, { on := 8, ground := Ground.phase }, { on := 9, ground := Ground.textOnly Departure.lateStores }, { on := 10, ground := Ground.phase }], guard := none }) rfl (fun K hK => ?_) AllReadyH.nil
                obtain ⟨z0, y0⟩ := zz.2 0 _ rfl
                obtain ⟨z1, y1⟩ := zz.2 1 _ rfl
                obtain ⟨z2, y2⟩ := zz.2 2 _ rfl
                obtain ⟨z3, y3⟩ := zz.2 3 _ rfl
                obtain ⟨z4, y4⟩ := zz.2 4 _ rfl
                obtain ⟨z5, y5⟩ := zz.2 5 _ rfl
                go_simp
                have hst := below_six hcur zz.1 (.int .i64 R.bye) (.int .i64 R.epoch) (.slice o5sa R.sealed.length o5sc) (.slice o5ea R.seen.length o5ec) (.bool R.planned) (.slice o5wa R.wrote.length o5wc)
                clear hcur z0 y0 z1 y1 z2 y2 z3 y3 z4 y4 z5 y5
                refine hK.out _ _ (by first | exact dUnhide HC _ hcur | exact dUnhide HC _ hst | exact dUnhide HC _ hbr | fail) (fun hHeld => ?_)
                clear hK K
                try simp only [Act.put, List.setIfInBounds_toArray, List.set_cons_zero, List.set_cons_succ]
                refine wpAnyH_take (i := 12) (oi := { dst := some 19, op := Op.assign (Operand.tmp 122), type := 4, pos := "exact.go:3373", after := #[{ on := 9, ground := Ground.data }, { on := 11, ground := Ground.chain }, { on := 0, ground := Ground.phase }, { on := 1, ground := Ground.phase }, { on := 2, ground := Ground.phase }, { on := 3, ground := Ground.phase }, { on := 4, ground := Ground.phase }, { on := 5, ground := Ground.phase }, { on := 6, ground := Ground.phase }, { on := 7, ground := Ground.phase }, { on := 8, ground := Ground.phase }, { on := 9, ground := Ground.phase }, { on := 10, ground := Ground.phase }, { on := 11, ground := Ground.phase }], guard := none }) (v := ?_) rfl (by kernel_rfl) (by kernel_rfl) (by kernel_rfl) (fun _ _ _ h => h) (Or.inl ⟨by rfl, ?_⟩) (by assumption) ?_
                rotate_left 1
                · intro w hSw
                  (try dsimp only at hSw)
                  first | (go_simp; done) | (go_simp; with_reducible rfl)
                try simp only [Act.put, List.setIfInBounds_toArray, List.set_cons_zero, List.set_cons_succ]
                refine wpAnyH_done (by kernel_rfl) ?_ _
                refine NoPanic.normal ?_
                go_wp2_with fail
                go_meet
                case rel => first | exact ⟨_, _, _, _, _, _, _, _, _, rfl, rfl, ((((((zz.put 0 (.int .i64 R.bye)).put 1 (.int .i64 R.epoch)).put 2 (.slice o5sa R.sealed.length o5sc)).put 3 (.slice o5ea R.seen.length o5ec)).put 4 (.bool R.planned)).put 5 (.slice o5wa R.wrote.length o5wc)).bx.sits, ((((((dUnhide Q5).setFar (.inl hlo) (.int .i64 R.bye)).setFar (.inl hlo) (.int .i64 R.epoch)).setFar (.inl hlo) (.slice o5sa R.sealed.length o5sc)).setFar (.inl hlo) (.slice o5ea R.seen.length o5ec)).setFar (.inl hlo) (.bool R.planned)).setFar (.inl hlo) (.slice o5wa R.wrote.length o5wc), (.inl hlo), zz.1, hcz, hst⟩ | exact ⟨_, _, _, _, _, _, _, _, _, rfl, rfl, ((((((zz.put 0 (.int .i64 R.bye)).put 1 (.int .i64 R.epoch)).put 2 (.slice o5sa R.sealed.length o5sc)).put 3 (.slice o5ea R.seen.length o5ec)).put 4 (.bool R.planned)).put 5 (.slice o5wa R.wrote.length o5wc)).bx.sits, ((((((dUnhide Q5).setFar (.inr (Nat.le_refl _)) (.int .i64 R.bye)).setFar (.inr (Nat.le_refl _)) (.int .i64 R.epoch)).setFar (.inr (Nat.le_refl _)) (.slice o5sa R.sealed.length o5sc)).setFar (.inr (Nat.le_refl _)) (.slice o5ea R.seen.length o5ec)).setFar (.inr (Nat.le_refl _)) (.bool R.planned)).setFar (.inr (Nat.le_refl _)) (.slice o5wa R.wrote.length o5wc), (.inr (Nat.le_refl _)), zz.1, hcz, hst⟩
            · go_simp
              have zz := BxZ.new (B := w201.heap.size) _ [.int .i64 0, .int .i64 0, .slice none 0 0, .slice none 0 0, .bool false, .slice none 0 0] 30 hcur.size
              (try replace Q0 := dHide ((dUnhide Q0).below (ha _ (.cells #[.int .i64 0, .int .i64 0, .slice none 0 0, .slice none 0 0, .bool false, .slice none 0 0] 30))))
              (try replace Q1 := dHide ((dUnhide Q1).below (ha _ (.cells #[.int .i64 0, .int .i64 0, .slice none 0 0, .slice none 0 0, .bool false, .slice none 0 0] 30))))
              (try replace Q2 := dHide ((dUnhide Q2).below (ha _ (.cells #[.int .i64 0, .int .i64 0, .slice none 0 0, .slice none 0 0, .bool false, .slice none 0 0] 30))))
              (try replace Q5 := dHide ((dUnhide Q5).below (ha _ (.cells #[.int .i64 0, .int .i64 0, .slice none 0 0, .slice none 0 0, .bool false, .slice none 0 0] 30))))
              replace hcur := hcur.alloc hcur.size (.cells #[.int .i64 0, .int .i64 0, .slice none 0 0, .slice none 0 0, .bool false, .slice none 0 0] 30)
              first | generalize w5.alloc (.cells #[.int .i64 0, .int .i64 0, .slice none 0 0, .slice none 0 0, .bool false, .slice none 0 0] 30) = wa at * | generalize wq2.alloc (.cells #[.int .i64 0, .int .i64 0, .slice none 0 0, .slice none 0 0, .bool false, .slice none 0 0] 30) = wa at * | generalize wq1.alloc (.cells #[.int .i64 0, .int .i64 0, .slice none 0 0, .slice none 0 0, .bool false, .slice none 0 0] 30) = wa at * | generalize wq0.alloc (.cells #[.int .i64 0, .int .i64 0, .slice none 0 0, .slice none 0 0, .bool false, .slice none 0 0] 30) = wa at * | generalize wd.alloc (.cells #[.int .i64 0, .int .i64 0, .slice none 0 0, .slice none 0 0, .bool false, .slice none 0 0] 30) = wa at * | fail
              refine hK.out _ _ (by first | exact dUnhide HC _ hcur | exact dUnhide HC _ hst | exact dUnhide HC _ hbr | fail) (fun hHeld => ?_)
              clear hK K
              try simp only [Act.put, List.setIfInBounds_toArray, List.set_cons_zero, List.set_cons_succ]
              refine wpAnyH_ready (rs := [3]) (by kernel_rfl) (by simp) ?_
              refine AllReadyH.cons (o := { dst := some 117, op := Op.call { callee := Callee.value (Operand.func 31), args := #[Operand.tmp 116], argTypes := #[54] }, type := 30, pos := "exact.go:3373", after := #[{ on := 2, ground := Ground.data }, { on := 1, ground := Ground.chain }], guard := none }) rfl (fun K hK => ?_) AllReadyH.nil
              go_simp
              refine (toMend_ _ m1 _ hs1 (dUnhide A1 _ (belowThen B hcur))).mono ?_
              rintro e wq1 ⟨o1, rfl, q1, b1⟩
              replace hcur := belowThen hcur b1
              (try replace zz := BxZ.below zz b1)
              replace Q0 := dHide ((dUnhide Q0).below b1)
              have Q1 := dHide q1
              obtain ⟨o1sa, o1sc, o1ea, o1ec, o1wa, o1wc, rfl, o1l1, o1l2, o1l3⟩ := formMend q1.now.rd
              clear q1 b1
              (try go_wp2_with fail)
              refine hK.out _ _ (by first | exact dUnhide HC _ hcur | exact dUnhide HC _ hst | exact dUnhide HC _ hbr | fail) (fun hHeld => ?_)
              clear hK K
              try simp only [Act.put, List.setIfInBounds_toArray, List.set_cons_zero, List.set_cons_succ]
              refine wpAnyH_ready (rs := [5]) (by kernel_rfl) (by simp) ?_
              refine AllReadyH.cons (o := { dst := some 119, op := Op.call { callee := Callee.value (Operand.func 40), args := #[Operand.tmp 118], argTypes := #[24] }, type := 24, pos := "exact.go:3373", after := #[{ on := 4, ground := Ground.data }, { on := 3, ground := Ground.chain }], guard := none }) rfl (fun K hK => ?_) AllReadyH.nil
              go_simp
              refine (toIntS_ _ m2 _ hs2 (dUnhide A2 _ (belowThen B hcur))).mono ?_
              rintro e wq2 ⟨o2, rfl, q2, b2⟩
              replace hcur := belowThen hcur b2
              (try replace zz := BxZ.below zz b2)
              replace Q0 := dHide ((dUnhide Q0).below b2)
              replace Q1 := dHide ((dUnhide Q1).below b2)
              have Q2 := dHide q2
              obtain ⟨o2a, o2c, rfl, o2l⟩ := formIntS q2.now.rd
              clear q2 b2
              (try go_wp2_with fail)
              refine hK.out _ _ (by first | exact dUnhide HC _ hcur | exact dUnhide HC _ hst | exact dUnhide HC _ hbr | fail) (fun hHeld => ?_)
              clear hK K
              try simp only [Act.put, List.setIfInBounds_toArray, List.set_cons_zero, List.set_cons_succ]
              refine wpAnyH_ready (rs := [6]) (by kernel_rfl) (by simp) ?_
              refine AllReadyH.cons (o := { dst := some 120, op := Op.call { callee := Callee.value (Operand.func 16), args := #[Operand.tmp 115, Operand.tmp 117, Operand.tmp 119], argTypes := #[26, 30, 24] }, type := 33, pos := "exact.go:3373", after := #[{ on := 1, ground := Ground.data }, { on := 3, ground := Ground.data }, { on := 5, ground := Ground.data }, { on := 5, ground := Ground.chain }], guard := none }) rfl (fun K hK => ?_) AllReadyH.nil
              go_simp
              (try have hlo := BxZ.lt zz)
              have hcz := hcur.size
              refine (dUnhide CI _ _ _ _ (dUnhide Q0).now.rd (dUnhide Q1).now.rd (dUnhide Q2).now.rd).mono ?_
              rintro e w5 ⟨u5, rfl, q5, b5⟩
              replace hcur := belowThen hcur b5
              (try replace zz := BxZ.below zz b5)
              have Q5 := dHide q5
              obtain ⟨o5sa, o5sc, o5ea, o5ec, o5wa, o5wc, rfl, o5l1, o5l2, o5l3⟩ := formMend q5.now.rd
              clear q5 b5 Q0 Q1 Q2
              (try go_wp2_with fail)
              refine hK.out _ _ (by first | exact dUnhide HC _ hcur | exact dUnhide HC _ hst | exact dUnhide HC _ hbr | fail) (fun hHeld => ?_)
              clear hK K
              try simp only [Act.put, List.setIfInBounds_toArray, List.set_cons_zero, List.set_cons_succ]
              refine wpAnyH_take (i := 7) (oi := { dst := some 113, op := Op.move (Operand.tmp 120), type := 33, pos := "exact.go:3373", after := #[{ on := 6, ground := Ground.data }], guard := none }) (v := ?_) rfl (by kernel_rfl) (by kernel_rfl) (by kernel_rfl) (fun _ _ _ h => h) (Or.inl ⟨by rfl, ?_⟩) (by assumption) ?_
              rotate_left 1
              · intro w hSw
                (try dsimp only at hSw)
                first | (go_simp; done) | (go_simp; with_reducible rfl)
              try simp only [Act.put, List.setIfInBounds_toArray, List.set_cons_zero, List.set_cons_succ]
              refine wpAnyH_take (i := 8) (oi := { dst := some 121, op := Op.extract (Operand.tmp 113) 0, type := 30, pos := "exact.go:3373", after := #[{ on := 7, ground := Ground.data }], guard := none }) (v := ?_) rfl (by kernel_rfl) (by kernel_rfl) (by kernel_rfl) (fun _ _ _ h => h) (Or.inl ⟨by rfl, ?_⟩) (by assumption) ?_
              rotate_left 1
              · intro w hSw
                (try dsimp only at hSw)
                first | (go_simp; done) | (go_simp; with_reducible rfl)
              try simp only [Act.put, List.setIfInBounds_toArray, List.set_cons_zero, List.set_cons_succ]
              refine wpAnyH_take (i := 9) (oi := { dst := some 122, op := Op.extract (Operand.tmp 113) 1, type := 4, pos := "exact.go:3373", after := #[{ on := 7, ground := Ground.data }, { on := 11, ground := Ground.gcOnly Departure.lateStores }], guard := none }) (v := ?_) rfl (by kernel_rfl) (by kernel_rfl) (by kernel_rfl) (fun _ _ _ h => h) (Or.inl ⟨by rfl, ?_⟩) (by assumption) ?_
              rotate_left 1
              · intro w hSw
                (try dsimp only at hSw)
                first | (go_simp; done) | (go_simp; with_reducible rfl)
              try simp only [Act.put, List.setIfInBounds_toArray, List.set_cons_zero, List.set_cons_succ]
              refine wpAnyH_ready (rs := [11]) (by kernel_rfl) (by simp) ?_
              refine AllReadyH.cons (o := { dst := none, op := Op.store 30 (Operand.tmp 18) (Operand.tmp 121), type := 0, pos := "exact.go:3373", after := #[{ on := 10, ground := Ground.data }, { on := 8, ground := Ground.data }, { on := 6, ground := Ground.chain }, { on := 0, ground := Ground.phase }, { on := 1, ground := Ground.phase }, { on := 2, ground := Ground.phase }, { on := 3, ground := Ground.phase }, { on := 4, ground := Ground.phase }, { on := 5, ground := Ground.phase }, { on := 6, ground := Ground.phase }, { on := 7, ground := Ground.phase }, { on := 8, ground := Ground.phase }, { on := 9, ground := Ground.textOnly Departure.lateStores }, { on := 10, ground := Ground.phase }], guard := none }) rfl (fun K hK => ?_) AllReadyH.nil
              obtain ⟨z0, y0⟩ := zz.2 0 _ rfl
              obtain ⟨z1, y1⟩ := zz.2 1 _ rfl
              obtain ⟨z2, y2⟩ := zz.2 2 _ rfl
              obtain ⟨z3, y3⟩ := zz.2 3 _ rfl
              obtain ⟨z4, y4⟩ := zz.2 4 _ rfl
              obtain ⟨z5, y5⟩ := zz.2 5 _ rfl
              go_simp
              have hst := below_six hcur zz.1 (.int .i64 R.bye) (.int .i64 R.epoch) (.slice o5sa R.sealed.length o5sc) (.slice o5ea R.seen.length o5ec) (.bool R.planned) (.slice o5wa R.wrote.length o5wc)
              clear hcur z0 y0 z1 y1 z2 y2 z3 y3 z4 y4 z5 y5
              refine hK.out _ _ (by first | exact dUnhide HC _ hcur | exact dUnhide HC _ hst | exact dUnhide HC _ hbr | fail) (fun hHeld => ?_)
              clear hK K
              try simp only [Act.put, List.setIfInBounds_toArray, List.set_cons_zero, List.set_cons_succ]
              refine wpAnyH_take (i := 12) (oi := { dst := some 19, op := Op.assign (Operand.tmp 122), type := 4, pos := "exact.go:3373", after := #[{ on := 9, ground := Ground.data }, { on := 11, ground := Ground.chain }, { on := 0, ground := Ground.phase }, { on := 1, ground := Ground.phase }, { on := 2, ground := Ground.phase }, { on := 3, ground := Ground.phase }, { on := 4, ground := Ground.phase }, { on := 5, ground := Ground.phase }, { on := 6, ground := Ground.phase }, { on := 7, ground := Ground.phase }, { on := 8, ground := Ground.phase }, { on := 9, ground := Ground.phase }, { on := 10, ground := Ground.phase }, { on := 11, ground := Ground.phase }], guard := none }) (v := ?_) rfl (by kernel_rfl) (by kernel_rfl) (by kernel_rfl) (fun _ _ _ h => h) (Or.inl ⟨by rfl, ?_⟩) (by assumption) ?_
              rotate_left 1
              · intro w hSw
                (try dsimp only at hSw)
                first | (go_simp; done) | (go_simp; with_reducible rfl)
              try simp only [Act.put, List.setIfInBounds_toArray, List.set_cons_zero, List.set_cons_succ]
              refine wpAnyH_done (by kernel_rfl) ?_ _
              refine NoPanic.normal ?_
              go_wp2_with fail
              go_meet
              case rel => first | exact ⟨_, _, _, _, _, _, _, _, _, rfl, rfl, ((((((zz.put 0 (.int .i64 R.bye)).put 1 (.int .i64 R.epoch)).put 2 (.slice o5sa R.sealed.length o5sc)).put 3 (.slice o5ea R.seen.length o5ec)).put 4 (.bool R.planned)).put 5 (.slice o5wa R.wrote.length o5wc)).bx.sits, ((((((dUnhide Q5).setFar (.inl hlo) (.int .i64 R.bye)).setFar (.inl hlo) (.int .i64 R.epoch)).setFar (.inl hlo) (.slice o5sa R.sealed.length o5sc)).setFar (.inl hlo) (.slice o5ea R.seen.length o5ec)).setFar (.inl hlo) (.bool R.planned)).setFar (.inl hlo) (.slice o5wa R.wrote.length o5wc), (.inl hlo), zz.1, hcz, hst⟩ | exact ⟨_, _, _, _, _, _, _, _, _, rfl, rfl, ((((((zz.put 0 (.int .i64 R.bye)).put 1 (.int .i64 R.epoch)).put 2 (.slice o5sa R.sealed.length o5sc)).put 3 (.slice o5ea R.seen.length o5ec)).put 4 (.bool R.planned)).put 5 (.slice o5wa R.wrote.length o5wc)).bx.sits, ((((((dUnhide Q5).setFar (.inr (Nat.le_refl _)) (.int .i64 R.bye)).setFar (.inr (Nat.le_refl _)) (.int .i64 R.epoch)).setFar (.inr (Nat.le_refl _)) (.slice o5sa R.sealed.length o5sc)).setFar (.inr (Nat.le_refl _)) (.slice o5ea R.seen.length o5ec)).setFar (.inr (Nat.le_refl _)) (.bool R.planned)).setFar (.inr (Nat.le_refl _)) (.slice o5wa R.wrote.length o5wc), (.inr (Nat.le_refl _)), zz.1, hcz, hst⟩
          · go_simp
            have zz := BxZ.new (B := w201.heap.size) _ [.int .i64 0, .int .i64 0, .slice none 0 0, .slice none 0 0, .bool false, .slice none 0 0] 30 hcur.size
            (try replace Q0 := dHide ((dUnhide Q0).below (ha _ (.cells #[.int .i64 0, .int .i64 0, .slice none 0 0, .slice none 0 0, .bool false, .slice none 0 0] 30))))
            (try replace Q1 := dHide ((dUnhide Q1).below (ha _ (.cells #[.int .i64 0, .int .i64 0, .slice none 0 0, .slice none 0 0, .bool false, .slice none 0 0] 30))))
            (try replace Q2 := dHide ((dUnhide Q2).below (ha _ (.cells #[.int .i64 0, .int .i64 0, .slice none 0 0, .slice none 0 0, .bool false, .slice none 0 0] 30))))
            (try replace Q5 := dHide ((dUnhide Q5).below (ha _ (.cells #[.int .i64 0, .int .i64 0, .slice none 0 0, .slice none 0 0, .bool false, .slice none 0 0] 30))))
            replace hcur := hcur.alloc hcur.size (.cells #[.int .i64 0, .int .i64 0, .slice none 0 0, .slice none 0 0, .bool false, .slice none 0 0] 30)
            first | generalize w5.alloc (.cells #[.int .i64 0, .int .i64 0, .slice none 0 0, .slice none 0 0, .bool false, .slice none 0 0] 30) = wa at * | generalize wq2.alloc (.cells #[.int .i64 0, .int .i64 0, .slice none 0 0, .slice none 0 0, .bool false, .slice none 0 0] 30) = wa at * | generalize wq1.alloc (.cells #[.int .i64 0, .int .i64 0, .slice none 0 0, .slice none 0 0, .bool false, .slice none 0 0] 30) = wa at * | generalize wq0.alloc (.cells #[.int .i64 0, .int .i64 0, .slice none 0 0, .slice none 0 0, .bool false, .slice none 0 0] 30) = wa at * | generalize wd.alloc (.cells #[.int .i64 0, .int .i64 0, .slice none 0 0, .slice none 0 0, .bool false, .slice none 0 0] 30) = wa at * | fail
            refine hK.out _ _ (by first | exact dUnhide HC _ hcur | exact dUnhide HC _ hst | exact dUnhide HC _ hbr | fail) (fun hHeld => ?_)
            clear hK K
            try simp only [Act.put, List.setIfInBounds_toArray, List.set_cons_zero, List.set_cons_succ]
            refine wpAnyH_ready (rs := [1]) (by kernel_rfl) (by simp) ?_
            refine AllReadyH.cons (o := { dst := some 115, op := Op.call { callee := Callee.value (Operand.func 30), args := #[Operand.tmp 114], argTypes := #[51] }, type := 26, pos := "exact.go:3373", after := #[{ on := 0, ground := Ground.data }], guard := none }) rfl (fun K hK => ?_) AllReadyH.nil
            go_simp
            refine (toConfig_ _ m0 _ hs0 (dUnhide A0 _ (belowThen B hcur))).mono ?_
            rintro e wq0 ⟨o0, rfl, q0, b0⟩
            replace hcur := belowThen hcur b0
            (try replace zz := BxZ.below zz b0)
            have Q0 := dHide q0
            obtain ⟨o0a, o0c, rfl, o0l⟩ := formConfig q0.now.rd
            clear q0 b0
            (try go_wp2_with fail)
            refine hK.out _ _ (by first | exact dUnhide HC _ hcur | exact dUnhide HC _ hst | exact dUnhide HC _ hbr | fail) (fun hHeld => ?_)
            clear hK K
            try simp only [Act.put, List.setIfInBounds_toArray, List.set_cons_zero, List.set_cons_succ]
            refine wpAnyH_ready (rs := [3]) (by kernel_rfl) (by simp) ?_
            refine AllReadyH.cons (o := { dst := some 117, op := Op.call { callee := Callee.value (Operand.func 31), args := #[Operand.tmp 116], argTypes := #[54] }, type := 30, pos := "exact.go:3373", after := #[{ on := 2, ground := Ground.data }, { on := 1, ground := Ground.chain }], guard := none }) rfl (fun K hK => ?_) AllReadyH.nil
            go_simp
            refine (toMend_ _ m1 _ hs1 (dUnhide A1 _ (belowThen B hcur))).mono ?_
            rintro e wq1 ⟨o1, rfl, q1, b1⟩
            replace hcur := belowThen hcur b1
            (try replace zz := BxZ.below zz b1)
            replace Q0 := dHide ((dUnhide Q0).below b1)
            have Q1 := dHide q1
            obtain ⟨o1sa, o1sc, o1ea, o1ec, o1wa, o1wc, rfl, o1l1, o1l2, o1l3⟩ := formMend q1.now.rd
            clear q1 b1
            (try go_wp2_with fail)
            refine hK.out _ _ (by first | exact dUnhide HC _ hcur | exact dUnhide HC _ hst | exact dUnhide HC _ hbr | fail) (fun hHeld => ?_)
            clear hK K
            try simp only [Act.put, List.setIfInBounds_toArray, List.set_cons_zero, List.set_cons_succ]
            refine wpAnyH_ready (rs := [5]) (by kernel_rfl) (by simp) ?_
            refine AllReadyH.cons (o := { dst := some 119, op := Op.call { callee := Callee.value (Operand.func 40), args := #[Operand.tmp 118], argTypes := #[24] }, type := 24, pos := "exact.go:3373", after := #[{ on := 4, ground := Ground.data }, { on := 3, ground := Ground.chain }], guard := none }) rfl (fun K hK => ?_) AllReadyH.nil
            go_simp
            refine (toIntS_ _ m2 _ hs2 (dUnhide A2 _ (belowThen B hcur))).mono ?_
            rintro e wq2 ⟨o2, rfl, q2, b2⟩
            replace hcur := belowThen hcur b2
            (try replace zz := BxZ.below zz b2)
            replace Q0 := dHide ((dUnhide Q0).below b2)
            replace Q1 := dHide ((dUnhide Q1).below b2)
            have Q2 := dHide q2
            obtain ⟨o2a, o2c, rfl, o2l⟩ := formIntS q2.now.rd
            clear q2 b2
            (try go_wp2_with fail)
            refine hK.out _ _ (by first | exact dUnhide HC _ hcur | exact dUnhide HC _ hst | exact dUnhide HC _ hbr | fail) (fun hHeld => ?_)
            clear hK K
            try simp only [Act.put, List.setIfInBounds_toArray, List.set_cons_zero, List.set_cons_succ]
            refine wpAnyH_ready (rs := [6]) (by kernel_rfl) (by simp) ?_
            refine AllReadyH.cons (o := { dst := some 120, op := Op.call { callee := Callee.value (Operand.func 16), args := #[Operand.tmp 115, Operand.tmp 117, Operand.tmp 119], argTypes := #[26, 30, 24] }, type := 33, pos := "exact.go:3373", after := #[{ on := 1, ground := Ground.data }, { on := 3, ground := Ground.data }, { on := 5, ground := Ground.data }, { on := 5, ground := Ground.chain }], guard := none }) rfl (fun K hK => ?_) AllReadyH.nil
            go_simp
            (try have hlo := BxZ.lt zz)
            have hcz := hcur.size
            refine (dUnhide CI _ _ _ _ (dUnhide Q0).now.rd (dUnhide Q1).now.rd (dUnhide Q2).now.rd).mono ?_
            rintro e w5 ⟨u5, rfl, q5, b5⟩
            replace hcur := belowThen hcur b5
            (try replace zz := BxZ.below zz b5)
            have Q5 := dHide q5
            obtain ⟨o5sa, o5sc, o5ea, o5ec, o5wa, o5wc, rfl, o5l1, o5l2, o5l3⟩ := formMend q5.now.rd
            clear q5 b5 Q0 Q1 Q2
            (try go_wp2_with fail)
            refine hK.out _ _ (by first | exact dUnhide HC _ hcur | exact dUnhide HC _ hst | exact dUnhide HC _ hbr | fail) (fun hHeld => ?_)
            clear hK K
            try simp only [Act.put, List.setIfInBounds_toArray, List.set_cons_zero, List.set_cons_succ]
            refine wpAnyH_take (i := 7) (oi := { dst := some 113, op := Op.move (Operand.tmp 120), type := 33, pos := "exact.go:3373", after := #[{ on := 6, ground := Ground.data }], guard := none }) (v := ?_) rfl (by kernel_rfl) (by kernel_rfl) (by kernel_rfl) (fun _ _ _ h => h) (Or.inl ⟨by rfl, ?_⟩) (by assumption) ?_
            rotate_left 1
            · intro w hSw
              (try dsimp only at hSw)
              first | (go_simp; done) | (go_simp; with_reducible rfl)
            try simp only [Act.put, List.setIfInBounds_toArray, List.set_cons_zero, List.set_cons_succ]
            refine wpAnyH_take (i := 8) (oi := { dst := some 121, op := Op.extract (Operand.tmp 113) 0, type := 30, pos := "exact.go:3373", after := #[{ on := 7, ground := Ground.data }], guard := none }) (v := ?_) rfl (by kernel_rfl) (by kernel_rfl) (by kernel_rfl) (fun _ _ _ h => h) (Or.inl ⟨by rfl, ?_⟩) (by assumption) ?_
            rotate_left 1
            · intro w hSw
              (try dsimp only at hSw)
              first | (go_simp; done) | (go_simp; with_reducible rfl)
            try simp only [Act.put, List.setIfInBounds_toArray, List.set_cons_zero, List.set_cons_succ]
            refine wpAnyH_take (i := 9) (oi := { dst := some 122, op := Op.extract (Operand.tmp 113) 1, type := 4, pos := "exact.go:3373", after := #[{ on := 7, ground := Ground.data }, { on := 11, ground := Ground.gcOnly Departure.lateStores }], guard := none }) (v := ?_) rfl (by kernel_rfl) (by kernel_rfl) (by kernel_rfl) (fun _ _ _ h => h) (Or.inl ⟨by rfl, ?_⟩) (by assumption) ?_
            rotate_left 1
            · intro w hSw
              (try dsimp only at hSw)
              first | (go_simp; done) | (go_simp; with_reducible rfl)
            try simp only [Act.put, List.setIfInBounds_toArray, List.set_cons_zero, List.set_cons_succ]
            refine wpAnyH_ready (rs := [11]) (by kernel_rfl) (by simp) ?_
            refine AllReadyH.cons (o := { dst := none, op := Op.store 30 (Operand.tmp 18) (Operand.tmp 121), type := 0, pos := "exact.go:3373", after := #[{ on := 10, ground := Ground.data }, { on := 8, ground := Ground.data }, { on := 6, ground := Ground.chain }, { on := 0, ground := Ground.phase }, { on := 1, ground := Ground.phase }, { on := 2, ground := Ground.phase }, { on := 3, ground := Ground.phase }, { on := 4, ground := Ground.phase }, { on := 5, ground := Ground.phase }, { on := 6, ground := Ground.phase }, { on := 7, ground := Ground.phase }, { on := 8, ground := Ground.phase }, { on := 9, ground := Ground.textOnly Departure.lateStores }, { on := 10, ground := Ground.phase }], guard := none }) rfl (fun K hK => ?_) AllReadyH.nil
            obtain ⟨z0, y0⟩ := zz.2 0 _ rfl
            obtain ⟨z1, y1⟩ := zz.2 1 _ rfl
            obtain ⟨z2, y2⟩ := zz.2 2 _ rfl
            obtain ⟨z3, y3⟩ := zz.2 3 _ rfl
            obtain ⟨z4, y4⟩ := zz.2 4 _ rfl
            obtain ⟨z5, y5⟩ := zz.2 5 _ rfl
            go_simp
            have hst := below_six hcur zz.1 (.int .i64 R.bye) (.int .i64 R.epoch) (.slice o5sa R.sealed.length o5sc) (.slice o5ea R.seen.length o5ec) (.bool R.planned) (.slice o5wa R.wrote.length o5wc)
            clear hcur z0 y0 z1 y1 z2 y2 z3 y3 z4 y4 z5 y5
            refine hK.out _ _ (by first | exact dUnhide HC _ hcur | exact dUnhide HC _ hst | exact dUnhide HC _ hbr | fail) (fun hHeld => ?_)
            clear hK K
            try simp only [Act.put, List.setIfInBounds_toArray, List.set_cons_zero, List.set_cons_succ]
            refine wpAnyH_take (i := 12) (oi := { dst := some 19, op := Op.assign (Operand.tmp 122), type := 4, pos := "exact.go:3373", after := #[{ on := 9, ground := Ground.data }, { on := 11, ground := Ground.chain }, { on := 0, ground := Ground.phase }, { on := 1, ground := Ground.phase }, { on := 2, ground := Ground.phase }, { on := 3, ground := Ground.phase }, { on := 4, ground := Ground.phase }, { on := 5, ground := Ground.phase }, { on := 6, ground := Ground.phase }, { on := 7, ground := Ground.phase }, { on := 8, ground := Ground.phase }, { on := 9, ground := Ground.phase }, { on := 10, ground := Ground.phase }, { on := 11, ground := Ground.phase }], guard := none }) (v := ?_) rfl (by kernel_rfl) (by kernel_rfl) (by kernel_rfl) (fun _ _ _ h => h) (Or.inl ⟨by rfl, ?_⟩) (by assumption) ?_
            rotate_left 1
            · intro w hSw
              (try dsimp only at hSw)
              first | (go_simp; done) | (go_simp; with_reducible rfl)
            try simp only [Act.put, List.setIfInBounds_toArray, List.set_cons_zero, List.set_cons_succ]
            refine wpAnyH_done (by kernel_rfl) ?_ _
            refine NoPanic.normal ?_
            go_wp2_with fail
            go_meet
            case rel => first | exact ⟨_, _, _, _, _, _, _, _, _, rfl, rfl, ((((((zz.put 0 (.int .i64 R.bye)).put 1 (.int .i64 R.epoch)).put 2 (.slice o5sa R.sealed.length o5sc)).put 3 (.slice o5ea R.seen.length o5ec)).put 4 (.bool R.planned)).put 5 (.slice o5wa R.wrote.length o5wc)).bx.sits, ((((((dUnhide Q5).setFar (.inl hlo) (.int .i64 R.bye)).setFar (.inl hlo) (.int .i64 R.epoch)).setFar (.inl hlo) (.slice o5sa R.sealed.length o5sc)).setFar (.inl hlo) (.slice o5ea R.seen.length o5ec)).setFar (.inl hlo) (.bool R.planned)).setFar (.inl hlo) (.slice o5wa R.wrote.length o5wc), (.inl hlo), zz.1, hcz, hst⟩ | exact ⟨_, _, _, _, _, _, _, _, _, rfl, rfl, ((((((zz.put 0 (.int .i64 R.bye)).put 1 (.int .i64 R.epoch)).put 2 (.slice o5sa R.sealed.length o5sc)).put 3 (.slice o5ea R.seen.length o5ec)).put 4 (.bool R.planned)).put 5 (.slice o5wa R.wrote.length o5wc)).bx.sits, ((((((dUnhide Q5).setFar (.inr (Nat.le_refl _)) (.int .i64 R.bye)).setFar (.inr (Nat.le_refl _)) (.int .i64 R.epoch)).setFar (.inr (Nat.le_refl _)) (.slice o5sa R.sealed.length o5sc)).setFar (.inr (Nat.le_refl _)) (.slice o5ea R.seen.length o5ec)).setFar (.inr (Nat.le_refl _)) (.bool R.planned)).setFar (.inr (Nat.le_refl _)) (.slice o5wa R.wrote.length o5wc), (.inr (Nat.le_refl _)), zz.1, hcz, hst⟩
        case rest =>
          obtain ⟨bX206, lod205, hid205, uhsa, uhsc, uhea, uhec, uhwa, uhwc, rfl, rfl, X206, OH, dd205, gd205, id205, bc⟩ := hcut
          clear kd2050 kd2051 kd2052 kd2053 kd2054 kd2055 kd2056 kd2057 HC hbr
          have sz207 := dHide bc.size
          replace X0 := dHide ((dUnhide X0).below bc)
          replace X1 := dHide ((dUnhide X1).below bc)
          replace X10 := dHide ((dUnhide X10).below bc)
          replace OW := dHide ((dUnhide OW).below bc)
          replace X69 := dHide ((dUnhide X69).below bc)
          replace M193 := dHide ((dUnhide M193).below bc)
          replace B := belowThen B bc
          have sz208 := dHide dd205
          have sz209 := dHide gd205
          have sz210 := dHide id205
          have sz211 := dHide X206.fit
          have sz212 := dHide OH.fit
          replace X206 := dHide X206
          replace OH := dHide OH
          clear bc dd205 gd205 id205
          generalize wc = w204 at *
          have k213 := (dUnhide X206).now 0 _ rfl
          have k214 := (dUnhide X206).now 1 _ rfl
          have k215 := (dUnhide X206).now 2 _ rfl
          have k216 := (dUnhide X206).now 3 _ rfl
          have k217 := (dUnhide X206).now 4 _ rfl
          have k218 := (dUnhide X206).now 5 _ rfl
          have k219 := (dUnhide X10).now 0 _ rfl
          have k220 := (dUnhide X10).now 1 _ rfl
          have k221 := (dUnhide X10).now 2 _ rfl
          have k222 := (dUnhide X10).now 3 _ rfl
          have k223 := (dUnhide X10).now 4 _ rfl
          have k224 := (dUnhide X10).now 5 _ rfl
          go_wp2_with fail
          refine (eqMend_ _ _ _ _ (dUnhide OH).now.rd (dUnhide OW).now.rd).mono ?_
          rintro e w225 ⟨rfl, b226⟩
          clear k213 k214 k215 k216 k217 k218 k219 k220 k221 k222 k223 k224
          have sz227 := dHide b226.size
          replace X0 := dHide ((dUnhide X0).below b226)
          replace X1 := dHide ((dUnhide X1).below b226)
          replace X10 := dHide ((dUnhide X10).below b226)
          replace OW := dHide ((dUnhide OW).below b226)
          replace X69 := dHide ((dUnhide X69).below b226)
          replace M193 := dHide ((dUnhide M193).below b226)
          replace X206 := dHide ((dUnhide X206).below b226)
          replace OH := dHide ((dUnhide OH).below b226)
          replace B := belowThen B b226
          clear b226
          have k228 := (dUnhide X69).now 0 _ rfl
          have k229 := (dUnhide X69).now 1 _ rfl
          have k230 := (dUnhide X69).now 2 _ rfl
          have k231 := (dUnhide X69).now 3 _ rfl
          have k232 := (dUnhide X69).now 4 _ rfl
          have k233 := (dUnhide X69).now 5 _ rfl
          go_wp2_with fail
          refine (heldMend_ _ R 1 _ (by omega) (by omega) (dUnhide M193).now.rd).mono ?_
          rintro e w234 ⟨rfl, b235⟩
          clear k228 k229 k230 k231 k232 k233
          have sz236 := dHide b235.size
          replace X0 := dHide ((dUnhide X0).below b235)
          replace X1 := dHide ((dUnhide X1).below b235)
          replace X10 := dHide ((dUnhide X10).below b235)
          replace OW := dHide ((dUnhide OW).below b235)
          replace X69 := dHide ((dUnhide X69).below b235)
          replace M193 := dHide ((dUnhide M193).below b235)
          replace X206 := dHide ((dUnhide X206).below b235)
          replace OH := dHide ((dUnhide OH).below b235)
          replace B := belowThen B b235
          clear b235
          clear X0 X1 X10 OW X69 M193 X206 OH
          go_wp2
          go_ret
          exact ⟨rfl, B⟩
end Go.Proofs.YtjbfpmackocgnaaGreat
