/- FnExactMendForget: both answers, and the law's walk (printed by tools/mkl9.py). -/
import Derived.Test.YtjbfpmackocgnaaQ9F
import Derived.Test.YtjbfpmackocgnaaMnSd
import Derived.Deep.RegionHeld3
import Derived.Deep.DeepCutAuto
namespace Go.Proofs.Ytjbfpmackocgnaa
open Go.ChangeShapes Go.WideShapes Go.ChangeAt Go.RowKit
set_option linter.unusedVariables false
theorem bothFnExactMendForget (m0 : List Int × Int) (m1 : Mn) (m2 : Int) (ok0 : okConfig m0) (ok1 : okMend m1) (ok2 : okInt m2) (hs0 : sizConfig m0 ≤ 1048576) (hs1 : sizMend m1 ≤ 1048576) : ∃ (R : Mn) (s1 : Bool), cntMend R ≤ 8388608 ∧ (∀ W v0 v1, RdConfig v0 m0 W → RdMend v1 m1 W → Calls Try.prog 50 #[v0, v1, .int .i64 m2] W fun e w' => ∃ u, e = .returned (.tuple #[u, .bool s1]) ∧ Sits (OwMend W.heap.size w'.heap.size u R) W.heap.size w'.heap.size w' ∧ Below W.heap.size W w') ∧ (∀ W v0 v1, RdConfig v0 m0 W → RdMend v1 m1 W → Calls Try.prog 51 #[v0, v1, .int .i64 m2] W fun e w' => ∃ u, e = .returned (.tuple #[u, .bool s1]) ∧ Sits (OwMend W.heap.size w'.heap.size u R) W.heap.size w'.heap.size w' ∧ Below W.heap.size W w') := bothMendForget_ m0 m1 m2 ok0 ok1 ok2 hs0 hs1
set_option maxHeartbeats 4000000 in
set_option maxRecDepth 100000 in
theorem walkFnExactMendForget (v0 v1 v2 : Value) (m0 : List Int × Int) (m1 : Mn) (m2 : Int) (w : World) (i0 : IsConfig v0 m0 w) (i1 : IsMend v1 m1 w) (i2 : IsInt v2 m2 w) :
    Calls Try.prog 11 #[v0, v1, v2] w fun r w' => r = .returned (.bool true) ∧ Below w.heap.size w w' := by
  obtain ⟨rfl, ok2⟩ := i2
  obtain ⟨r0, ok0⟩ := i0
  obtain ⟨r1, ok1⟩ := i1
  have ha : ∀ (w : World) o, Below w.heap.size w (w.alloc o) := fun w o => (Below.refl _ _).alloc (Nat.le_refl _) o
  have A0 := dHide fun W (hb : Below w.heap.size w W) => r0.below hb
  have A1 := dHide fun W (hb : Below w.heap.size w W) => r1.below hb
  obtain ⟨v0a, v0c, rfl, v0l⟩ := formConfig r0
  obtain ⟨v1sa, v1sc, v1ea, v1ec, v1wa, v1wc, rfl, v1l1, v1l2, v1l3⟩ := formMend r1
  by_cases z0 : (1048576 : Int) < (sizConfig m0 : Int)
  · have CS0 := dHide fun W (hb : Below w.heap.size w W) => szConfig_ _ m0 (1048576 : Int) (by omega) (by omega) W (dUnhide A0 W hb)
    rw [lft_no z0] at CS0
    clear z0
    go_enter Try.func11, Try.ntmps11
    go_wp2_with fail
    have B := belowThen (ha w (.cells #[.slice v0a m0.1.length v0c, .int .i64 m0.2] 61)) (ha _ (.cells #[.int .i64 m1.bye, .int .i64 m1.epoch, .slice v1sa m1.sealed.length v1sc, .slice v1ea m1.seen.length v1ec, .bool m1.planned, .slice v1wa m1.wrote.length v1wc] 64))
    have X0 := dHide ((Sits.box w #[.slice v0a m0.1.length v0c, .int .i64 m0.2] 61).below (ha _ (.cells #[.int .i64 m1.bye, .int .i64 m1.epoch, .slice v1sa m1.sealed.length v1sc, .slice v1ea m1.seen.length v1ec, .bool m1.planned, .slice v1wa m1.wrote.length v1wc] 64)))
    have X1 := Sits.box (w.alloc (.cells #[.slice v0a m0.1.length v0c, .int .i64 m0.2] 61)) #[.int .i64 m1.bye, .int .i64 m1.epoch, .slice v1sa m1.sealed.length v1sc, .slice v1ea m1.seen.length v1ec, .bool m1.planned, .slice v1wa m1.wrote.length v1wc] 64
    have e1 : (w.alloc (.cells #[.slice v0a m0.1.length v0c, .int .i64 m0.2] 61)).heap.size = w.heap.size + 1 := by simp
    rw [e1] at X1
    replace X1 := dHide X1
    have sz0 : Hid (w.heap.size + 1 + 1 = ((w.alloc (.cells #[.slice v0a m0.1.length v0c, .int .i64 m0.2] 61)).alloc (.cells #[.int .i64 m1.bye, .int .i64 m1.epoch, .slice v1sa m1.sealed.length v1sc, .slice v1ea m1.seen.length v1ec, .bool m1.planned, .slice v1wa m1.wrote.length v1wc] 64)).heap.size) := by simp [Hid]
    clear e1
    generalize (w.alloc (.cells #[.slice v0a m0.1.length v0c, .int .i64 m0.2] 61)).alloc (.cells #[.int .i64 m1.bye, .int .i64 m1.epoch, .slice v1sa m1.sealed.length v1sc, .slice v1ea m1.seen.length v1ec, .bool m1.planned, .slice v1wa m1.wrote.length v1wc] 64) = wb at *
    refine (dUnhide CS0 _ B).mono ?_
    rintro e ws0 ⟨rfl, bs⟩
    have sz1 := dHide bs.size
    replace X0 := dHide ((dUnhide X0).below bs)
    replace X1 := dHide ((dUnhide X1).below bs)
    replace B := belowThen B bs
    clear bs CS0
    clear X0 X1
    go_wp2
    go_ret
    exact ⟨rfl, B⟩
  by_cases z1 : ((1048576 : Int) - (sizConfig m0 : Int)) < (sizMend m1 : Int)
  · have CS0 := dHide fun W (hb : Below w.heap.size w W) => szConfig_ _ m0 (1048576 : Int) (by omega) (by omega) W (dUnhide A0 W hb)
    rw [lft_yes z0] at CS0
    have z0' : ¬ ((1048576 : Int) - (sizConfig m0 : Int) < 0) := by omega
    have CS1 := dHide fun W (hb : Below w.heap.size w W) => szMend_ _ m1 ((1048576 : Int) - (sizConfig m0 : Int)) (by omega) (by omega) (txtM_of ok1) W (dUnhide A1 W hb)
    rw [lft_no z1] at CS1
    clear z0 z1
    go_enter Try.func11, Try.ntmps11
    go_wp2_with fail
    have B := belowThen (ha w (.cells #[.slice v0a m0.1.length v0c, .int .i64 m0.2] 61)) (ha _ (.cells #[.int .i64 m1.bye, .int .i64 m1.epoch, .slice v1sa m1.sealed.length v1sc, .slice v1ea m1.seen.length v1ec, .bool m1.planned, .slice v1wa m1.wrote.length v1wc] 64))
    have X0 := dHide ((Sits.box w #[.slice v0a m0.1.length v0c, .int .i64 m0.2] 61).below (ha _ (.cells #[.int .i64 m1.bye, .int .i64 m1.epoch, .slice v1sa m1.sealed.length v1sc, .slice v1ea m1.seen.length v1ec, .bool m1.planned, .slice v1wa m1.wrote.length v1wc] 64)))
    have X1 := Sits.box (w.alloc (.cells #[.slice v0a m0.1.length v0c, .int .i64 m0.2] 61)) #[.int .i64 m1.bye, .int .i64 m1.epoch, .slice v1sa m1.sealed.length v1sc, .slice v1ea m1.seen.length v1ec, .bool m1.planned, .slice v1wa m1.wrote.length v1wc] 64
    have e1 : (w.alloc (.cells #[.slice v0a m0.1.length v0c, .int .i64 m0.2] 61)).heap.size = w.heap.size + 1 := by simp
    rw [e1] at X1
    replace X1 := dHide X1
    have sz0 : Hid (w.heap.size + 1 + 1 = ((w.alloc (.cells #[.slice v0a m0.1.length v0c, .int .i64 m0.2] 61)).alloc (.cells #[.int .i64 m1.bye, .int .i64 m1.epoch, .slice v1sa m1.sealed.length v1sc, .slice v1ea m1.seen.length v1ec, .bool m1.planned, .slice v1wa m1.wrote.length v1wc] 64)).heap.size) := by simp [Hid]
    clear e1
    generalize (w.alloc (.cells #[.slice v0a m0.1.length v0c, .int .i64 m0.2] 61)).alloc (.cells #[.int .i64 m1.bye, .int .i64 m1.epoch, .slice v1sa m1.sealed.length v1sc, .slice v1ea m1.seen.length v1ec, .bool m1.planned, .slice v1wa m1.wrote.length v1wc] 64) = wb at *
    refine (dUnhide CS0 _ B).mono ?_
    rintro e ws0 ⟨rfl, bs⟩
    have sz1 := dHide bs.size
    replace X0 := dHide ((dUnhide X0).below bs)
    replace X1 := dHide ((dUnhide X1).below bs)
    replace B := belowThen B bs
    clear bs CS0
    have k2 := (dUnhide X1).now 0 _ rfl
    have k3 := (dUnhide X1).now 1 _ rfl
    have k4 := (dUnhide X1).now 2 _ rfl
    have k5 := (dUnhide X1).now 3 _ rfl
    have k6 := (dUnhide X1).now 4 _ rfl
    have k7 := (dUnhide X1).now 5 _ rfl
    go_wp2_with fail
    refine (dUnhide CS1 _ B).mono ?_
    rintro e ws1 ⟨rfl, bs⟩
    have sz8 := dHide bs.size
    replace X0 := dHide ((dUnhide X0).below bs)
    replace X1 := dHide ((dUnhide X1).below bs)
    replace B := belowThen B bs
    clear bs CS1 k2 k3 k4 k5 k6 k7
    clear X0 X1
    go_wp2
    go_ret
    exact ⟨rfl, B⟩
  have hs0 : sizConfig m0 ≤ 1048576 := by omega
  have hs1 : sizMend m1 ≤ 1048576 := by omega
  have hc0 := cntConfig_le hs0
  have hc1 := cntMend_le hs1
  obtain ⟨R, s1, hR, p1, p2⟩ := bothFnExactMendForget m0 m1 m2 ok0 ok1 ok2 hs0 hs1
  have CP := dHide p1
  have CI := dHide p2
  have CS0 := dHide fun W (hb : Below w.heap.size w W) => szConfig_ _ m0 (1048576 : Int) (by omega) (by omega) W (dUnhide A0 W hb)
  rw [lft_yes z0] at CS0
  have z0' : ¬ ((1048576 : Int) - (sizConfig m0 : Int) < 0) := by omega
  have CS1 := dHide fun W (hb : Below w.heap.size w W) => szMend_ _ m1 ((1048576 : Int) - (sizConfig m0 : Int)) (by omega) (by omega) (txtM_of ok1) W (dUnhide A1 W hb)
  rw [lft_yes z1] at CS1
  have z1' : ¬ (((1048576 : Int) - (sizConfig m0 : Int)) - (sizMend m1 : Int) < 0) := by omega
  clear p1 p2 r0 ok0 r1 ok1 ok2
  go_enter Try.func11, Try.ntmps11
  go_wp2_with fail
  have B := belowThen (ha w (.cells #[.slice v0a m0.1.length v0c, .int .i64 m0.2] 61)) (ha _ (.cells #[.int .i64 m1.bye, .int .i64 m1.epoch, .slice v1sa m1.sealed.length v1sc, .slice v1ea m1.seen.length v1ec, .bool m1.planned, .slice v1wa m1.wrote.length v1wc] 64))
  have X0 := dHide ((Sits.box w #[.slice v0a m0.1.length v0c, .int .i64 m0.2] 61).below (ha _ (.cells #[.int .i64 m1.bye, .int .i64 m1.epoch, .slice v1sa m1.sealed.length v1sc, .slice v1ea m1.seen.length v1ec, .bool m1.planned, .slice v1wa m1.wrote.length v1wc] 64)))
  have X1 := Sits.box (w.alloc (.cells #[.slice v0a m0.1.length v0c, .int .i64 m0.2] 61)) #[.int .i64 m1.bye, .int .i64 m1.epoch, .slice v1sa m1.sealed.length v1sc, .slice v1ea m1.seen.length v1ec, .bool m1.planned, .slice v1wa m1.wrote.length v1wc] 64
  have e1 : (w.alloc (.cells #[.slice v0a m0.1.length v0c, .int .i64 m0.2] 61)).heap.size = w.heap.size + 1 := by simp
  rw [e1] at X1
  replace X1 := dHide X1
  have sz0 : Hid (w.heap.size + 1 + 1 = ((w.alloc (.cells #[.slice v0a m0.1.length v0c, .int .i64 m0.2] 61)).alloc (.cells #[.int .i64 m1.bye, .int .i64 m1.epoch, .slice v1sa m1.sealed.length v1sc, .slice v1ea m1.seen.length v1ec, .bool m1.planned, .slice v1wa m1.wrote.length v1wc] 64)).heap.size) := by simp [Hid]
  clear e1
  generalize (w.alloc (.cells #[.slice v0a m0.1.length v0c, .int .i64 m0.2] 61)).alloc (.cells #[.int .i64 m1.bye, .int .i64 m1.epoch, .slice v1sa m1.sealed.length v1sc, .slice v1ea m1.seen.length v1ec, .bool m1.planned, .slice v1wa m1.wrote.length v1wc] 64) = wb at *
  refine (dUnhide CS0 _ B).mono ?_
  rintro e ws0 ⟨rfl, bs⟩
  have sz1 := dHide bs.size
  replace X0 := dHide ((dUnhide X0).below bs)
  replace X1 := dHide ((dUnhide X1).below bs)
  replace B := belowThen B bs
  clear bs CS0
  have k2 := (dUnhide X1).now 0 _ rfl
  have k3 := (dUnhide X1).now 1 _ rfl
  have k4 := (dUnhide X1).now 2 _ rfl
  have k5 := (dUnhide X1).now 3 _ rfl
  have k6 := (dUnhide X1).now 4 _ rfl
  have k7 := (dUnhide X1).now 5 _ rfl
  go_wp2_with fail
  refine (dUnhide CS1 _ B).mono ?_
  rintro e ws1 ⟨rfl, bs⟩
  have sz8 := dHide bs.size
  replace X0 := dHide ((dUnhide X0).below bs)
  replace X1 := dHide ((dUnhide X1).below bs)
  replace B := belowThen B bs
  clear bs CS1 k2 k3 k4 k5 k6 k7
  go_wp2_with fail
  have hC : ∀ W, Below ws1.heap.size ws1 W → W.cell? ⟨w.heap.size, 0, none⟩ = some (.slice v0a m0.1.length v0c) ∧ W.cell? ⟨w.heap.size, 1, none⟩ = some (.int .i64 m0.2) ∧ W.cell? ⟨w.heap.size + 1, 0, none⟩ = some (.int .i64 m1.bye) ∧ W.cell? ⟨w.heap.size + 1, 1, none⟩ = some (.int .i64 m1.epoch) ∧ W.cell? ⟨w.heap.size + 1, 2, none⟩ = some (.slice v1sa m1.sealed.length v1sc) ∧ W.cell? ⟨w.heap.size + 1, 3, none⟩ = some (.slice v1ea m1.seen.length v1ec) ∧ W.cell? ⟨w.heap.size + 1, 4, none⟩ = some (.bool m1.planned) ∧ W.cell? ⟨w.heap.size + 1, 5, none⟩ = some (.slice v1wa m1.wrote.length v1wc) := fun W hb =>
    ⟨(dUnhide X0).at hb 0 _ rfl, (dUnhide X0).at hb 1 _ rfl, (dUnhide X1).at hb 0 _ rfl, (dUnhide X1).at hb 1 _ rfl, (dUnhide X1).at hb 2 _ rfl, (dUnhide X1).at hb 3 _ rfl, (dUnhide X1).at hb 4 _ rfl, (dUnhide X1).at hb 5 _ rfl⟩
  have HC := dHide hC
  have hbr := Below.refl ws1.heap.size ws1
  obtain ⟨kd90, kd91, kd92, kd93, kd94, kd95, kd96, kd97⟩ := hC ws1 hbr
  clear hC
  go_cut [8, 9] (fun sv t1 wx => ∃ (bv lo hi : Nat) (sa : Option Addr) (sc : Nat) (ea : Option Addr) (ec : Nat) (wa : Option Addr) (wc : Nat), sv = .pointer (some ⟨bv, 0, none⟩) ∧ t1 = .bool s1 ∧ Sits (Box bv #[.int .i64 R.bye, .int .i64 R.epoch, .slice sa R.sealed.length sc, .slice ea R.seen.length ec, .bool R.planned, .slice wa R.wrote.length wc]) bv (bv + 1) wx ∧ Sits (OwMend lo hi (.agg #[.int .i64 R.bye, .int .i64 R.epoch, .slice sa R.sealed.length sc, .slice ea R.seen.length ec, .bool R.planned, .slice wa R.wrote.length wc]) R) lo hi wx ∧ (bv < lo ∨ hi ≤ bv) ∧ ws1.heap.size ≤ bv ∧ ws1.heap.size ≤ lo ∧ Below ws1.heap.size ws1 wx)
  case first =>
    clear kd90 kd91 kd92 kd93 kd94 kd95 kd96 kd97
    have hcur := hbr.drew
    refine wp_region_noPanic ?_
    refine wp_region_held_drew (S := fun W => W.cell? ⟨w.heap.size, 0, none⟩ = some (.slice v0a m0.1.length v0c) ∧ W.cell? ⟨w.heap.size, 1, none⟩ = some (.int .i64 m0.2) ∧ W.cell? ⟨w.heap.size + 1, 0, none⟩ = some (.int .i64 m1.bye) ∧ W.cell? ⟨w.heap.size + 1, 1, none⟩ = some (.int .i64 m1.epoch) ∧ W.cell? ⟨w.heap.size + 1, 2, none⟩ = some (.slice v1sa m1.sealed.length v1sc) ∧ W.cell? ⟨w.heap.size + 1, 3, none⟩ = some (.slice v1ea m1.seen.length v1ec) ∧ W.cell? ⟨w.heap.size + 1, 4, none⟩ = some (.bool m1.planned) ∧ W.cell? ⟨w.heap.size + 1, 5, none⟩ = some (.slice v1wa m1.wrote.length v1wc)) (by kernel_rfl) (by first | exact dUnhide HC _ hcur | exact dUnhide HC _ hst | exact dUnhide HC _ hbr | fail) (fun hHeld => ?_)
    clear hbr
    generalize ws1.drew = wd at *
    refine wpAnyH_take (i := 0) (oi := { dst := some 30, op := Op.load 61 (Operand.tmp 3), type := 61, pos := "exact.go:3473", after := #[], guard := none }) (v := ?_) rfl (by kernel_rfl) (by kernel_rfl) (by kernel_rfl) (fun _ _ _ h => h) (Or.inl ⟨by rfl, ?_⟩) (by assumption) ?_
    rotate_left 1
    · intro w hSw
      (try dsimp only at hSw)
      first | (go_simp; done) | (go_simp; with_reducible rfl)
    try simp only [Act.put, List.setIfInBounds_toArray, List.set_cons_zero, List.set_cons_succ]
    refine wpAnyH_take (i := 2) (oi := { dst := some 32, op := Op.load 64 (Operand.tmp 4), type := 64, pos := "exact.go:3473", after := #[], guard := none }) (v := ?_) rfl (by kernel_rfl) (by kernel_rfl) (by kernel_rfl) (fun _ _ _ h => h) (Or.inl ⟨by rfl, ?_⟩) (by assumption) ?_
    rotate_left 1
    · intro w hSw
      (try dsimp only at hSw)
      first | (go_simp; done) | (go_simp; with_reducible rfl)
    try simp only [Act.put, List.setIfInBounds_toArray, List.set_cons_zero, List.set_cons_succ]
    refine wpAnyH_take (i := 4) (oi := { dst := some 34, op := Op.move (Operand.tmp 2), type := 3, pos := "exact.go:3473", after := #[], guard := none }) (v := ?_) rfl (by kernel_rfl) (by kernel_rfl) (by kernel_rfl) (fun _ _ _ h => h) (Or.inl ⟨by rfl, ?_⟩) (by assumption) ?_
    rotate_left 1
    · intro w hSw
      (try dsimp only at hSw)
      first | (go_simp; done) | (go_simp; with_reducible rfl)
    try simp only [Act.put, List.setIfInBounds_toArray, List.set_cons_zero, List.set_cons_succ]
    refine wpAnyH_ready (rs := [1, 9]) (by kernel_rfl) (by simp) ?_
    refine AllReadyH.cons (o := { dst := some 31, op := Op.call { callee := Callee.value (Operand.func 39), args := #[Operand.tmp 30], argTypes := #[61] }, type := 26, pos := "exact.go:3473", after := #[{ on := 0, ground := Ground.data }], guard := none }) rfl (fun K hK => ?_) (AllReadyH.cons (o := { dst := some 8, op := Op.alloc 47, type := 0, pos := "exact.go:3473", after := #[], guard := none }) rfl (fun K hK => ?_) AllReadyH.nil)
    · go_simp
      refine (toConfig_ _ m0 _ hs0 (dUnhide A0 _ (belowThen B hcur))).mono ?_
      rintro e wq0 ⟨o0, rfl, q0, b0⟩
      replace hcur := belowThen hcur b0
      (try replace zz := BxZ.below zz b0)
      have Q0 := dHide q0
      obtain ⟨o0a, o0c, rfl, o0l⟩ := formConfig q0.now.rd
      clear q0 b0
      (try go_wp2_with fail)
      refine hK.out _ _ (by first | exact dUnhide HC _ hcur | exact dUnhide HC _ hst | exact dUnhide HC _ hbr | fail) (fun hHeld => ?_)
      clear hK K
      try simp only [Act.put, List.setIfInBounds_toArray, List.set_cons_zero, List.set_cons_succ]
      refine wpAnyH_ready (rs := [3, 9]) (by kernel_rfl) (by simp) ?_
      refine AllReadyH.cons (o := { dst := some 33, op := Op.call { callee := Callee.value (Operand.func 40), args := #[Operand.tmp 32], argTypes := #[64] }, type := 47, pos := "exact.go:3473", after := #[{ on := 2, ground := Ground.data }, { on := 1, ground := Ground.chain }], guard := none }) rfl (fun K hK => ?_) (AllReadyH.cons (o := { dst := some 8, op := Op.alloc 47, type := 0, pos := "exact.go:3473", after := #[], guard := none }) rfl (fun K hK => ?_) AllReadyH.nil)
      · go_simp
        refine (toMend_ _ m1 _ hs1 (dUnhide A1 _ (belowThen B hcur))).mono ?_
        rintro e wq1 ⟨o1, rfl, q1, b1⟩
        replace hcur := belowThen hcur b1
        (try replace zz := BxZ.below zz b1)
        replace Q0 := dHide ((dUnhide Q0).below b1)
        have Q1 := dHide q1
        obtain ⟨o1sa, o1sc, o1ea, o1ec, o1wa, o1wc, rfl, o1l1, o1l2, o1l3⟩ := formMend q1.now.rd
        clear q1 b1
        (try go_wp2_with fail)
        refine hK.out _ _ (by first | exact dUnhide HC _ hcur | exact dUnhide HC _ hst | exact dUnhide HC _ hbr | fail) (fun hHeld => ?_)
        clear hK K
        try simp only [Act.put, List.setIfInBounds_toArray, List.set_cons_zero, List.set_cons_succ]
        refine wpAnyH_ready (rs := [5, 9]) (by kernel_rfl) (by simp) ?_
        refine AllReadyH.cons (o := { dst := some 35, op := Op.call { callee := Callee.value (Operand.func 50), args := #[Operand.tmp 31, Operand.tmp 33, Operand.tmp 34], argTypes := #[26, 47, 3] }, type := 76, pos := "exact.go:3473", after := #[{ on := 1, ground := Ground.data }, { on := 3, ground := Ground.data }, { on := 4, ground := Ground.data }, { on := 3, ground := Ground.chain }], guard := none }) rfl (fun K hK => ?_) (AllReadyH.cons (o := { dst := some 8, op := Op.alloc 47, type := 0, pos := "exact.go:3473", after := #[], guard := none }) rfl (fun K hK => ?_) AllReadyH.nil)
        · go_simp
          (try have hlo := BxZ.lt zz)
          have hcz := hcur.size
          refine (dUnhide CP _ _ _ (dUnhide Q0).now.rd (dUnhide Q1).now.rd).mono ?_
          rintro e w5 ⟨u5, rfl, q5, b5⟩
          replace hcur := belowThen hcur b5
          (try replace zz := BxZ.below zz b5)
          have Q5 := dHide q5
          obtain ⟨o5sa, o5sc, o5ea, o5ec, o5wa, o5wc, rfl, o5l1, o5l2, o5l3⟩ := formMend q5.now.rd
          clear q5 b5 Q0 Q1
          (try go_wp2_with fail)
          refine hK.out _ _ (by first | exact dUnhide HC _ hcur | exact dUnhide HC _ hst | exact dUnhide HC _ hbr | fail) (fun hHeld => ?_)
          clear hK K
          try simp only [Act.put, List.setIfInBounds_toArray, List.set_cons_zero, List.set_cons_succ]
          refine wpAnyH_take (i := 6) (oi := { dst := some 29, op := Op.move (Operand.tmp 35), type := 76, pos := "exact.go:3473", after := #[{ on := 5, ground := Ground.data }], guard := none }) (v := ?_) rfl (by kernel_rfl) (by kernel_rfl) (by kernel_rfl) (fun _ _ _ h => h) (Or.inl ⟨by rfl, ?_⟩) (by assumption) ?_
          rotate_left 1
          · intro w hSw
            (try dsimp only at hSw)
            first | (go_simp; done) | (go_simp; with_reducible rfl)
          try simp only [Act.put, List.setIfInBounds_toArray, List.set_cons_zero, List.set_cons_succ]
          refine wpAnyH_take (i := 7) (oi := { dst := some 36, op := Op.extract (Operand.tmp 29) 0, type := 47, pos := "exact.go:3473", after := #[{ on := 6, ground := Ground.data }], guard := none }) (v := ?_) rfl (by kernel_rfl) (by kernel_rfl) (by kernel_rfl) (fun _ _ _ h => h) (Or.inl ⟨by rfl, ?_⟩) (by assumption) ?_
          rotate_left 1
          · intro w hSw
            (try dsimp only at hSw)
            first | (go_simp; done) | (go_simp; with_reducible rfl)
          try simp only [Act.put, List.setIfInBounds_toArray, List.set_cons_zero, List.set_cons_succ]
          refine wpAnyH_take (i := 8) (oi := { dst := some 37, op := Op.extract (Operand.tmp 29) 1, type := 4, pos := "exact.go:3473", after := #[{ on := 6, ground := Ground.data }, { on := 10, ground := Ground.gcOnly Departure.lateStores }], guard := none }) (v := ?_) rfl (by kernel_rfl) (by kernel_rfl) (by kernel_rfl) (fun _ _ _ h => h) (Or.inl ⟨by rfl, ?_⟩) (by assumption) ?_
          rotate_left 1
          · intro w hSw
            (try dsimp only at hSw)
            first | (go_simp; done) | (go_simp; with_reducible rfl)
          try simp only [Act.put, List.setIfInBounds_toArray, List.set_cons_zero, List.set_cons_succ]
          refine wpAnyH_ready (rs := [9]) (by kernel_rfl) (by simp) ?_
          refine AllReadyH.cons (o := { dst := some 8, op := Op.alloc 47, type := 0, pos := "exact.go:3473", after := #[], guard := none }) rfl (fun K hK => ?_) AllReadyH.nil
          go_simp
          have zz := BxZ.new (B := ws1.heap.size) _ [.int .i64 0, .int .i64 0, .slice none 0 0, .slice none 0 0, .bool false, .slice none 0 0] 47 hcur.size
          (try replace Q0 := dHide ((dUnhide Q0).below (ha _ (.cells #[.int .i64 0, .int .i64 0, .slice none 0 0, .slice none 0 0, .bool false, .slice none 0 0] 47))))
          (try replace Q1 := dHide ((dUnhide Q1).below (ha _ (.cells #[.int .i64 0, .int .i64 0, .slice none 0 0, .slice none 0 0, .bool false, .slice none 0 0] 47))))
          (try replace Q5 := dHide ((dUnhide Q5).below (ha _ (.cells #[.int .i64 0, .int .i64 0, .slice none 0 0, .slice none 0 0, .bool false, .slice none 0 0] 47))))
          replace hcur := hcur.alloc hcur.size (.cells #[.int .i64 0, .int .i64 0, .slice none 0 0, .slice none 0 0, .bool false, .slice none 0 0] 47)
          first | generalize w5.alloc (.cells #[.int .i64 0, .int .i64 0, .slice none 0 0, .slice none 0 0, .bool false, .slice none 0 0] 47) = wa at * | generalize wq1.alloc (.cells #[.int .i64 0, .int .i64 0, .slice none 0 0, .slice none 0 0, .bool false, .slice none 0 0] 47) = wa at * | generalize wq0.alloc (.cells #[.int .i64 0, .int .i64 0, .slice none 0 0, .slice none 0 0, .bool false, .slice none 0 0] 47) = wa at * | generalize wd.alloc (.cells #[.int .i64 0, .int .i64 0, .slice none 0 0, .slice none 0 0, .bool false, .slice none 0 0] 47) = wa at * | fail
          refine hK.out _ _ (by first | exact dUnhide HC _ hcur | exact dUnhide HC _ hst | exact dUnhide HC _ hbr | fail) (fun hHeld => ?_)
          clear hK K
          try simp only [Act.put, List.setIfInBounds_toArray, List.set_cons_zero, List.set_cons_succ]
          refine wpAnyH_ready (rs := [10]) (by kernel_rfl) (by simp) ?_
          refine AllReadyH.cons (o := { dst := none, op := Op.store 47 (Operand.tmp 8) (Operand.tmp 36), type := 0, pos := "exact.go:3473", after := #[{ on := 9, ground := Ground.data }, { on := 7, ground := Ground.data }, { on := 5, ground := Ground.chain }, { on := 0, ground := Ground.phase }, { on := 1, ground := Ground.phase }, { on := 2, ground := Ground.phase }, { on := 3, ground := Ground.phase }, { on := 4, ground := Ground.phase }, { on := 5, ground := Ground.phase }, { on := 6, ground := Ground.phase }, { on := 7, ground := Ground.phase }, { on := 8, ground := Ground.textOnly Departure.lateStores }, { on := 9, ground := Ground.phase }], guard := none }) rfl (fun K hK => ?_) AllReadyH.nil
          obtain ⟨z0, y0⟩ := zz.2 0 _ rfl
          obtain ⟨z1, y1⟩ := zz.2 1 _ rfl
          obtain ⟨z2, y2⟩ := zz.2 2 _ rfl
          obtain ⟨z3, y3⟩ := zz.2 3 _ rfl
          obtain ⟨z4, y4⟩ := zz.2 4 _ rfl
          obtain ⟨z5, y5⟩ := zz.2 5 _ rfl
          go_simp
          have hst := below_six hcur zz.1 (.int .i64 R.bye) (.int .i64 R.epoch) (.slice o5sa R.sealed.length o5sc) (.slice o5ea R.seen.length o5ec) (.bool R.planned) (.slice o5wa R.wrote.length o5wc)
          clear hcur z0 y0 z1 y1 z2 y2 z3 y3 z4 y4 z5 y5
          refine hK.out _ _ (by first | exact dUnhide HC _ hcur | exact dUnhide HC _ hst | exact dUnhide HC _ hbr | fail) (fun hHeld => ?_)
          clear hK K
          try simp only [Act.put, List.setIfInBounds_toArray, List.set_cons_zero, List.set_cons_succ]
          refine wpAnyH_take (i := 11) (oi := { dst := some 9, op := Op.assign (Operand.tmp 37), type := 4, pos := "exact.go:3473", after := #[{ on := 8, ground := Ground.data }, { on := 10, ground := Ground.chain }, { on := 0, ground := Ground.phase }, { on := 1, ground := Ground.phase }, { on := 2, ground := Ground.phase }, { on := 3, ground := Ground.phase }, { on := 4, ground := Ground.phase }, { on := 5, ground := Ground.phase }, { on := 6, ground := Ground.phase }, { on := 7, ground := Ground.phase }, { on := 8, ground := Ground.phase }, { on := 9, ground := Ground.phase }, { on := 10, ground := Ground.phase }], guard := none }) (v := ?_) rfl (by kernel_rfl) (by kernel_rfl) (by kernel_rfl) (fun _ _ _ h => h) (Or.inl ⟨by rfl, ?_⟩) (by assumption) ?_
          rotate_left 1
          · intro w hSw
            (try dsimp only at hSw)
            first | (go_simp; done) | (go_simp; with_reducible rfl)
          try simp only [Act.put, List.setIfInBounds_toArray, List.set_cons_zero, List.set_cons_succ]
          refine wpAnyH_done (by kernel_rfl) ?_ _
          refine NoPanic.normal ?_
          go_wp2_with fail
          go_meet
          case rel => first | exact ⟨_, _, _, _, _, _, _, _, _, rfl, rfl, ((((((zz.put 0 (.int .i64 R.bye)).put 1 (.int .i64 R.epoch)).put 2 (.slice o5sa R.sealed.length o5sc)).put 3 (.slice o5ea R.seen.length o5ec)).put 4 (.bool R.planned)).put 5 (.slice o5wa R.wrote.length o5wc)).bx.sits, ((((((dUnhide Q5).setFar (.inl hlo) (.int .i64 R.bye)).setFar (.inl hlo) (.int .i64 R.epoch)).setFar (.inl hlo) (.slice o5sa R.sealed.length o5sc)).setFar (.inl hlo) (.slice o5ea R.seen.length o5ec)).setFar (.inl hlo) (.bool R.planned)).setFar (.inl hlo) (.slice o5wa R.wrote.length o5wc), (.inl hlo), zz.1, hcz, hst⟩ | exact ⟨_, _, _, _, _, _, _, _, _, rfl, rfl, ((((((zz.put 0 (.int .i64 R.bye)).put 1 (.int .i64 R.epoch)).put 2 (.slice o5sa R.sealed.length o5sc)).put 3 (.slice o5ea R.seen.length o5ec)).put 4 (.bool R.planned)).put 5 (.slice o5wa R.wrote.length o5wc)).bx.sits, ((((((dUnhide Q5).setFar (.inr (Nat.le_refl _)) (.int .i64 R.bye)).setFar (.inr (Nat.le_refl _)) (.int .i64 R.epoch)).setFar (.inr (Nat.le_refl _)) (.slice o5sa R.sealed.length o5sc)).setFar (.inr (Nat.le_refl _)) (.slice o5ea R.seen.length o5ec)).setFar (.inr (Nat.le_refl _)) (.bool R.planned)).setFar (.inr (Nat.le_refl _)) (.slice o5wa R.wrote.length o5wc), (.inr (Nat.le_refl _)), zz.1, hcz, hst⟩
        · go_simp
          have zz := BxZ.new (B := ws1.heap.size) _ [.int .i64 0, .int .i64 0, .slice none 0 0, .slice none 0 0, .bool false, .slice none 0 0] 47 hcur.size
          (try replace Q0 := dHide ((dUnhide Q0).below (ha _ (.cells #[.int .i64 0, .int .i64 0, .slice none 0 0, .slice none 0 0, .bool false, .slice none 0 0] 47))))
          (try replace Q1 := dHide ((dUnhide Q1).below (ha _ (.cells #[.int .i64 0, .int .i64 0, .slice none 0 0, .slice none 0 0, .bool false, .slice none 0 0] 47))))
          (try replace Q5 := dHide ((dUnhide Q5).below (ha _ (.cells #[.int .i64 0, .int .i64 0, .slice none 0 0, .slice none 0 0, .bool false, .slice none 0 0] 47))))
          replace hcur := hcur.alloc hcur.size (.cells #[.int .i64 0, .int .i64 0, .slice none 0 0, .slice none 0 0, .bool false, .slice none 0 0] 47)
          first | generalize w5.alloc (.cells #[.int .i64 0, .int .i64 0, .slice none 0 0, .slice none 0 0, .bool false, .slice none 0 0] 47) = wa at * | generalize wq1.alloc (.cells #[.int .i64 0, .int .i64 0, .slice none 0 0, .slice none 0 0, .bool false, .slice none 0 0] 47) = wa at * | generalize wq0.alloc (.cells #[.int .i64 0, .int .i64 0, .slice none 0 0, .slice none 0 0, .bool false, .slice none 0 0] 47) = wa at * | generalize wd.alloc (.cells #[.int .i64 0, .int .i64 0, .slice none 0 0, .slice none 0 0, .bool false, .slice none 0 0] 47) = wa at * | fail
          refine hK.out _ _ (by first | exact dUnhide HC _ hcur | exact dUnhide HC _ hst | exact dUnhide HC _ hbr | fail) (fun hHeld => ?_)
          clear hK K
          try simp only [Act.put, List.setIfInBounds_toArray, List.set_cons_zero, List.set_cons_succ]
          refine wpAnyH_ready (rs := [5]) (by kernel_rfl) (by simp) ?_
          refine AllReadyH.cons (o := { dst := some 35, op := Op.call { callee := Callee.value (Operand.func 50), args := #[Operand.tmp 31, Operand.tmp 33, Operand.tmp 34], argTypes := #[26, 47, 3] }, type := 76, pos := "exact.go:3473", after := #[{ on := 1, ground := Ground.data }, { on := 3, ground := Ground.data }, { on := 4, ground := Ground.data }, { on := 3, ground := Ground.chain }], guard := none }) rfl (fun K hK => ?_) AllReadyH.nil
          go_simp
          (try have hlo := BxZ.lt zz)
          have hcz := hcur.size
          refine (dUnhide CP _ _ _ (dUnhide Q0).now.rd (dUnhide Q1).now.rd).mono ?_
          rintro e w5 ⟨u5, rfl, q5, b5⟩
          replace hcur := belowThen hcur b5
          (try replace zz := BxZ.below zz b5)
          have Q5 := dHide q5
          obtain ⟨o5sa, o5sc, o5ea, o5ec, o5wa, o5wc, rfl, o5l1, o5l2, o5l3⟩ := formMend q5.now.rd
          clear q5 b5 Q0 Q1
          (try go_wp2_with fail)
          refine hK.out _ _ (by first | exact dUnhide HC _ hcur | exact dUnhide HC _ hst | exact dUnhide HC _ hbr | fail) (fun hHeld => ?_)
          clear hK K
          try simp only [Act.put, List.setIfInBounds_toArray, List.set_cons_zero, List.set_cons_succ]
          refine wpAnyH_take (i := 6) (oi := { dst := some 29, op := Op.move (Operand.tmp 35), type := 76, pos := "exact.go:3473", after := #[{ on := 5, ground := Ground.data }], guard := none }) (v := ?_) rfl (by kernel_rfl) (by kernel_rfl) (by kernel_rfl) (fun _ _ _ h => h) (Or.inl ⟨by rfl, ?_⟩) (by assumption) ?_
          rotate_left 1
          · intro w hSw
            (try dsimp only at hSw)
            first | (go_simp; done) | (go_simp; with_reducible rfl)
          try simp only [Act.put, List.setIfInBounds_toArray, List.set_cons_zero, List.set_cons_succ]
          refine wpAnyH_take (i := 7) (oi := { dst := some 36, op := Op.extract (Operand.tmp 29) 0, type := 47, pos := "exact.go:3473", after := #[{ on := 6, ground := Ground.data }], guard := none }) (v := ?_) rfl (by kernel_rfl) (by kernel_rfl) (by kernel_rfl) (fun _ _ _ h => h) (Or.inl ⟨by rfl, ?_⟩) (by assumption) ?_
          rotate_left 1
          · intro w hSw
            (try dsimp only at hSw)
            first | (go_simp; done) | (go_simp; with_reducible rfl)
          try simp only [Act.put, List.setIfInBounds_toArray, List.set_cons_zero, List.set_cons_succ]
          refine wpAnyH_take (i := 8) (oi := { dst := some 37, op := Op.extract (Operand.tmp 29) 1, type := 4, pos := "exact.go:3473", after := #[{ on := 6, ground := Ground.data }, { on := 10, ground := Ground.gcOnly Departure.lateStores }], guard := none }) (v := ?_) rfl (by kernel_rfl) (by kernel_rfl) (by kernel_rfl) (fun _ _ _ h => h) (Or.inl ⟨by rfl, ?_⟩) (by assumption) ?_
          rotate_left 1
          · intro w hSw
            (try dsimp only at hSw)
            first | (go_simp; done) | (go_simp; with_reducible rfl)
          try simp only [Act.put, List.setIfInBounds_toArray, List.set_cons_zero, List.set_cons_succ]
          refine wpAnyH_ready (rs := [10]) (by kernel_rfl) (by simp) ?_
          refine AllReadyH.cons (o := { dst := none, op := Op.store 47 (Operand.tmp 8) (Operand.tmp 36), type := 0, pos := "exact.go:3473", after := #[{ on := 9, ground := Ground.data }, { on := 7, ground := Ground.data }, { on := 5, ground := Ground.chain }, { on := 0, ground := Ground.phase }, { on := 1, ground := Ground.phase }, { on := 2, ground := Ground.phase }, { on := 3, ground := Ground.phase }, { on := 4, ground := Ground.phase }, { on := 5, ground := Ground.phase }, { on := 6, ground := Ground.phase }, { on := 7, ground := Ground.phase }, { on := 8, ground := Ground.textOnly Departure.lateStores }, { on := 9, ground := Ground.phase }], guard := none }) rfl (fun K hK => ?_) AllReadyH.nil
          obtain ⟨z0, y0⟩ := zz.2 0 _ rfl
          obtain ⟨z1, y1⟩ := zz.2 1 _ rfl
          obtain ⟨z2, y2⟩ := zz.2 2 _ rfl
          obtain ⟨z3, y3⟩ := zz.2 3 _ rfl
          obtain ⟨z4, y4⟩ := zz.2 4 _ rfl
          obtain ⟨z5, y5⟩ := zz.2 5 _ rfl
          go_simp
          have hst := below_six hcur zz.1 (.int .i64 R.bye) (.int .i64 R.epoch) (.slice o5sa R.sealed.length o5sc) (.slice o5ea R.seen.length o5ec) (.bool R.planned) (.slice o5wa R.wrote.length o5wc)
          clear hcur z0 y0 z1 y1 z2 y2 z3 y3 z4 y4 z5 y5
          refine hK.out _ _ (by first | exact dUnhide HC _ hcur | exact dUnhide HC _ hst | exact dUnhide HC _ hbr | fail) (fun hHeld => ?_)
          clear hK K
          try simp only [Act.put, List.setIfInBounds_toArray, List.set_cons_zero, List.set_cons_succ]
          refine wpAnyH_take (i := 11) (oi := { dst := some 9, op := Op.assign (Operand.tmp 37), type := 4, pos := "exact.go:3473", after := #[{ on := 8, ground := Ground.data }, { on := 10, ground := Ground.chain }, { on := 0, ground := Ground.phase }, { on := 1, ground := Ground.phase }, { on := 2, ground := Ground.phase }, { on := 3, ground := Ground.phase }, { on := 4, ground := Ground.phase }, { on := 5, ground := Ground.phase }, { on := 6, ground := Ground.phase }, { on := 7, ground := Ground.phase }, { on := 8, ground := Ground.phase }, { on := 9, ground := Ground.phase }, { on := 10, ground := Ground.phase }], guard := none }) (v := ?_) rfl (by kernel_rfl) (by kernel_rfl) (by kernel_rfl) (fun _ _ _ h => h) (Or.inl ⟨by rfl, ?_⟩) (by assumption) ?_
          rotate_left 1
          · intro w hSw
            (try dsimp only at hSw)
            first | (go_simp; done) | (go_simp; with_reducible rfl)
          try simp only [Act.put, List.setIfInBounds_toArray, List.set_cons_zero, List.set_cons_succ]
          refine wpAnyH_done (by kernel_rfl) ?_ _
          refine NoPanic.normal ?_
          go_wp2_with fail
          go_meet
          case rel => first | exact ⟨_, _, _, _, _, _, _, _, _, rfl, rfl, ((((((zz.put 0 (.int .i64 R.bye)).put 1 (.int .i64 R.epoch)).put 2 (.slice o5sa R.sealed.length o5sc)).put 3 (.slice o5ea R.seen.length o5ec)).put 4 (.bool R.planned)).put 5 (.slice o5wa R.wrote.length o5wc)).bx.sits, ((((((dUnhide Q5).setFar (.inl hlo) (.int .i64 R.bye)).setFar (.inl hlo) (.int .i64 R.epoch)).setFar (.inl hlo) (.slice o5sa R.sealed.length o5sc)).setFar (.inl hlo) (.slice o5ea R.seen.length o5ec)).setFar (.inl hlo) (.bool R.planned)).setFar (.inl hlo) (.slice o5wa R.wrote.length o5wc), (.inl hlo), zz.1, hcz, hst⟩ | exact ⟨_, _, _, _, _, _, _, _, _, rfl, rfl, ((((((zz.put 0 (.int .i64 R.bye)).put 1 (.int .i64 R.epoch)).put 2 (.slice o5sa R.sealed.length o5sc)).put 3 (.slice o5ea R.seen.length o5ec)).put 4 (.bool R.planned)).put 5 (.slice o5wa R.wrote.length o5wc)).bx.sits, ((((((dUnhide Q5).setFar (.inr (Nat.le_refl _)) (.int .i64 R.bye)).setFar (.inr (Nat.le_refl _)) (.int .i64 R.epoch)).setFar (.inr (Nat.le_refl _)) (.slice o5sa R.sealed.length o5sc)).setFar (.inr (Nat.le_refl _)) (.slice o5ea R.seen.length o5ec)).setFar (.inr (Nat.le_refl _)) (.bool R.planned)).setFar (.inr (Nat.le_refl _)) (.slice o5wa R.wrote.length o5wc), (.inr (Nat.le_refl _)), zz.1, hcz, hst⟩
      · go_simp
        have zz := BxZ.new (B := ws1.heap.size) _ [.int .i64 0, .int .i64 0, .slice none 0 0, .slice none 0 0, .bool false, .slice none 0 0] 47 hcur.size
        (try replace Q0 := dHide ((dUnhide Q0).below (ha _ (.cells #[.int .i64 0, .int .i64 0, .slice none 0 0, .slice none 0 0, .bool false, .slice none 0 0] 47))))
        (try replace Q1 := dHide ((dUnhide Q1).below (ha _ (.cells #[.int .i64 0, .int .i64 0, .slice none 0 0, .slice none 0 0, .bool false, .slice none 0 0] 47))))
        (try replace Q5 := dHide ((dUnhide Q5).below (ha _ (.cells #[.int .i64 0, .int .i64 0, .slice none 0 0, .slice none 0 0, .bool false, .slice none 0 0] 47))))
        replace hcur := hcur.alloc hcur.size (.cells #[.int .i64 0, .int .i64 0, .slice none 0 0, .slice none 0 0, .bool false, .slice none 0 0] 47)
        first | generalize w5.alloc (.cells #[.int .i64 0, .int .i64 0, .slice none 0 0, .slice none 0 0, .bool false, .slice none 0 0] 47) = wa at * | generalize wq1.alloc (.cells #[.int .i64 0, .int .i64 0, .slice none 0 0, .slice none 0 0, .bool false, .slice none 0 0] 47) = wa at * | generalize wq0.alloc (.cells #[.int .i64 0, .int .i64 0, .slice none 0 0, .slice none 0 0, .bool false, .slice none 0 0] 47) = wa at * | generalize wd.alloc (.cells #[.int .i64 0, .int .i64 0, .slice none 0 0, .slice none 0 0, .bool false, .slice none 0 0] 47) = wa at * | fail
        refine hK.out _ _ (by first | exact dUnhide HC _ hcur | exact dUnhide HC _ hst | exact dUnhide HC _ hbr | fail) (fun hHeld => ?_)
        clear hK K
        try simp only [Act.put, List.setIfInBounds_toArray, List.set_cons_zero, List.set_cons_succ]
        refine wpAnyH_ready (rs := [3]) (by kernel_rfl) (by simp) ?_
        refine AllReadyH.cons (o := { dst := some 33, op := Op.call { callee := Callee.value (Operand.func 40), args := #[Operand.tmp 32], argTypes := #[64] }, type := 47, pos := "exact.go:3473", after := #[{ on := 2, ground := Ground.data }, { on := 1, ground := Ground.chain }], guard := none }) rfl (fun K hK => ?_) AllReadyH.nil
        go_simp
        refine (toMend_ _ m1 _ hs1 (dUnhide A1 _ (belowThen B hcur))).mono ?_
        rintro e wq1 ⟨o1, rfl, q1, b1⟩
        replace hcur := belowThen hcur b1
        (try replace zz := BxZ.below zz b1)
        replace Q0 := dHide ((dUnhide Q0).below b1)
        have Q1 := dHide q1
        obtain ⟨o1sa, o1sc, o1ea, o1ec, o1wa, o1wc, rfl, o1l1, o1l2, o1l3⟩ := formMend q1.now.rd
        clear q1 b1
        (try go_wp2_with fail)
        refine hK.out _ _ (by first | exact dUnhide HC _ hcur | exact dUnhide HC _ hst | exact dUnhide HC _ hbr | fail) (fun hHeld => ?_)
        clear hK K
        try simp only [Act.put, List.setIfInBounds_toArray, List.set_cons_zero, List.set_cons_succ]
        refine wpAnyH_ready (rs := [5]) (by kernel_rfl) (by simp) ?_
        refine AllReadyH.cons (o := { dst := some 35, op := Op.call { callee := Callee.value (Operand.func 50), args := #[Operand.tmp 31, Operand.tmp 33, Operand.tmp 34], argTypes := #[26, 47, 3] }, type := 76, pos := "exact.go:3473", after := #[{ on := 1, ground := Ground.data }, { on := 3, ground := Ground.data }, { on := 4, ground := Ground.data }, { on := 3, ground := Ground.chain }], guard := none }) rfl (fun K hK => ?_) AllReadyH.nil
        go_simp
        (try have hlo := BxZ.lt zz)
        have hcz := hcur.size
        refine (dUnhide CP _ _ _ (dUnhide Q0).now.rd (dUnhide Q1).now.rd).mono ?_
        rintro e w5 ⟨u5, rfl, q5, b5⟩
        replace hcur := belowThen hcur b5
        (try replace zz := BxZ.below zz b5)
        have Q5 := dHide q5
        obtain ⟨o5sa, o5sc, o5ea, o5ec, o5wa, o5wc, rfl, o5l1, o5l2, o5l3⟩ := formMend q5.now.rd
        clear q5 b5 Q0 Q1
        (try go_wp2_with fail)
        refine hK.out _ _ (by first | exact dUnhide HC _ hcur | exact dUnhide HC _ hst | exact dUnhide HC _ hbr | fail) (fun hHeld => ?_)
        clear hK K
        try simp only [Act.put, List.setIfInBounds_toArray, List.set_cons_zero, List.set_cons_succ]
        refine wpAnyH_take (i := 6) (oi := { dst := some 29, op := Op.move (Operand.tmp 35), type := 76, pos := "exact.go:3473", after := #[{ on := 5, ground := Ground.data }], guard := none }) (v := ?_) rfl (by kernel_rfl) (by kernel_rfl) (by kernel_rfl) (fun _ _ _ h => h) (Or.inl ⟨by rfl, ?_⟩) (by assumption) ?_
        rotate_left 1
        · intro w hSw
          (try dsimp only at hSw)
          first | (go_simp; done) | (go_simp; with_reducible rfl)
        try simp only [Act.put, List.setIfInBounds_toArray, List.set_cons_zero, List.set_cons_succ]
        refine wpAnyH_take (i := 7) (oi := { dst := some 36, op := Op.extract (Operand.tmp 29) 0, type := 47, pos := "exact.go:3473", after := #[{ on := 6, ground := Ground.data }], guard := none }) (v := ?_) rfl (by kernel_rfl) (by kernel_rfl) (by kernel_rfl) (fun _ _ _ h => h) (Or.inl ⟨by rfl, ?_⟩) (by assumption) ?_
        rotate_left 1
        · intro w hSw
          (try dsimp only at hSw)
          first | (go_simp; done) | (go_simp; with_reducible rfl)
        try simp only [Act.put, List.setIfInBounds_toArray, List.set_cons_zero, List.set_cons_succ]
        refine wpAnyH_take (i := 8) (oi := { dst := some 37, op := Op.extract (Operand.tmp 29) 1, type := 4, pos := "exact.go:3473", after := #[{ on := 6, ground := Ground.data }, { on := 10, ground := Ground.gcOnly Departure.lateStores }], guard := none }) (v := ?_) rfl (by kernel_rfl) (by kernel_rfl) (by kernel_rfl) (fun _ _ _ h => h) (Or.inl ⟨by rfl, ?_⟩) (by assumption) ?_
        rotate_left 1
        · intro w hSw
          (try dsimp only at hSw)
          first | (go_simp; done) | (go_simp; with_reducible rfl)
        try simp only [Act.put, List.setIfInBounds_toArray, List.set_cons_zero, List.set_cons_succ]
        refine wpAnyH_ready (rs := [10]) (by kernel_rfl) (by simp) ?_
        refine AllReadyH.cons (o := { dst := none, op := Op.store 47 (Operand.tmp 8) (Operand.tmp 36), type := 0, pos := "exact.go:3473", after := #[{ on := 9, ground := Ground.data }, { on := 7, ground := Ground.data }, { on := 5, ground := Ground.chain }, { on := 0, ground := Ground.phase }, { on := 1, ground := Ground.phase }, { on := 2, ground := Ground.phase }, { on := 3, ground := Ground.phase }, { on := 4, ground := Ground.phase }, { on := 5, ground := Ground.phase }, { on := 6, ground := Ground.phase }, { on := 7, ground := Ground.phase }, { on := 8, ground := Ground.textOnly Departure.lateStores }, { on := 9, ground := Ground.phase }], guard := none }) rfl (fun K hK => ?_) AllReadyH.nil
        obtain ⟨z0, y0⟩ := zz.2 0 _ rfl
        obtain ⟨z1, y1⟩ := zz.2 1 _ rfl
        obtain ⟨z2, y2⟩ := zz.2 2 _ rfl
        obtain ⟨z3, y3⟩ := zz.2 3 _ rfl
        obtain ⟨z4, y4⟩ := zz.2 4 _ rfl
        obtain ⟨z5, y5⟩ := zz.2 5 _ rfl
        go_simp
        have hst := below_six hcur zz.1 (.int .i64 R.bye) (.int .i64 R.epoch) (.slice o5sa R.sealed.length o5sc) (.slice o5ea R.seen.length o5ec) (.bool R.planned) (.slice o5wa R.wrote.length o5wc)
        clear hcur z0 y0 z1 y1 z2 y2 z3 y3 z4 y4 z5 y5
        refine hK.out _ _ (by first | exact dUnhide HC _ hcur | exact dUnhide HC _ hst | exact dUnhide HC _ hbr | fail) (fun hHeld => ?_)
        clear hK K
        try simp only [Act.put, List.setIfInBounds_toArray, List.set_cons_zero, List.set_cons_succ]
        refine wpAnyH_take (i := 11) (oi := { dst := some 9, op := Op.assign (Operand.tmp 37), type := 4, pos := "exact.go:3473", after := #[{ on := 8, ground := Ground.data }, { on := 10, ground := Ground.chain }, { on := 0, ground := Ground.phase }, { on := 1, ground := Ground.phase }, { on := 2, ground := Ground.phase }, { on := 3, ground := Ground.phase }, { on := 4, ground := Ground.phase }, { on := 5, ground := Ground.phase }, { on := 6, ground := Ground.phase }, { on := 7, ground := Ground.phase }, { on := 8, ground := Ground.phase }, { on := 9, ground := Ground.phase }, { on := 10, ground := Ground.phase }], guard := none }) (v := ?_) rfl (by kernel_rfl) (by kernel_rfl) (by kernel_rfl) (fun _ _ _ h => h) (Or.inl ⟨by rfl, ?_⟩) (by assumption) ?_
        rotate_left 1
        · intro w hSw
          (try dsimp only at hSw)
          first | (go_simp; done) | (go_simp; with_reducible rfl)
        try simp only [Act.put, List.setIfInBounds_toArray, List.set_cons_zero, List.set_cons_succ]
        refine wpAnyH_done (by kernel_rfl) ?_ _
        refine NoPanic.normal ?_
        go_wp2_with fail
        go_meet
        case rel => first | exact ⟨_, _, _, _, _, _, _, _, _, rfl, rfl, ((((((zz.put 0 (.int .i64 R.bye)).put 1 (.int .i64 R.epoch)).put 2 (.slice o5sa R.sealed.length o5sc)).put 3 (.slice o5ea R.seen.length o5ec)).put 4 (.bool R.planned)).put 5 (.slice o5wa R.wrote.length o5wc)).bx.sits, ((((((dUnhide Q5).setFar (.inl hlo) (.int .i64 R.bye)).setFar (.inl hlo) (.int .i64 R.epoch)).setFar (.inl hlo) (.slice o5sa R.sealed.length o5sc)).setFar (.inl hlo) (.slice o5ea R.seen.length o5ec)).setFar (.inl hlo) (.bool R.planned)).setFar (.inl hlo) (.slice o5wa R.wrote.length o5wc), (.inl hlo), zz.1, hcz, hst⟩ | exact ⟨_, _, _, _, _, _, _, _, _, rfl, rfl, ((((((zz.put 0 (.int .i64 R.bye)).put 1 (.int .i64 R.epoch)).put 2 (.slice o5sa R.sealed.length o5sc)).put 3 (.slice o5ea R.seen.length o5ec)).put 4 (.bool R.planned)).put 5 (.slice o5wa R.wrote.length o5wc)).bx.sits, ((((((dUnhide Q5).setFar (.inr (Nat.le_refl _)) (.int .i64 R.bye)).setFar (.inr (Nat.le_refl _)) (.int .i64 R.epoch)).setFar (.inr (Nat.le_refl _)) (.slice o5sa R.sealed.length o5sc)).setFar (.inr (Nat.le_refl _)) (.slice o5ea R.seen.length o5ec)).setFar (.inr (Nat.le_refl _)) (.bool R.planned)).setFar (.inr (Nat.le_refl _)) (.slice o5wa R.wrote.length o5wc), (.inr (Nat.le_refl _)), zz.1, hcz, hst⟩
    · go_simp
      have zz := BxZ.new (B := ws1.heap.size) _ [.int .i64 0, .int .i64 0, .slice none 0 0, .slice none 0 0, .bool false, .slice none 0 0] 47 hcur.size
      (try replace Q0 := dHide ((dUnhide Q0).below (ha _ (.cells #[.int .i64 0, .int .i64 0, .slice none 0 0, .slice none 0 0, .bool false, .slice none 0 0] 47))))
      (try replace Q1 := dHide ((dUnhide Q1).below (ha _ (.cells #[.int .i64 0, .int .i64 0, .slice none 0 0, .slice none 0 0, .bool false, .slice none 0 0] 47))))
      (try replace Q5 := dHide ((dUnhide Q5).below (ha _ (.cells #[.int .i64 0, .int .i64 0, .slice none 0 0, .slice none 0 0, .bool false, .slice none 0 0] 47))))
      replace hcur := hcur.alloc hcur.size (.cells #[.int .i64 0, .int .i64 0, .slice none 0 0, .slice none 0 0, .bool false, .slice none 0 0] 47)
      first | generalize w5.alloc (.cells #[.int .i64 0, .int .i64 0, .slice none 0 0, .slice none 0 0, .bool false, .slice none 0 0] 47) = wa at * | generalize wq1.alloc (.cells #[.int .i64 0, .int .i64 0, .slice none 0 0, .slice none 0 0, .bool false, .slice none 0 0] 47) = wa at * | generalize wq0.alloc (.cells #[.int .i64 0, .int .i64 0, .slice none 0 0, .slice none 0 0, .bool false, .slice none 0 0] 47) = wa at * | generalize wd.alloc (.cells #[.int .i64 0, .int .i64 0, .slice none 0 0, .slice none 0 0, .bool false, .slice none 0 0] 47) = wa at * | fail
      refine hK.out _ _ (by first | exact dUnhide HC _ hcur | exact dUnhide HC _ hst | exact dUnhide HC _ hbr | fail) (fun hHeld => ?_)
      clear hK K
      try simp only [Act.put, List.setIfInBounds_toArray, List.set_cons_zero, List.set_cons_succ]
      refine wpAnyH_ready (rs := [1]) (by kernel_rfl) (by simp) ?_
      refine AllReadyH.cons (o := { dst := some 31, op := Op.call { callee := Callee.value (Operand.func 39), args := #[Operand.tmp 30], argTypes := #[61] }, type := 26, pos := "exact.go:3473", after := #[{ on := 0, ground := Ground.data }], guard := none }) rfl (fun K hK => ?_) AllReadyH.nil
      go_simp
      refine (toConfig_ _ m0 _ hs0 (dUnhide A0 _ (belowThen B hcur))).mono ?_
      rintro e wq0 ⟨o0, rfl, q0, b0⟩
      replace hcur := belowThen hcur b0
      (try replace zz := BxZ.below zz b0)
      have Q0 := dHide q0
      obtain ⟨o0a, o0c, rfl, o0l⟩ := formConfig q0.now.rd
      clear q0 b0
      (try go_wp2_with fail)
      refine hK.out _ _ (by first | exact dUnhide HC _ hcur | exact dUnhide HC _ hst | exact dUnhide HC _ hbr | fail) (fun hHeld => ?_)
      clear hK K
      try simp only [Act.put, List.setIfInBounds_toArray, List.set_cons_zero, List.set_cons_succ]
      refine wpAnyH_ready (rs := [3]) (by kernel_rfl) (by simp) ?_
      refine AllReadyH.cons (o := { dst := some 33, op := Op.call { callee := Callee.value (Operand.func 40), args := #[Operand.tmp 32], argTypes := #[64] }, type := 47, pos := "exact.go:3473", after := #[{ on := 2, ground := Ground.data }, { on := 1, ground := Ground.chain }], guard := none }) rfl (fun K hK => ?_) AllReadyH.nil
      go_simp
      refine (toMend_ _ m1 _ hs1 (dUnhide A1 _ (belowThen B hcur))).mono ?_
      rintro e wq1 ⟨o1, rfl, q1, b1⟩
      replace hcur := belowThen hcur b1
      (try replace zz := BxZ.below zz b1)
      replace Q0 := dHide ((dUnhide Q0).below b1)
      have Q1 := dHide q1
      obtain ⟨o1sa, o1sc, o1ea, o1ec, o1wa, o1wc, rfl, o1l1, o1l2, o1l3⟩ := formMend q1.now.rd
      clear q1 b1
      (try go_wp2_with fail)
      refine hK.out _ _ (by first | exact dUnhide HC _ hcur | exact dUnhide HC _ hst | exact dUnhide HC _ hbr | fail) (fun hHeld => ?_)
      clear hK K
      try simp only [Act.put, List.setIfInBounds_toArray, List.set_cons_zero, List.set_cons_succ]
      refine wpAnyH_ready (rs := [5]) (by kernel_rfl) (by simp) ?_
      refine AllReadyH.cons (o := { dst := some 35, op := Op.call { callee := Callee.value (Operand.func 50), args := #[Operand.tmp 31, Operand.tmp 33, Operand.tmp 34], argTypes := #[26, 47, 3] }, type := 76, pos := "exact.go:3473", after := #[{ on := 1, ground := Ground.data }, { on := 3, ground := Ground.data }, { on := 4, ground := Ground.data }, { on := 3, ground := Ground.chain }], guard := none }) rfl (fun K hK => ?_) AllReadyH.nil
      go_simp
      (try have hlo := BxZ.lt zz)
      have hcz := hcur.size
      refine (dUnhide CP _ _ _ (dUnhide Q0).now.rd (dUnhide Q1).now.rd).mono ?_
      rintro e w5 ⟨u5, rfl, q5, b5⟩
      replace hcur := belowThen hcur b5
      (try replace zz := BxZ.below zz b5)
      have Q5 := dHide q5
      obtain ⟨o5sa, o5sc, o5ea, o5ec, o5wa, o5wc, rfl, o5l1, o5l2, o5l3⟩ := formMend q5.now.rd
      clear q5 b5 Q0 Q1
      (try go_wp2_with fail)
      refine hK.out _ _ (by first | exact dUnhide HC _ hcur | exact dUnhide HC _ hst | exact dUnhide HC _ hbr | fail) (fun hHeld => ?_)
      clear hK K
      try simp only [Act.put, List.setIfInBounds_toArray, List.set_cons_zero, List.set_cons_succ]
      refine wpAnyH_take (i := 6) (oi := { dst := some 29, op := Op.move (Operand.tmp 35), type := 76, pos := "exact.go:3473", after := #[{ on := 5, ground := Ground.data }], guard := none }) (v := ?_) rfl (by kernel_rfl) (by kernel_rfl) (by kernel_rfl) (fun _ _ _ h => h) (Or.inl ⟨by rfl, ?_⟩) (by assumption) ?_
      rotate_left 1
      · intro w hSw
        (try dsimp only at hSw)
        first | (go_simp; done) | (go_simp; with_reducible rfl)
      try simp only [Act.put, List.setIfInBounds_toArray, List.set_cons_zero, List.set_cons_succ]
      refine wpAnyH_take (i := 7) (oi := { dst := some 36, op := Op.extract (Operand.tmp 29) 0, type := 47, pos := "exact.go:3473", after := #[{ on := 6, ground := Ground.data }], guard := none }) (v := ?_) rfl (by kernel_rfl) (by kernel_rfl) (by kernel_rfl) (fun _ _ _ h => h) (Or.inl ⟨by rfl, ?_⟩) (by assumption) ?_
      rotate_left 1
      · intro w hSw
        (try dsimp only at hSw)
        first | (go_simp; done) | (go_simp; with_reducible rfl)
      try simp only [Act.put, List.setIfInBounds_toArray, List.set_cons_zero, List.set_cons_succ]
      refine wpAnyH_take (i := 8) (oi := { dst := some 37, op := Op.extract (Operand.tmp 29) 1, type := 4, pos := "exact.go:3473", after := #[{ on := 6, ground := Ground.data }, { on := 10, ground := Ground.gcOnly Departure.lateStores }], guard := none }) (v := ?_) rfl (by kernel_rfl) (by kernel_rfl) (by kernel_rfl) (fun _ _ _ h => h) (Or.inl ⟨by rfl, ?_⟩) (by assumption) ?_
      rotate_left 1
      · intro w hSw
        (try dsimp only at hSw)
        first | (go_simp; done) | (go_simp; with_reducible rfl)
      try simp only [Act.put, List.setIfInBounds_toArray, List.set_cons_zero, List.set_cons_succ]
      refine wpAnyH_ready (rs := [10]) (by kernel_rfl) (by simp) ?_
      refine AllReadyH.cons (o := { dst := none, op := Op.store 47 (Operand.tmp 8) (Operand.tmp 36), type := 0, pos := "exact.go:3473", after := #[{ on := 9, ground := Ground.data }, { on := 7, ground := Ground.data }, { on := 5, ground := Ground.chain }, { on := 0, ground := Ground.phase }, { on := 1, ground := Ground.phase }, { on := 2, ground := Ground.phase }, { on := 3, ground := Ground.phase }, { on := 4, ground := Ground.phase }, { on := 5, ground := Ground.phase }, { on := 6, ground := Ground.phase }, { on := 7, ground := Ground.phase }, { on := 8, ground := Ground.textOnly Departure.lateStores }, { on := 9, ground := Ground.phase }], guard := none }) rfl (fun K hK => ?_) AllReadyH.nil
      obtain ⟨z0, y0⟩ := zz.2 0 _ rfl
      obtain ⟨z1, y1⟩ := zz.2 1 _ rfl
      obtain ⟨z2, y2⟩ := zz.2 2 _ rfl
      obtain ⟨z3, y3⟩ := zz.2 3 _ rfl
      obtain ⟨z4, y4⟩ := zz.2 4 _ rfl
      obtain ⟨z5, y5⟩ := zz.2 5 _ rfl
      go_simp
      have hst := below_six hcur zz.1 (.int .i64 R.bye) (.int .i64 R.epoch) (.slice o5sa R.sealed.length o5sc) (.slice o5ea R.seen.length o5ec) (.bool R.planned) (.slice o5wa R.wrote.length o5wc)
      clear hcur z0 y0 z1 y1 z2 y2 z3 y3 z4 y4 z5 y5
      refine hK.out _ _ (by first | exact dUnhide HC _ hcur | exact dUnhide HC _ hst | exact dUnhide HC _ hbr | fail) (fun hHeld => ?_)
      clear hK K
      try simp only [Act.put, List.setIfInBounds_toArray, List.set_cons_zero, List.set_cons_succ]
      refine wpAnyH_take (i := 11) (oi := { dst := some 9, op := Op.assign (Operand.tmp 37), type := 4, pos := "exact.go:3473", after := #[{ on := 8, ground := Ground.data }, { on := 10, ground := Ground.chain }, { on := 0, ground := Ground.phase }, { on := 1, ground := Ground.phase }, { on := 2, ground := Ground.phase }, { on := 3, ground := Ground.phase }, { on := 4, ground := Ground.phase }, { on := 5, ground := Ground.phase }, { on := 6, ground := Ground.phase }, { on := 7, ground := Ground.phase }, { on := 8, ground := Ground.phase }, { on := 9, ground := Ground.phase }, { on := 10, ground := Ground.phase }], guard := none }) (v := ?_) rfl (by kernel_rfl) (by kernel_rfl) (by kernel_rfl) (fun _ _ _ h => h) (Or.inl ⟨by rfl, ?_⟩) (by assumption) ?_
      rotate_left 1
      · intro w hSw
        (try dsimp only at hSw)
        first | (go_simp; done) | (go_simp; with_reducible rfl)
      try simp only [Act.put, List.setIfInBounds_toArray, List.set_cons_zero, List.set_cons_succ]
      refine wpAnyH_done (by kernel_rfl) ?_ _
      refine NoPanic.normal ?_
      go_wp2_with fail
      go_meet
      case rel => first | exact ⟨_, _, _, _, _, _, _, _, _, rfl, rfl, ((((((zz.put 0 (.int .i64 R.bye)).put 1 (.int .i64 R.epoch)).put 2 (.slice o5sa R.sealed.length o5sc)).put 3 (.slice o5ea R.seen.length o5ec)).put 4 (.bool R.planned)).put 5 (.slice o5wa R.wrote.length o5wc)).bx.sits, ((((((dUnhide Q5).setFar (.inl hlo) (.int .i64 R.bye)).setFar (.inl hlo) (.int .i64 R.epoch)).setFar (.inl hlo) (.slice o5sa R.sealed.length o5sc)).setFar (.inl hlo) (.slice o5ea R.seen.length o5ec)).setFar (.inl hlo) (.bool R.planned)).setFar (.inl hlo) (.slice o5wa R.wrote.length o5wc), (.inl hlo), zz.1, hcz, hst⟩ | exact ⟨_, _, _, _, _, _, _, _, _, rfl, rfl, ((((((zz.put 0 (.int .i64 R.bye)).put 1 (.int .i64 R.epoch)).put 2 (.slice o5sa R.sealed.length o5sc)).put 3 (.slice o5ea R.seen.length o5ec)).put 4 (.bool R.planned)).put 5 (.slice o5wa R.wrote.length o5wc)).bx.sits, ((((((dUnhide Q5).setFar (.inr (Nat.le_refl _)) (.int .i64 R.bye)).setFar (.inr (Nat.le_refl _)) (.int .i64 R.epoch)).setFar (.inr (Nat.le_refl _)) (.slice o5sa R.sealed.length o5sc)).setFar (.inr (Nat.le_refl _)) (.slice o5ea R.seen.length o5ec)).setFar (.inr (Nat.le_refl _)) (.bool R.planned)).setFar (.inr (Nat.le_refl _)) (.slice o5wa R.wrote.length o5wc), (.inr (Nat.le_refl _)), zz.1, hcz, hst⟩
  case rest =>
    obtain ⟨bX10, lod9, hid9, uwsa, uwsc, uwea, uwec, uwwa, uwwc, rfl, rfl, X10, OW, dd9, gd9, id9, bc⟩ := hcut
    clear kd90 kd91 kd92 kd93 kd94 kd95 kd96 kd97 HC hbr
    have sz11 := dHide bc.size
    replace X0 := dHide ((dUnhide X0).below bc)
    replace X1 := dHide ((dUnhide X1).below bc)
    replace B := belowThen B bc
    have sz12 := dHide dd9
    have sz13 := dHide gd9
    have sz14 := dHide id9
    have sz15 := dHide X10.fit
    have sz16 := dHide OW.fit
    replace X10 := dHide X10
    replace OW := dHide OW
    clear bc dd9 gd9 id9
    generalize wc = w3 at *
    clear CP
    have k17 := (dUnhide X0).now 0 _ rfl
    have k18 := (dUnhide X0).now 1 _ rfl
    go_wp2_with fail
    refine (toConfig_ _ m0 _ hs0 (dUnhide A0 _ B)).mono ?_
    rintro e w21 ⟨u20, rfl, T19, b22⟩
    clear k17 k18
    have sz23 := dHide b22.size
    replace X0 := dHide ((dUnhide X0).below b22)
    replace X1 := dHide ((dUnhide X1).below b22)
    replace X10 := dHide ((dUnhide X10).below b22)
    replace OW := dHide ((dUnhide OW).below b22)
    replace B := belowThen B b22
    replace T19 := dHide T19
    clear b22
    obtain ⟨u20a, u20c, rfl, u20l⟩ := formConfig (dUnhide T19).now.rd
    have X24 := Sits.box w21 #[.slice u20a m0.1.length u20c, .int .i64 m0.2] 26
    have ba := ha w21 (.cells #[.slice u20a m0.1.length u20c, .int .i64 m0.2] 26)
    have sz26 := dHide ba.size
    replace X0 := dHide ((dUnhide X0).below ba)
    replace X1 := dHide ((dUnhide X1).below ba)
    replace X10 := dHide ((dUnhide X10).below ba)
    replace OW := dHide ((dUnhide OW).below ba)
    replace T19 := dHide ((dUnhide T19).below ba)
    replace B := belowThen B ba
    have sz27 : Hid (w21.heap.size + 1 = (w21.alloc (.cells #[.slice u20a m0.1.length u20c, .int .i64 m0.2] 26)).heap.size) := by simp [Hid]
    replace X24 := dHide X24
    clear ba
    have k28 := (dUnhide X1).now 0 _ rfl
    have k29 := (dUnhide X1).now 1 _ rfl
    have k30 := (dUnhide X1).now 2 _ rfl
    have k31 := (dUnhide X1).now 3 _ rfl
    have k32 := (dUnhide X1).now 4 _ rfl
    have k33 := (dUnhide X1).now 5 _ rfl
    go_wp2_with fail
    generalize hbx25 : w21.heap.size = bx25 at *
    generalize w21.alloc (.cells #[.slice u20a m0.1.length u20c, .int .i64 m0.2] 26) = w34 at *
    have sz35 := dHide hbx25
    clear hbx25
    have k36 := (dUnhide X1).now 0 _ rfl
    have k37 := (dUnhide X1).now 1 _ rfl
    have k38 := (dUnhide X1).now 2 _ rfl
    have k39 := (dUnhide X1).now 3 _ rfl
    have k40 := (dUnhide X1).now 4 _ rfl
    have k41 := (dUnhide X1).now 5 _ rfl
    refine (toMend_ _ m1 _ hs1 (dUnhide A1 _ B)).mono ?_
    rintro e w44 ⟨u43, rfl, T42, b45⟩
    clear k36 k37 k38 k39 k40 k41
    clear k28 k29 k30 k31 k32 k33
    have sz46 := dHide b45.size
    replace X0 := dHide ((dUnhide X0).below b45)
    replace X1 := dHide ((dUnhide X1).below b45)
    replace X10 := dHide ((dUnhide X10).below b45)
    replace OW := dHide ((dUnhide OW).below b45)
    replace T19 := dHide ((dUnhide T19).below b45)
    replace X24 := dHide ((dUnhide X24).below b45)
    replace B := belowThen B b45
    replace T42 := dHide T42
    clear b45
    obtain ⟨u43sa, u43sc, u43ea, u43ec, u43wa, u43wc, rfl, u43l1, u43l2, u43l3⟩ := formMend (dUnhide T42).now.rd
    have X47 := Sits.box w44 #[.int .i64 m1.bye, .int .i64 m1.epoch, .slice u43sa m1.sealed.length u43sc, .slice u43ea m1.seen.length u43ec, .bool m1.planned, .slice u43wa m1.wrote.length u43wc] 47
    have ba := ha w44 (.cells #[.int .i64 m1.bye, .int .i64 m1.epoch, .slice u43sa m1.sealed.length u43sc, .slice u43ea m1.seen.length u43ec, .bool m1.planned, .slice u43wa m1.wrote.length u43wc] 47)
    have sz49 := dHide ba.size
    replace X0 := dHide ((dUnhide X0).below ba)
    replace X1 := dHide ((dUnhide X1).below ba)
    replace X10 := dHide ((dUnhide X10).below ba)
    replace OW := dHide ((dUnhide OW).below ba)
    replace T19 := dHide ((dUnhide T19).below ba)
    replace X24 := dHide ((dUnhide X24).below ba)
    replace T42 := dHide ((dUnhide T42).below ba)
    replace B := belowThen B ba
    have sz50 : Hid (w44.heap.size + 1 = (w44.alloc (.cells #[.int .i64 m1.bye, .int .i64 m1.epoch, .slice u43sa m1.sealed.length u43sc, .slice u43ea m1.seen.length u43ec, .bool m1.planned, .slice u43wa m1.wrote.length u43wc] 47)).heap.size) := by simp [Hid]
    replace X47 := dHide X47
    clear ba
    have k51 := (dUnhide X24).now 0 _ rfl
    have k52 := (dUnhide X24).now 1 _ rfl
    go_wp2_with fail
    generalize hbx48 : w44.heap.size = bx48 at *
    generalize w44.alloc (.cells #[.int .i64 m1.bye, .int .i64 m1.epoch, .slice u43sa m1.sealed.length u43sc, .slice u43ea m1.seen.length u43ec, .bool m1.planned, .slice u43wa m1.wrote.length u43wc] 47) = w53 at *
    have sz54 := dHide hbx48
    clear hbx48
    have k55 := (dUnhide X24).now 0 _ rfl
    have k56 := (dUnhide X24).now 1 _ rfl
    have k57 := (dUnhide X47).now 0 _ rfl
    have k58 := (dUnhide X47).now 1 _ rfl
    have k59 := (dUnhide X47).now 2 _ rfl
    have k60 := (dUnhide X47).now 3 _ rfl
    have k61 := (dUnhide X47).now 4 _ rfl
    have k62 := (dUnhide X47).now 5 _ rfl
    refine (dUnhide CI _ _ _ (dUnhide T19).now.rd (dUnhide T42).now.rd).mono ?_
    rintro e w63 ⟨ug, rfl, OG, b64⟩
    clear k55 k56 k57 k58 k59 k60 k61 k62
    clear k51 k52
    have sz65 := dHide b64.size
    replace X0 := dHide ((dUnhide X0).below b64)
    replace X1 := dHide ((dUnhide X1).below b64)
    replace X10 := dHide ((dUnhide X10).below b64)
    replace OW := dHide ((dUnhide OW).below b64)
    replace T19 := dHide ((dUnhide T19).below b64)
    replace X24 := dHide ((dUnhide X24).below b64)
    replace T42 := dHide ((dUnhide T42).below b64)
    replace X47 := dHide ((dUnhide X47).below b64)
    replace B := belowThen B b64
    replace OG := dHide OG
    clear b64
    obtain ⟨ugsa, ugsc, ugea, ugec, ugwa, ugwc, rfl, ugl1, ugl2, ugl3⟩ := formMend (dUnhide OG).now.rd
    have X66 := Sits.box w63 #[.int .i64 R.bye, .int .i64 R.epoch, .slice ugsa R.sealed.length ugsc, .slice ugea R.seen.length ugec, .bool R.planned, .slice ugwa R.wrote.length ugwc] 47
    have ba := ha w63 (.cells #[.int .i64 R.bye, .int .i64 R.epoch, .slice ugsa R.sealed.length ugsc, .slice ugea R.seen.length ugec, .bool R.planned, .slice ugwa R.wrote.length ugwc] 47)
    have sz68 := dHide ba.size
    replace X0 := dHide ((dUnhide X0).below ba)
    replace X1 := dHide ((dUnhide X1).below ba)
    replace X10 := dHide ((dUnhide X10).below ba)
    replace OW := dHide ((dUnhide OW).below ba)
    replace T19 := dHide ((dUnhide T19).below ba)
    replace X24 := dHide ((dUnhide X24).below ba)
    replace T42 := dHide ((dUnhide T42).below ba)
    replace X47 := dHide ((dUnhide X47).below ba)
    replace OG := dHide ((dUnhide OG).below ba)
    replace B := belowThen B ba
    have sz69 : Hid (w63.heap.size + 1 = (w63.alloc (.cells #[.int .i64 R.bye, .int .i64 R.epoch, .slice ugsa R.sealed.length ugsc, .slice ugea R.seen.length ugec, .bool R.planned, .slice ugwa R.wrote.length ugwc] 47)).heap.size) := by simp [Hid]
    replace X66 := dHide X66
    clear ba
    have k70 := (dUnhide X66).now 0 _ rfl
    have k71 := (dUnhide X66).now 1 _ rfl
    have k72 := (dUnhide X66).now 2 _ rfl
    have k73 := (dUnhide X66).now 3 _ rfl
    have k74 := (dUnhide X66).now 4 _ rfl
    have k75 := (dUnhide X66).now 5 _ rfl
    have k76 := (dUnhide X10).now 0 _ rfl
    have k77 := (dUnhide X10).now 1 _ rfl
    have k78 := (dUnhide X10).now 2 _ rfl
    have k79 := (dUnhide X10).now 3 _ rfl
    have k80 := (dUnhide X10).now 4 _ rfl
    have k81 := (dUnhide X10).now 5 _ rfl
    go_wp2_with fail
    generalize hbx67 : w63.heap.size = bx67 at *
    generalize w63.alloc (.cells #[.int .i64 R.bye, .int .i64 R.epoch, .slice ugsa R.sealed.length ugsc, .slice ugea R.seen.length ugec, .bool R.planned, .slice ugwa R.wrote.length ugwc] 47) = w82 at *
    have sz83 := dHide hbx67
    clear hbx67
    refine (eqMend_ _ _ _ _ (dUnhide OG).now.rd (dUnhide OW).now.rd).mono ?_
    rintro e w84 ⟨rfl, b85⟩
    clear k70 k71 k72 k73 k74 k75 k76 k77 k78 k79 k80 k81
    have sz86 := dHide b85.size
    replace X0 := dHide ((dUnhide X0).below b85)
    replace X1 := dHide ((dUnhide X1).below b85)
    replace X10 := dHide ((dUnhide X10).below b85)
    replace OW := dHide ((dUnhide OW).below b85)
    replace T19 := dHide ((dUnhide T19).below b85)
    replace X24 := dHide ((dUnhide X24).below b85)
    replace T42 := dHide ((dUnhide T42).below b85)
    replace X47 := dHide ((dUnhide X47).below b85)
    replace OG := dHide ((dUnhide OG).below b85)
    replace X66 := dHide ((dUnhide X66).below b85)
    replace B := belowThen B b85
    clear b85
    have k87 := (dUnhide X24).now 0 _ rfl
    have k88 := (dUnhide X24).now 1 _ rfl
    have k89 := (dUnhide X0).now 0 _ rfl
    have k90 := (dUnhide X0).now 1 _ rfl
    have hbr := Below.refl w84.heap.size w84
    go_wp2_with fail
    go_cut [62] (fun sv wx => sv = .bool false ∧ Below w84.heap.size w84 wx)
    case first =>
      go_region_held3 (fun W => W.cell? ⟨bx25, 0, none⟩ = some (.slice u20a m0.1.length u20c) ∧ W.cell? ⟨bx25, 1, none⟩ = some (.int .i64 m0.2) ∧ W.cell? ⟨w.heap.size, 0, none⟩ = some (.slice v0a m0.1.length v0c) ∧ W.cell? ⟨w.heap.size, 1, none⟩ = some (.int .i64 m0.2)) (go_keep)
        (first
          | (go_at_call 39; refine (toConfig_ _ m0 _ hs0 (dUnhide A0 _ (belowThen B hbr.drew))).mono ?_; rintro e w8 ⟨o8, rfl, q8, b8⟩; have hb8 := belowThen hbr.drew b8; have k91 := ((dUnhide X24).at hb8) 0 _ rfl; have k92 := ((dUnhide X24).at hb8) 1 _ rfl; have k93 := ((dUnhide X0).at hb8) 0 _ rfl; have k94 := ((dUnhide X0).at hb8) 1 _ rfl; have Q8 := dHide q8; obtain ⟨o8a, o8c, rfl, o8l⟩ := formConfig q8.now.rd; clear q8)
          | (go_at_call 41; refine (eqConfig_ _ _ _ _ ((dUnhide T19).at hb8).rd (dUnhide Q8).now.rd).mono ?_; rintro e w9 ⟨rfl, b9⟩; have hb9 := belowThen hb8 b9; have k95 := ((dUnhide X24).at hb9) 0 _ rfl; have k96 := ((dUnhide X24).at hb9) 1 _ rfl; have k97 := ((dUnhide X0).at hb9) 0 _ rfl; have k98 := ((dUnhide X0).at hb9) 1 _ rfl))
      all_goals
        go_wp2_with fail
        go_meet
        case rel => exact ⟨rfl, hb9⟩
    case rest =>
      obtain ⟨rfl, bc⟩ := hcut
      clear hbr
      clear k87 k88 k89 k90
      have sz99 := dHide bc.size
      replace X0 := dHide ((dUnhide X0).below bc)
      replace X1 := dHide ((dUnhide X1).below bc)
      replace X10 := dHide ((dUnhide X10).below bc)
      replace OW := dHide ((dUnhide OW).below bc)
      replace T19 := dHide ((dUnhide T19).below bc)
      replace X24 := dHide ((dUnhide X24).below bc)
      replace T42 := dHide ((dUnhide T42).below bc)
      replace X47 := dHide ((dUnhide X47).below bc)
      replace OG := dHide ((dUnhide OG).below bc)
      replace X66 := dHide ((dUnhide X66).below bc)
      replace B := belowThen B bc
      generalize wc = w100 at *
      clear bc
      have k101 := (dUnhide X47).now 0 _ rfl
      have k102 := (dUnhide X47).now 1 _ rfl
      have k103 := (dUnhide X47).now 2 _ rfl
      have k104 := (dUnhide X47).now 3 _ rfl
      have k105 := (dUnhide X47).now 4 _ rfl
      have k106 := (dUnhide X47).now 5 _ rfl
      have k107 := (dUnhide X1).now 0 _ rfl
      have k108 := (dUnhide X1).now 1 _ rfl
      have k109 := (dUnhide X1).now 2 _ rfl
      have k110 := (dUnhide X1).now 3 _ rfl
      have k111 := (dUnhide X1).now 4 _ rfl
      have k112 := (dUnhide X1).now 5 _ rfl
      have hbr := Below.refl w100.heap.size w100
      go_wp2_with fail
      go_cut [67] (fun sv wx => sv = .bool false ∧ Below w100.heap.size w100 wx)
      case first =>
        go_region_held3 (fun W => W.cell? ⟨bx48, 0, none⟩ = some (.int .i64 m1.bye) ∧ W.cell? ⟨bx48, 1, none⟩ = some (.int .i64 m1.epoch) ∧ W.cell? ⟨bx48, 2, none⟩ = some (.slice u43sa m1.sealed.length u43sc) ∧ W.cell? ⟨bx48, 3, none⟩ = some (.slice u43ea m1.seen.length u43ec) ∧ W.cell? ⟨bx48, 4, none⟩ = some (.bool m1.planned) ∧ W.cell? ⟨bx48, 5, none⟩ = some (.slice u43wa m1.wrote.length u43wc) ∧ W.cell? ⟨w.heap.size + 1, 0, none⟩ = some (.int .i64 m1.bye) ∧ W.cell? ⟨w.heap.size + 1, 1, none⟩ = some (.int .i64 m1.epoch) ∧ W.cell? ⟨w.heap.size + 1, 2, none⟩ = some (.slice v1sa m1.sealed.length v1sc) ∧ W.cell? ⟨w.heap.size + 1, 3, none⟩ = some (.slice v1ea m1.seen.length v1ec) ∧ W.cell? ⟨w.heap.size + 1, 4, none⟩ = some (.bool m1.planned) ∧ W.cell? ⟨w.heap.size + 1, 5, none⟩ = some (.slice v1wa m1.wrote.length v1wc)) (go_keep)
          (first
            | (go_at_call 40; refine (toMend_ _ m1 _ hs1 (dUnhide A1 _ (belowThen B hbr.drew))).mono ?_; rintro e w8 ⟨o8, rfl, q8, b8⟩; have hb8 := belowThen hbr.drew b8; have k113 := ((dUnhide X47).at hb8) 0 _ rfl; have k114 := ((dUnhide X47).at hb8) 1 _ rfl; have k115 := ((dUnhide X47).at hb8) 2 _ rfl; have k116 := ((dUnhide X47).at hb8) 3 _ rfl; have k117 := ((dUnhide X47).at hb8) 4 _ rfl; have k118 := ((dUnhide X47).at hb8) 5 _ rfl; have k119 := ((dUnhide X1).at hb8) 0 _ rfl; have k120 := ((dUnhide X1).at hb8) 1 _ rfl; have k121 := ((dUnhide X1).at hb8) 2 _ rfl; have k122 := ((dUnhide X1).at hb8) 3 _ rfl; have k123 := ((dUnhide X1).at hb8) 4 _ rfl; have k124 := ((dUnhide X1).at hb8) 5 _ rfl; have Q8 := dHide q8; obtain ⟨o8sa, o8sc, o8ea, o8ec, o8wa, o8wc, rfl, o8l1, o8l2, o8l3⟩ := formMend q8.now.rd; clear q8)
            | (go_at_call 42; refine (eqMend_ _ _ _ _ ((dUnhide T42).at hb8).rd (dUnhide Q8).now.rd).mono ?_; rintro e w9 ⟨rfl, b9⟩; have hb9 := belowThen hb8 b9; have k125 := ((dUnhide X47).at hb9) 0 _ rfl; have k126 := ((dUnhide X47).at hb9) 1 _ rfl; have k127 := ((dUnhide X47).at hb9) 2 _ rfl; have k128 := ((dUnhide X47).at hb9) 3 _ rfl; have k129 := ((dUnhide X47).at hb9) 4 _ rfl; have k130 := ((dUnhide X47).at hb9) 5 _ rfl; have k131 := ((dUnhide X1).at hb9) 0 _ rfl; have k132 := ((dUnhide X1).at hb9) 1 _ rfl; have k133 := ((dUnhide X1).at hb9) 2 _ rfl; have k134 := ((dUnhide X1).at hb9) 3 _ rfl; have k135 := ((dUnhide X1).at hb9) 4 _ rfl; have k136 := ((dUnhide X1).at hb9) 5 _ rfl))
        all_goals
          go_wp2_with fail
          go_meet
          case rel => exact ⟨rfl, hb9⟩
      case rest =>
        obtain ⟨rfl, bc⟩ := hcut
        clear hbr
        clear k101 k102 k103 k104 k105 k106 k107 k108 k109 k110 k111 k112
        have sz137 := dHide bc.size
        replace X0 := dHide ((dUnhide X0).below bc)
        replace X1 := dHide ((dUnhide X1).below bc)
        replace X10 := dHide ((dUnhide X10).below bc)
        replace OW := dHide ((dUnhide OW).below bc)
        replace T19 := dHide ((dUnhide T19).below bc)
        replace X24 := dHide ((dUnhide X24).below bc)
        replace T42 := dHide ((dUnhide T42).below bc)
        replace X47 := dHide ((dUnhide X47).below bc)
        replace OG := dHide ((dUnhide OG).below bc)
        replace X66 := dHide ((dUnhide X66).below bc)
        replace B := belowThen B bc
        generalize wc = w138 at *
        clear bc
        have k139 := (dUnhide X24).now 0 _ rfl
        have k140 := (dUnhide X24).now 1 _ rfl
        go_wp2_with fail
        refine (markConfig_ _ _ _ _ 1 _ (by omega) (by omega) (dUnhide T19)).mono ?_
        rintro e w141 ⟨rfl, M143, b142⟩
        clear k139 k140
        replace X0 := dHide ((dUnhide X0).wr b142 (by have := dUnhide sz0; have := dUnhide sz1; have := dUnhide sz8; have := dUnhide sz11; have := dUnhide sz12; have := dUnhide sz13; have := dUnhide sz14; have := dUnhide sz15; have := dUnhide sz16; have := dUnhide sz23; have := dUnhide sz26; have := dUnhide sz27; have := dUnhide sz35; have := dUnhide sz46; have := dUnhide sz49; have := dUnhide sz50; have := dUnhide sz54; have := dUnhide sz65; have := dUnhide sz68; have := dUnhide sz69; have := dUnhide sz83; have := dUnhide sz86; have := dUnhide sz99; have := dUnhide sz137; omega))
        replace X1 := dHide ((dUnhide X1).wr b142 (by have := dUnhide sz0; have := dUnhide sz1; have := dUnhide sz8; have := dUnhide sz11; have := dUnhide sz12; have := dUnhide sz13; have := dUnhide sz14; have := dUnhide sz15; have := dUnhide sz16; have := dUnhide sz23; have := dUnhide sz26; have := dUnhide sz27; have := dUnhide sz35; have := dUnhide sz46; have := dUnhide sz49; have := dUnhide sz50; have := dUnhide sz54; have := dUnhide sz65; have := dUnhide sz68; have := dUnhide sz69; have := dUnhide sz83; have := dUnhide sz86; have := dUnhide sz99; have := dUnhide sz137; omega))
        replace X10 := dHide ((dUnhide X10).wr b142 (by have := dUnhide sz0; have := dUnhide sz1; have := dUnhide sz8; have := dUnhide sz11; have := dUnhide sz12; have := dUnhide sz13; have := dUnhide sz14; have := dUnhide sz15; have := dUnhide sz16; have := dUnhide sz23; have := dUnhide sz26; have := dUnhide sz27; have := dUnhide sz35; have := dUnhide sz46; have := dUnhide sz49; have := dUnhide sz50; have := dUnhide sz54; have := dUnhide sz65; have := dUnhide sz68; have := dUnhide sz69; have := dUnhide sz83; have := dUnhide sz86; have := dUnhide sz99; have := dUnhide sz137; omega))
        replace OW := dHide ((dUnhide OW).wr b142 (by have := dUnhide sz0; have := dUnhide sz1; have := dUnhide sz8; have := dUnhide sz11; have := dUnhide sz12; have := dUnhide sz13; have := dUnhide sz14; have := dUnhide sz15; have := dUnhide sz16; have := dUnhide sz23; have := dUnhide sz26; have := dUnhide sz27; have := dUnhide sz35; have := dUnhide sz46; have := dUnhide sz49; have := dUnhide sz50; have := dUnhide sz54; have := dUnhide sz65; have := dUnhide sz68; have := dUnhide sz69; have := dUnhide sz83; have := dUnhide sz86; have := dUnhide sz99; have := dUnhide sz137; omega))
        replace X24 := dHide ((dUnhide X24).wr b142 (by have := dUnhide sz0; have := dUnhide sz1; have := dUnhide sz8; have := dUnhide sz11; have := dUnhide sz12; have := dUnhide sz13; have := dUnhide sz14; have := dUnhide sz15; have := dUnhide sz16; have := dUnhide sz23; have := dUnhide sz26; have := dUnhide sz27; have := dUnhide sz35; have := dUnhide sz46; have := dUnhide sz49; have := dUnhide sz50; have := dUnhide sz54; have := dUnhide sz65; have := dUnhide sz68; have := dUnhide sz69; have := dUnhide sz83; have := dUnhide sz86; have := dUnhide sz99; have := dUnhide sz137; omega))
        replace T42 := dHide ((dUnhide T42).wr b142 (by have := dUnhide sz0; have := dUnhide sz1; have := dUnhide sz8; have := dUnhide sz11; have := dUnhide sz12; have := dUnhide sz13; have := dUnhide sz14; have := dUnhide sz15; have := dUnhide sz16; have := dUnhide sz23; have := dUnhide sz26; have := dUnhide sz27; have := dUnhide sz35; have := dUnhide sz46; have := dUnhide sz49; have := dUnhide sz50; have := dUnhide sz54; have := dUnhide sz65; have := dUnhide sz68; have := dUnhide sz69; have := dUnhide sz83; have := dUnhide sz86; have := dUnhide sz99; have := dUnhide sz137; omega))
        replace X47 := dHide ((dUnhide X47).wr b142 (by have := dUnhide sz0; have := dUnhide sz1; have := dUnhide sz8; have := dUnhide sz11; have := dUnhide sz12; have := dUnhide sz13; have := dUnhide sz14; have := dUnhide sz15; have := dUnhide sz16; have := dUnhide sz23; have := dUnhide sz26; have := dUnhide sz27; have := dUnhide sz35; have := dUnhide sz46; have := dUnhide sz49; have := dUnhide sz50; have := dUnhide sz54; have := dUnhide sz65; have := dUnhide sz68; have := dUnhide sz69; have := dUnhide sz83; have := dUnhide sz86; have := dUnhide sz99; have := dUnhide sz137; omega))
        replace OG := dHide ((dUnhide OG).wr b142 (by have := dUnhide sz0; have := dUnhide sz1; have := dUnhide sz8; have := dUnhide sz11; have := dUnhide sz12; have := dUnhide sz13; have := dUnhide sz14; have := dUnhide sz15; have := dUnhide sz16; have := dUnhide sz23; have := dUnhide sz26; have := dUnhide sz27; have := dUnhide sz35; have := dUnhide sz46; have := dUnhide sz49; have := dUnhide sz50; have := dUnhide sz54; have := dUnhide sz65; have := dUnhide sz68; have := dUnhide sz69; have := dUnhide sz83; have := dUnhide sz86; have := dUnhide sz99; have := dUnhide sz137; omega))
        replace X66 := dHide ((dUnhide X66).wr b142 (by have := dUnhide sz0; have := dUnhide sz1; have := dUnhide sz8; have := dUnhide sz11; have := dUnhide sz12; have := dUnhide sz13; have := dUnhide sz14; have := dUnhide sz15; have := dUnhide sz16; have := dUnhide sz23; have := dUnhide sz26; have := dUnhide sz27; have := dUnhide sz35; have := dUnhide sz46; have := dUnhide sz49; have := dUnhide sz50; have := dUnhide sz54; have := dUnhide sz65; have := dUnhide sz68; have := dUnhide sz69; have := dUnhide sz83; have := dUnhide sz86; have := dUnhide sz99; have := dUnhide sz137; omega))
        replace B := b142.below B B.size (by have := dUnhide sz0; have := dUnhide sz1; have := dUnhide sz8; have := dUnhide sz11; have := dUnhide sz12; have := dUnhide sz13; have := dUnhide sz14; have := dUnhide sz15; have := dUnhide sz16; have := dUnhide sz23; have := dUnhide sz26; have := dUnhide sz27; have := dUnhide sz35; have := dUnhide sz46; have := dUnhide sz49; have := dUnhide sz50; have := dUnhide sz54; have := dUnhide sz65; have := dUnhide sz68; have := dUnhide sz69; have := dUnhide sz83; have := dUnhide sz86; have := dUnhide sz99; have := dUnhide sz137; omega)
        have sz144 := dHide b142.size
        replace M143 := dHide M143
        clear b142 T19
        have k145 := (dUnhide X47).now 0 _ rfl
        have k146 := (dUnhide X47).now 1 _ rfl
        have k147 := (dUnhide X47).now 2 _ rfl
        have k148 := (dUnhide X47).now 3 _ rfl
        have k149 := (dUnhide X47).now 4 _ rfl
        have k150 := (dUnhide X47).now 5 _ rfl
        go_wp2_with fail
        refine (markMend_ _ _ _ _ (1 + cntConfig m0) _ (by omega) (by omega) (dUnhide T42)).mono ?_
        rintro e w151 ⟨rfl, M153, b152⟩
        clear k145 k146 k147 k148 k149 k150
        replace X0 := dHide ((dUnhide X0).wr b152 (by have := dUnhide sz0; have := dUnhide sz1; have := dUnhide sz8; have := dUnhide sz11; have := dUnhide sz12; have := dUnhide sz13; have := dUnhide sz14; have := dUnhide sz15; have := dUnhide sz16; have := dUnhide sz23; have := dUnhide sz26; have := dUnhide sz27; have := dUnhide sz35; have := dUnhide sz46; have := dUnhide sz49; have := dUnhide sz50; have := dUnhide sz54; have := dUnhide sz65; have := dUnhide sz68; have := dUnhide sz69; have := dUnhide sz83; have := dUnhide sz86; have := dUnhide sz99; have := dUnhide sz137; have := dUnhide sz144; omega))
        replace X1 := dHide ((dUnhide X1).wr b152 (by have := dUnhide sz0; have := dUnhide sz1; have := dUnhide sz8; have := dUnhide sz11; have := dUnhide sz12; have := dUnhide sz13; have := dUnhide sz14; have := dUnhide sz15; have := dUnhide sz16; have := dUnhide sz23; have := dUnhide sz26; have := dUnhide sz27; have := dUnhide sz35; have := dUnhide sz46; have := dUnhide sz49; have := dUnhide sz50; have := dUnhide sz54; have := dUnhide sz65; have := dUnhide sz68; have := dUnhide sz69; have := dUnhide sz83; have := dUnhide sz86; have := dUnhide sz99; have := dUnhide sz137; have := dUnhide sz144; omega))
        replace X10 := dHide ((dUnhide X10).wr b152 (by have := dUnhide sz0; have := dUnhide sz1; have := dUnhide sz8; have := dUnhide sz11; have := dUnhide sz12; have := dUnhide sz13; have := dUnhide sz14; have := dUnhide sz15; have := dUnhide sz16; have := dUnhide sz23; have := dUnhide sz26; have := dUnhide sz27; have := dUnhide sz35; have := dUnhide sz46; have := dUnhide sz49; have := dUnhide sz50; have := dUnhide sz54; have := dUnhide sz65; have := dUnhide sz68; have := dUnhide sz69; have := dUnhide sz83; have := dUnhide sz86; have := dUnhide sz99; have := dUnhide sz137; have := dUnhide sz144; omega))
        replace OW := dHide ((dUnhide OW).wr b152 (by have := dUnhide sz0; have := dUnhide sz1; have := dUnhide sz8; have := dUnhide sz11; have := dUnhide sz12; have := dUnhide sz13; have := dUnhide sz14; have := dUnhide sz15; have := dUnhide sz16; have := dUnhide sz23; have := dUnhide sz26; have := dUnhide sz27; have := dUnhide sz35; have := dUnhide sz46; have := dUnhide sz49; have := dUnhide sz50; have := dUnhide sz54; have := dUnhide sz65; have := dUnhide sz68; have := dUnhide sz69; have := dUnhide sz83; have := dUnhide sz86; have := dUnhide sz99; have := dUnhide sz137; have := dUnhide sz144; omega))
        replace X24 := dHide ((dUnhide X24).wr b152 (by have := dUnhide sz0; have := dUnhide sz1; have := dUnhide sz8; have := dUnhide sz11; have := dUnhide sz12; have := dUnhide sz13; have := dUnhide sz14; have := dUnhide sz15; have := dUnhide sz16; have := dUnhide sz23; have := dUnhide sz26; have := dUnhide sz27; have := dUnhide sz35; have := dUnhide sz46; have := dUnhide sz49; have := dUnhide sz50; have := dUnhide sz54; have := dUnhide sz65; have := dUnhide sz68; have := dUnhide sz69; have := dUnhide sz83; have := dUnhide sz86; have := dUnhide sz99; have := dUnhide sz137; have := dUnhide sz144; omega))
        replace X47 := dHide ((dUnhide X47).wr b152 (by have := dUnhide sz0; have := dUnhide sz1; have := dUnhide sz8; have := dUnhide sz11; have := dUnhide sz12; have := dUnhide sz13; have := dUnhide sz14; have := dUnhide sz15; have := dUnhide sz16; have := dUnhide sz23; have := dUnhide sz26; have := dUnhide sz27; have := dUnhide sz35; have := dUnhide sz46; have := dUnhide sz49; have := dUnhide sz50; have := dUnhide sz54; have := dUnhide sz65; have := dUnhide sz68; have := dUnhide sz69; have := dUnhide sz83; have := dUnhide sz86; have := dUnhide sz99; have := dUnhide sz137; have := dUnhide sz144; omega))
        replace OG := dHide ((dUnhide OG).wr b152 (by have := dUnhide sz0; have := dUnhide sz1; have := dUnhide sz8; have := dUnhide sz11; have := dUnhide sz12; have := dUnhide sz13; have := dUnhide sz14; have := dUnhide sz15; have := dUnhide sz16; have := dUnhide sz23; have := dUnhide sz26; have := dUnhide sz27; have := dUnhide sz35; have := dUnhide sz46; have := dUnhide sz49; have := dUnhide sz50; have := dUnhide sz54; have := dUnhide sz65; have := dUnhide sz68; have := dUnhide sz69; have := dUnhide sz83; have := dUnhide sz86; have := dUnhide sz99; have := dUnhide sz137; have := dUnhide sz144; omega))
        replace X66 := dHide ((dUnhide X66).wr b152 (by have := dUnhide sz0; have := dUnhide sz1; have := dUnhide sz8; have := dUnhide sz11; have := dUnhide sz12; have := dUnhide sz13; have := dUnhide sz14; have := dUnhide sz15; have := dUnhide sz16; have := dUnhide sz23; have := dUnhide sz26; have := dUnhide sz27; have := dUnhide sz35; have := dUnhide sz46; have := dUnhide sz49; have := dUnhide sz50; have := dUnhide sz54; have := dUnhide sz65; have := dUnhide sz68; have := dUnhide sz69; have := dUnhide sz83; have := dUnhide sz86; have := dUnhide sz99; have := dUnhide sz137; have := dUnhide sz144; omega))
        replace M143 := dHide ((dUnhide M143).wr b152 (by have := dUnhide sz0; have := dUnhide sz1; have := dUnhide sz8; have := dUnhide sz11; have := dUnhide sz12; have := dUnhide sz13; have := dUnhide sz14; have := dUnhide sz15; have := dUnhide sz16; have := dUnhide sz23; have := dUnhide sz26; have := dUnhide sz27; have := dUnhide sz35; have := dUnhide sz46; have := dUnhide sz49; have := dUnhide sz50; have := dUnhide sz54; have := dUnhide sz65; have := dUnhide sz68; have := dUnhide sz69; have := dUnhide sz83; have := dUnhide sz86; have := dUnhide sz99; have := dUnhide sz137; have := dUnhide sz144; omega))
        replace B := b152.below B B.size (by have := dUnhide sz0; have := dUnhide sz1; have := dUnhide sz8; have := dUnhide sz11; have := dUnhide sz12; have := dUnhide sz13; have := dUnhide sz14; have := dUnhide sz15; have := dUnhide sz16; have := dUnhide sz23; have := dUnhide sz26; have := dUnhide sz27; have := dUnhide sz35; have := dUnhide sz46; have := dUnhide sz49; have := dUnhide sz50; have := dUnhide sz54; have := dUnhide sz65; have := dUnhide sz68; have := dUnhide sz69; have := dUnhide sz83; have := dUnhide sz86; have := dUnhide sz99; have := dUnhide sz137; have := dUnhide sz144; omega)
        have sz154 := dHide b152.size
        replace M153 := dHide M153
        clear b152 T42
        clear M143 M153 X24 X47
        have hk : ¬ (((1 + cntConfig m0 + cntMend m1 : Nat) : Int) < 0) := by omega
        have k155 := (dUnhide X66).now 0 _ rfl
        have k156 := (dUnhide X66).now 1 _ rfl
        have k157 := (dUnhide X66).now 2 _ rfl
        have k158 := (dUnhide X66).now 3 _ rfl
        have k159 := (dUnhide X66).now 4 _ rfl
        have k160 := (dUnhide X66).now 5 _ rfl
        have k161 := (dUnhide X10).now 0 _ rfl
        have k162 := (dUnhide X10).now 1 _ rfl
        have k163 := (dUnhide X10).now 2 _ rfl
        have k164 := (dUnhide X10).now 3 _ rfl
        have k165 := (dUnhide X10).now 4 _ rfl
        have k166 := (dUnhide X10).now 5 _ rfl
        go_wp2_with fail
        refine (eqMend_ _ _ _ _ (dUnhide OG).now.rd (dUnhide OW).now.rd).mono ?_
        rintro e w167 ⟨rfl, b168⟩
        clear k155 k156 k157 k158 k159 k160 k161 k162 k163 k164 k165 k166
        have sz169 := dHide b168.size
        replace X0 := dHide ((dUnhide X0).below b168)
        replace X1 := dHide ((dUnhide X1).below b168)
        replace X10 := dHide ((dUnhide X10).below b168)
        replace OW := dHide ((dUnhide OW).below b168)
        replace OG := dHide ((dUnhide OG).below b168)
        replace X66 := dHide ((dUnhide X66).below b168)
        replace B := belowThen B b168
        clear b168
        have k170 := (dUnhide X66).now 0 _ rfl
        have k171 := (dUnhide X66).now 1 _ rfl
        have k172 := (dUnhide X66).now 2 _ rfl
        have k173 := (dUnhide X66).now 3 _ rfl
        have k174 := (dUnhide X66).now 4 _ rfl
        have k175 := (dUnhide X66).now 5 _ rfl
        go_wp2_with fail
        refine (markMend_ _ _ _ _ 1 _ (by omega) (by omega) (dUnhide OG)).mono ?_
        rintro e w176 ⟨rfl, M178, b177⟩
        clear k170 k171 k172 k173 k174 k175
        replace X0 := dHide ((dUnhide X0).wr b177 (by have := dUnhide sz0; have := dUnhide sz1; have := dUnhide sz8; have := dUnhide sz11; have := dUnhide sz12; have := dUnhide sz13; have := dUnhide sz14; have := dUnhide sz15; have := dUnhide sz16; have := dUnhide sz23; have := dUnhide sz26; have := dUnhide sz27; have := dUnhide sz35; have := dUnhide sz46; have := dUnhide sz49; have := dUnhide sz50; have := dUnhide sz54; have := dUnhide sz65; have := dUnhide sz68; have := dUnhide sz69; have := dUnhide sz83; have := dUnhide sz86; have := dUnhide sz99; have := dUnhide sz137; have := dUnhide sz144; have := dUnhide sz154; have := dUnhide sz169; omega))
        replace X1 := dHide ((dUnhide X1).wr b177 (by have := dUnhide sz0; have := dUnhide sz1; have := dUnhide sz8; have := dUnhide sz11; have := dUnhide sz12; have := dUnhide sz13; have := dUnhide sz14; have := dUnhide sz15; have := dUnhide sz16; have := dUnhide sz23; have := dUnhide sz26; have := dUnhide sz27; have := dUnhide sz35; have := dUnhide sz46; have := dUnhide sz49; have := dUnhide sz50; have := dUnhide sz54; have := dUnhide sz65; have := dUnhide sz68; have := dUnhide sz69; have := dUnhide sz83; have := dUnhide sz86; have := dUnhide sz99; have := dUnhide sz137; have := dUnhide sz144; have := dUnhide sz154; have := dUnhide sz169; omega))
        replace X10 := dHide ((dUnhide X10).wr b177 (by have := dUnhide sz0; have := dUnhide sz1; have := dUnhide sz8; have := dUnhide sz11; have := dUnhide sz12; have := dUnhide sz13; have := dUnhide sz14; have := dUnhide sz15; have := dUnhide sz16; have := dUnhide sz23; have := dUnhide sz26; have := dUnhide sz27; have := dUnhide sz35; have := dUnhide sz46; have := dUnhide sz49; have := dUnhide sz50; have := dUnhide sz54; have := dUnhide sz65; have := dUnhide sz68; have := dUnhide sz69; have := dUnhide sz83; have := dUnhide sz86; have := dUnhide sz99; have := dUnhide sz137; have := dUnhide sz144; have := dUnhide sz154; have := dUnhide sz169; omega))
        replace OW := dHide ((dUnhide OW).wr b177 (by have := dUnhide sz0; have := dUnhide sz1; have := dUnhide sz8; have := dUnhide sz11; have := dUnhide sz12; have := dUnhide sz13; have := dUnhide sz14; have := dUnhide sz15; have := dUnhide sz16; have := dUnhide sz23; have := dUnhide sz26; have := dUnhide sz27; have := dUnhide sz35; have := dUnhide sz46; have := dUnhide sz49; have := dUnhide sz50; have := dUnhide sz54; have := dUnhide sz65; have := dUnhide sz68; have := dUnhide sz69; have := dUnhide sz83; have := dUnhide sz86; have := dUnhide sz99; have := dUnhide sz137; have := dUnhide sz144; have := dUnhide sz154; have := dUnhide sz169; omega))
        replace X66 := dHide ((dUnhide X66).wr b177 (by have := dUnhide sz0; have := dUnhide sz1; have := dUnhide sz8; have := dUnhide sz11; have := dUnhide sz12; have := dUnhide sz13; have := dUnhide sz14; have := dUnhide sz15; have := dUnhide sz16; have := dUnhide sz23; have := dUnhide sz26; have := dUnhide sz27; have := dUnhide sz35; have := dUnhide sz46; have := dUnhide sz49; have := dUnhide sz50; have := dUnhide sz54; have := dUnhide sz65; have := dUnhide sz68; have := dUnhide sz69; have := dUnhide sz83; have := dUnhide sz86; have := dUnhide sz99; have := dUnhide sz137; have := dUnhide sz144; have := dUnhide sz154; have := dUnhide sz169; omega))
        replace B := b177.below B B.size (by have := dUnhide sz0; have := dUnhide sz1; have := dUnhide sz8; have := dUnhide sz11; have := dUnhide sz12; have := dUnhide sz13; have := dUnhide sz14; have := dUnhide sz15; have := dUnhide sz16; have := dUnhide sz23; have := dUnhide sz26; have := dUnhide sz27; have := dUnhide sz35; have := dUnhide sz46; have := dUnhide sz49; have := dUnhide sz50; have := dUnhide sz54; have := dUnhide sz65; have := dUnhide sz68; have := dUnhide sz69; have := dUnhide sz83; have := dUnhide sz86; have := dUnhide sz99; have := dUnhide sz137; have := dUnhide sz144; have := dUnhide sz154; have := dUnhide sz169; omega)
        have sz179 := dHide b177.size
        replace M178 := dHide M178
        clear b177 OG
        have k180 := (dUnhide X66).now 0 _ rfl
        have k181 := (dUnhide X66).now 1 _ rfl
        have k182 := (dUnhide X66).now 2 _ rfl
        have k183 := (dUnhide X66).now 3 _ rfl
        have k184 := (dUnhide X66).now 4 _ rfl
        have k185 := (dUnhide X66).now 5 _ rfl
        go_wp2_with fail
        refine (heldMend_ _ R 1 _ (by omega) (by omega) (dUnhide M178).now.rd).mono ?_
        rintro e w186 ⟨rfl, b187⟩
        clear k180 k181 k182 k183 k184 k185
        have sz188 := dHide b187.size
        replace X0 := dHide ((dUnhide X0).below b187)
        replace X1 := dHide ((dUnhide X1).below b187)
        replace X10 := dHide ((dUnhide X10).below b187)
        replace OW := dHide ((dUnhide OW).below b187)
        replace X66 := dHide ((dUnhide X66).below b187)
        replace M178 := dHide ((dUnhide M178).below b187)
        replace B := belowThen B b187
        clear b187
        have hq : ¬ (((1 + cntMend R : Nat) : Int) < 0) := by omega
        go_wp2_with fail
        have hC : ∀ W, Below w186.heap.size w186 W → W.cell? ⟨w.heap.size, 0, none⟩ = some (.slice v0a m0.1.length v0c) ∧ W.cell? ⟨w.heap.size, 1, none⟩ = some (.int .i64 m0.2) ∧ W.cell? ⟨w.heap.size + 1, 0, none⟩ = some (.int .i64 m1.bye) ∧ W.cell? ⟨w.heap.size + 1, 1, none⟩ = some (.int .i64 m1.epoch) ∧ W.cell? ⟨w.heap.size + 1, 2, none⟩ = some (.slice v1sa m1.sealed.length v1sc) ∧ W.cell? ⟨w.heap.size + 1, 3, none⟩ = some (.slice v1ea m1.seen.length v1ec) ∧ W.cell? ⟨w.heap.size + 1, 4, none⟩ = some (.bool m1.planned) ∧ W.cell? ⟨w.heap.size + 1, 5, none⟩ = some (.slice v1wa m1.wrote.length v1wc) := fun W hb =>
          ⟨(dUnhide X0).at hb 0 _ rfl, (dUnhide X0).at hb 1 _ rfl, (dUnhide X1).at hb 0 _ rfl, (dUnhide X1).at hb 1 _ rfl, (dUnhide X1).at hb 2 _ rfl, (dUnhide X1).at hb 3 _ rfl, (dUnhide X1).at hb 4 _ rfl, (dUnhide X1).at hb 5 _ rfl⟩
        have HC := dHide hC
        have hbr := Below.refl w186.heap.size w186
        obtain ⟨kd1900, kd1901, kd1902, kd1903, kd1904, kd1905, kd1906, kd1907⟩ := hC w186 hbr
        clear hC
        go_cut [17, 18] (fun sv t1 wx => ∃ (bv lo hi : Nat) (sa : Option Addr) (sc : Nat) (ea : Option Addr) (ec : Nat) (wa : Option Addr) (wc : Nat), sv = .pointer (some ⟨bv, 0, none⟩) ∧ t1 = .bool s1 ∧ Sits (Box bv #[.int .i64 R.bye, .int .i64 R.epoch, .slice sa R.sealed.length sc, .slice ea R.seen.length ec, .bool R.planned, .slice wa R.wrote.length wc]) bv (bv + 1) wx ∧ Sits (OwMend lo hi (.agg #[.int .i64 R.bye, .int .i64 R.epoch, .slice sa R.sealed.length sc, .slice ea R.seen.length ec, .bool R.planned, .slice wa R.wrote.length wc]) R) lo hi wx ∧ (bv < lo ∨ hi ≤ bv) ∧ w186.heap.size ≤ bv ∧ w186.heap.size ≤ lo ∧ Below w186.heap.size w186 wx)
        case first =>
          clear kd1900 kd1901 kd1902 kd1903 kd1904 kd1905 kd1906 kd1907
          have hcur := hbr.drew
          refine wp_region_noPanic ?_
          refine wp_region_held_drew (S := fun W => W.cell? ⟨w.heap.size, 0, none⟩ = some (.slice v0a m0.1.length v0c) ∧ W.cell? ⟨w.heap.size, 1, none⟩ = some (.int .i64 m0.2) ∧ W.cell? ⟨w.heap.size + 1, 0, none⟩ = some (.int .i64 m1.bye) ∧ W.cell? ⟨w.heap.size + 1, 1, none⟩ = some (.int .i64 m1.epoch) ∧ W.cell? ⟨w.heap.size + 1, 2, none⟩ = some (.slice v1sa m1.sealed.length v1sc) ∧ W.cell? ⟨w.heap.size + 1, 3, none⟩ = some (.slice v1ea m1.seen.length v1ec) ∧ W.cell? ⟨w.heap.size + 1, 4, none⟩ = some (.bool m1.planned) ∧ W.cell? ⟨w.heap.size + 1, 5, none⟩ = some (.slice v1wa m1.wrote.length v1wc)) (by kernel_rfl) (by first | exact dUnhide HC _ hcur | exact dUnhide HC _ hst | exact dUnhide HC _ hbr | fail) (fun hHeld => ?_)
          clear hbr
          generalize w186.drew = wd at *
          refine wpAnyH_take (i := 0) (oi := { dst := some 99, op := Op.load 61 (Operand.tmp 3), type := 61, pos := "exact.go:3502", after := #[], guard := none }) (v := ?_) rfl (by kernel_rfl) (by kernel_rfl) (by kernel_rfl) (fun _ _ _ h => h) (Or.inl ⟨by rfl, ?_⟩) (by assumption) ?_
          rotate_left 1
          · intro w hSw
            (try dsimp only at hSw)
            first | (go_simp; done) | (go_simp; with_reducible rfl)
          try simp only [Act.put, List.setIfInBounds_toArray, List.set_cons_zero, List.set_cons_succ]
          refine wpAnyH_take (i := 2) (oi := { dst := some 101, op := Op.load 64 (Operand.tmp 4), type := 64, pos := "exact.go:3502", after := #[], guard := none }) (v := ?_) rfl (by kernel_rfl) (by kernel_rfl) (by kernel_rfl) (fun _ _ _ h => h) (Or.inl ⟨by rfl, ?_⟩) (by assumption) ?_
          rotate_left 1
          · intro w hSw
            (try dsimp only at hSw)
            first | (go_simp; done) | (go_simp; with_reducible rfl)
          try simp only [Act.put, List.setIfInBounds_toArray, List.set_cons_zero, List.set_cons_succ]
          refine wpAnyH_take (i := 4) (oi := { dst := some 103, op := Op.move (Operand.tmp 2), type := 3, pos := "exact.go:3502", after := #[], guard := none }) (v := ?_) rfl (by kernel_rfl) (by kernel_rfl) (by kernel_rfl) (fun _ _ _ h => h) (Or.inl ⟨by rfl, ?_⟩) (by assumption) ?_
          rotate_left 1
          · intro w hSw
            (try dsimp only at hSw)
            first | (go_simp; done) | (go_simp; with_reducible rfl)
          try simp only [Act.put, List.setIfInBounds_toArray, List.set_cons_zero, List.set_cons_succ]
          refine wpAnyH_ready (rs := [1, 9]) (by kernel_rfl) (by simp) ?_
          refine AllReadyH.cons (o := { dst := some 100, op := Op.call { callee := Callee.value (Operand.func 39), args := #[Operand.tmp 99], argTypes := #[61] }, type := 26, pos := "exact.go:3502", after := #[{ on := 0, ground := Ground.data }], guard := none }) rfl (fun K hK => ?_) (AllReadyH.cons (o := { dst := some 17, op := Op.alloc 47, type := 0, pos := "exact.go:3502", after := #[], guard := none }) rfl (fun K hK => ?_) AllReadyH.nil)
          · go_simp
            refine (toConfig_ _ m0 _ hs0 (dUnhide A0 _ (belowThen B hcur))).mono ?_
            rintro e wq0 ⟨o0, rfl, q0, b0⟩
            replace hcur := belowThen hcur b0
            (try replace zz := BxZ.below zz b0)
            have Q0 := dHide q0
            obtain ⟨o0a, o0c, rfl, o0l⟩ := formConfig q0.now.rd
            clear q0 b0
            (try go_wp2_with fail)
            refine hK.out _ _ (by first | exact dUnhide HC _ hcur | exact dUnhide HC _ hst | exact dUnhide HC _ hbr | fail) (fun hHeld => ?_)
            clear hK K
            try simp only [Act.put, List.setIfInBounds_toArray, List.set_cons_zero, List.set_cons_succ]
            refine wpAnyH_ready (rs := [3, 9]) (by kernel_rfl) (by simp) ?_
            refine AllReadyH.cons (o := { dst := some 102, op := Op.call { callee := Callee.value (Operand.func 40), args := #[Operand.tmp 101], argTypes := #[64] }, type := 47, pos := "exact.go:3502", after := #[{ on := 2, ground := Ground.data }, { on := 1, ground := Ground.chain }], guard := none }) rfl (fun K hK => ?_) (AllReadyH.cons (o := { dst := some 17, op := Op.alloc 47, type := 0, pos := "exact.go:3502", after := #[], guard := none }) rfl (fun K hK => ?_) AllReadyH.nil)
            · go_simp
              refine (toMend_ _ m1 _ hs1 (dUnhide A1 _ (belowThen B hcur))).mono ?_
              rintro e wq1 ⟨o1, rfl, q1, b1⟩
              replace hcur := belowThen hcur b1
              (try replace zz := BxZ.below zz b1)
              replace Q0 := dHide ((dUnhide Q0).below b1)
              have Q1 := dHide q1
              obtain ⟨o1sa, o1sc, o1ea, o1ec, o1wa, o1wc, rfl, o1l1, o1l2, o1l3⟩ := formMend q1.now.rd
              clear q1 b1
              (try go_wp2_with fail)
              refine hK.out _ _ (by first | exact dUnhide HC _ hcur | exact dUnhide HC _ hst | exact dUnhide HC _ hbr | fail) (fun hHeld => ?_)
              clear hK K
              try simp only [Act.put, List.setIfInBounds_toArray, List.set_cons_zero, List.set_cons_succ]
              refine wpAnyH_ready (rs := [5, 9]) (by kernel_rfl) (by simp) ?_
              refine AllReadyH.cons (o := { dst := some 104, op := Op.call { callee := Callee.value (Operand.func 51), args := #[Operand.tmp 100, Operand.tmp 102, Operand.tmp 103], argTypes := #[26, 47, 3] }, type := 76, pos := "exact.go:3502", after := #[{ on := 1, ground := Ground.data }, { on := 3, ground := Ground.data }, { on := 4, ground := Ground.data }, { on := 3, ground := Ground.chain }], guard := none }) rfl (fun K hK => ?_) (AllReadyH.cons (o := { dst := some 17, op := Op.alloc 47, type := 0, pos := "exact.go:3502", after := #[], guard := none }) rfl (fun K hK => ?_) AllReadyH.nil)
              · go_simp
                (try have hlo := BxZ.lt zz)
                have hcz := hcur.size
                refine (dUnhide CI _ _ _ (dUnhide Q0).now.rd (dUnhide Q1).now.rd).mono ?_
                rintro e w5 ⟨u5, rfl, q5, b5⟩
                replace hcur := belowThen hcur b5
                (try replace zz := BxZ.below zz b5)
                have Q5 := dHide q5
                obtain ⟨o5sa, o5sc, o5ea, o5ec, o5wa, o5wc, rfl, o5l1, o5l2, o5l3⟩ := formMend q5.now.rd
                clear q5 b5 Q0 Q1
                (try go_wp2_with fail)
                refine hK.out _ _ (by first | exact dUnhide HC _ hcur | exact dUnhide HC _ hst | exact dUnhide HC _ hbr | fail) (fun hHeld => ?_)
                clear hK K
                try simp only [Act.put, List.setIfInBounds_toArray, List.set_cons_zero, List.set_cons_succ]
                refine wpAnyH_take (i := 6) (oi := { dst := some 98, op := Op.move (Operand.tmp 104), type := 76, pos := "exact.go:3502", after := #[{ on := 5, ground := Ground.data }], guard := none }) (v := ?_) rfl (by kernel_rfl) (by kernel_rfl) (by kernel_rfl) (fun _ _ _ h => h) (Or.inl ⟨by rfl, ?_⟩) (by assumption) ?_
                rotate_left 1
                · intro w hSw
                  (try dsimp only at hSw)
                  first | (go_simp; done) | (go_simp; with_reducible rfl)
                try simp only [Act.put, List.setIfInBounds_toArray, List.set_cons_zero, List.set_cons_succ]
                refine wpAnyH_take (i := 7) (oi := { dst := some 105, op := Op.extract (Operand.tmp 98) 0, type := 47, pos := "exact.go:3502", after := #[{ on := 6, ground := Ground.data }], guard := none }) (v := ?_) rfl (by kernel_rfl) (by kernel_rfl) (by kernel_rfl) (fun _ _ _ h => h) (Or.inl ⟨by rfl, ?_⟩) (by assumption) ?_
                rotate_left 1
                · intro w hSw
                  (try dsimp only at hSw)
                  first | (go_simp; done) | (go_simp; with_reducible rfl)
                try simp only [Act.put, List.setIfInBounds_toArray, List.set_cons_zero, List.set_cons_succ]
                refine wpAnyH_take (i := 8) (oi := { dst := some 106, op := Op.extract (Operand.tmp 98) 1, type := 4, pos := "exact.go:3502", after := #[{ on := 6, ground := Ground.data }, { on := 10, ground := Ground.gcOnly Departure.lateStores }], guard := none }) (v := ?_) rfl (by kernel_rfl) (by kernel_rfl) (by kernel_rfl) (fun _ _ _ h => h) (Or.inl ⟨by rfl, ?_⟩) (by assumption) ?_
                rotate_left 1
                · intro w hSw
                  (try dsimp only at hSw)
                  first | (go_simp; done) | (go_simp; with_reducible rfl)
                try simp only [Act.put, List.setIfInBounds_toArray, List.set_cons_zero, List.set_cons_succ]
                refine wpAnyH_ready (rs := [9]) (by kernel_rfl) (by simp) ?_
                refine AllReadyH.cons (o := { dst := some 17, op := Op.alloc 47, type := 0, pos := "exact.go:3502", after := #[], guard := none }) rfl (fun K hK => ?_) AllReadyH.nil
                go_simp
                have zz := BxZ.new (B := w186.heap.size) _ [.int .i64 0, .int .i64 0, .slice none 0 0, .slice none 0 0, .bool false, .slice none 0 0] 47 hcur.size
                (try replace Q0 := dHide ((dUnhide Q0).below (ha _ (.cells #[.int .i64 0, .int .i64 0, .slice none 0 0, .slice none 0 0, .bool false, .slice none 0 0] 47))))
                (try replace Q1 := dHide ((dUnhide Q1).below (ha _ (.cells #[.int .i64 0, .int .i64 0, .slice none 0 0, .slice none 0 0, .bool false, .slice none 0 0] 47))))
                (try replace Q5 := dHide ((dUnhide Q5).below (ha _ (.cells #[.int .i64 0, .int .i64 0, .slice none 0 0, .slice none 0 0, .bool false, .slice none 0 0] 47))))
                replace hcur := hcur.alloc hcur.size (.cells #[.int .i64 0, .int .i64 0, .slice none 0 0, .slice none 0 0, .bool false, .slice none 0 0] 47)
                first | generalize w5.alloc (.cells #[.int .i64 0, .int .i64 0, .slice none 0 0, .slice none 0 0, .bool false, .slice none 0 0] 47) = wa at * | generalize wq1.alloc (.cells #[.int .i64 0, .int .i64 0, .slice none 0 0, .slice none 0 0, .bool false, .slice none 0 0] 47) = wa at * | generalize wq0.alloc (.cells #[.int .i64 0, .int .i64 0, .slice none 0 0, .slice none 0 0, .bool false, .slice none 0 0] 47) = wa at * | generalize wd.alloc (.cells #[.int .i64 0, .int .i64 0, .slice none 0 0, .slice none 0 0, .bool false, .slice none 0 0] 47) = wa at * | fail
                refine hK.out _ _ (by first | exact dUnhide HC _ hcur | exact dUnhide HC _ hst | exact dUnhide HC _ hbr | fail) (fun hHeld => ?_)
                clear hK K
                try simp only [Act.put, List.setIfInBounds_toArray, List.set_cons_zero, List.set_cons_succ]
                refine wpAnyH_ready (rs := [10]) (by kernel_rfl) (by simp) ?_
                refine AllReadyH.cons (o := { dst := none, op := Op.store 47 (Operand.tmp 17) (Operand.tmp 105), type := 0, pos := "exact.go:3502", after := #[{ on := 9, ground := Ground.data }, { on := 7, ground := Ground.data }, { on := 5, ground := Ground.chain }, { on := 0, ground := Ground.phase }, { on := 1, ground := Ground.phase }, { on := 2, ground := Ground.phase }, { on := 3, ground := Ground.phase }, { on := 4, ground := Ground.phase }, { on := 5, ground := Ground.phase }, { on := 6, ground := Ground.phase }, { on := 7, ground := Ground.phase }, { on := 8, ground := Ground.textOnly Departure.lateStores }, { on := 9, ground := Ground.phase }], guard := none }) rfl (fun K hK => ?_) AllReadyH.nil
                obtain ⟨z0, y0⟩ := zz.2 0 _ rfl
                obtain ⟨z1, y1⟩ := zz.2 1 _ rfl
                obtain ⟨z2, y2⟩ := zz.2 2 _ rfl
                obtain ⟨z3, y3⟩ := zz.2 3 _ rfl
                obtain ⟨z4, y4⟩ := zz.2 4 _ rfl
                obtain ⟨z5, y5⟩ := zz.2 5 _ rfl
                go_simp
                have hst := below_six hcur zz.1 (.int .i64 R.bye) (.int .i64 R.epoch) (.slice o5sa R.sealed.length o5sc) (.slice o5ea R.seen.length o5ec) (.bool R.planned) (.slice o5wa R.wrote.length o5wc)
                clear hcur z0 y0 z1 y1 z2 y2 z3 y3 z4 y4 z5 y5
                refine hK.out _ _ (by first | exact dUnhide HC _ hcur | exact dUnhide HC _ hst | exact dUnhide HC _ hbr | fail) (fun hHeld => ?_)
                clear hK K
                try simp only [Act.put, List.setIfInBounds_toArray, List.set_cons_zero, List.set_cons_succ]
                refine wpAnyH_take (i := 11) (oi := { dst := some 18, op := Op.assign (Operand.tmp 106), type := 4, pos := "exact.go:3502", after := #[{ on := 8, ground := Ground.data }, { on := 10, ground := Ground.chain }, { on := 0, ground := Ground.phase }, { on := 1, ground := Ground.phase }, { on := 2, ground := Ground.phase }, { on := 3, ground := Ground.phase }, { on := 4, ground := Ground.phase }, { on := 5, ground := Ground.phase }, { on := 6, ground := Ground.phase }, { on := 7, ground := Ground.phase }, { on := 8, ground := Ground.phase }, { on := 9, ground := Ground.phase }, { on := 10, ground := Ground.phase }], guard := none }) (v := ?_) rfl (by kernel_rfl) (by kernel_rfl) (by kernel_rfl) (fun _ _ _ h => h) (Or.inl ⟨by rfl, ?_⟩) (by assumption) ?_
                rotate_left 1
                · intro w hSw
                  (try dsimp only at hSw)
                  first | (go_simp; done) | (go_simp; with_reducible rfl)
                try simp only [Act.put, List.setIfInBounds_toArray, List.set_cons_zero, List.set_cons_succ]
                refine wpAnyH_done (by kernel_rfl) ?_ _
                refine NoPanic.normal ?_
                go_wp2_with fail
                go_meet
                case rel => first | exact ⟨_, _, _, _, _, _, _, _, _, rfl, rfl, ((((((zz.put 0 (.int .i64 R.bye)).put 1 (.int .i64 R.epoch)).put 2 (.slice o5sa R.sealed.length o5sc)).put 3 (.slice o5ea R.seen.length o5ec)).put 4 (.bool R.planned)).put 5 (.slice o5wa R.wrote.length o5wc)).bx.sits, ((((((dUnhide Q5).setFar (.inl hlo) (.int .i64 R.bye)).setFar (.inl hlo) (.int .i64 R.epoch)).setFar (.inl hlo) (.slice o5sa R.sealed.length o5sc)).setFar (.inl hlo) (.slice o5ea R.seen.length o5ec)).setFar (.inl hlo) (.bool R.planned)).setFar (.inl hlo) (.slice o5wa R.wrote.length o5wc), (.inl hlo), zz.1, hcz, hst⟩ | exact ⟨_, _, _, _, _, _, _, _, _, rfl, rfl, ((((((zz.put 0 (.int .i64 R.bye)).put 1 (.int .i64 R.epoch)).put 2 (.slice o5sa R.sealed.length o5sc)).put 3 (.slice o5ea R.seen.length o5ec)).put 4 (.bool R.planned)).put 5 (.slice o5wa R.wrote.length o5wc)).bx.sits, ((((((dUnhide Q5).setFar (.inr (Nat.le_refl _)) (.int .i64 R.bye)).setFar (.inr (Nat.le_refl _)) (.int .i64 R.epoch)).setFar (.inr (Nat.le_refl _)) (.slice o5sa R.sealed.length o5sc)).setFar (.inr (Nat.le_refl _)) (.slice o5ea R.seen.length o5ec)).setFar (.inr (Nat.le_refl _)) (.bool R.planned)).setFar (.inr (Nat.le_refl _)) (.slice o5wa R.wrote.length o5wc), (.inr (Nat.le_refl _)), zz.1, hcz, hst⟩
              · go_simp
                have zz := BxZ.new (B := w186.heap.size) _ [.int .i64 0, .int .i64 0, .slice none 0 0, .slice none 0 0, .bool false, .slice none 0 0] 47 hcur.size
                (try replace Q0 := dHide ((dUnhide Q0).below (ha _ (.cells #[.int .i64 0, .int .i64 0, .slice none 0 0, .slice none 0 0, .bool false, .slice none 0 0] 47))))
                (try replace Q1 := dHide ((dUnhide Q1).below (ha _ (.cells #[.int .i64 0, .int .i64 0, .slice none 0 0, .slice none 0 0, .bool false, .slice none 0 0] 47))))
                (try replace Q5 := dHide ((dUnhide Q5).below (ha _ (.cells #[.int .i64 0, .int .i64 0, .slice none 0 0, .slice none 0 0, .bool false, .slice none 0 0] 47))))
                replace hcur := hcur.alloc hcur.size (.cells #[.int .i64 0, .int .i64 0, .slice none 0 0, .slice none 0 0, .bool false, .slice none 0 0] 47)
                first | generalize w5.alloc (.cells #[.int .i64 0, .int .i64 0, .slice none 0 0, .slice none 0 0, .bool false, .slice none 0 0] 47) = wa at * | generalize wq1.alloc (.cells #[.int .i64 0, .int .i64 0, .slice none 0 0, .slice none 0 0, .bool false, .slice none 0 0] 47) = wa at * | generalize wq0.alloc (.cells #[.int .i64 0, .int .i64 0, .slice none 0 0, .slice none 0 0, .bool false, .slice none 0 0] 47) = wa at * | generalize wd.alloc (.cells #[.int .i64 0, .int .i64 0, .slice none 0 0, .slice none 0 0, .bool false, .slice none 0 0] 47) = wa at * | fail
                refine hK.out _ _ (by first | exact dUnhide HC _ hcur | exact dUnhide HC _ hst | exact dUnhide HC _ hbr | fail) (fun hHeld => ?_)
                clear hK K
                try simp only [Act.put, List.setIfInBounds_toArray, List.set_cons_zero, List.set_cons_succ]
                refine wpAnyH_ready (rs := [5]) (by kernel_rfl) (by simp) ?_
                refine AllReadyH.cons (o := { dst := some 104, op := Op.call { callee := Callee.value (Operand.func 51), args := #[Operand.tmp 100, Operand.tmp 102, Operand.tmp 103], argTypes := #[26, 47, 3] }, type := 76, pos := "exact.go:3502", after := #[{ on := 1, ground := Ground.data }, { on := 3, ground := Ground.data }, { on := 4, ground := Ground.data }, { on := 3, ground := Ground.chain }], guard := none }) rfl (fun K hK => ?_) AllReadyH.nil
                go_simp
                (try have hlo := BxZ.lt zz)
                have hcz := hcur.size
                refine (dUnhide CI _ _ _ (dUnhide Q0).now.rd (dUnhide Q1).now.rd).mono ?_
                rintro e w5 ⟨u5, rfl, q5, b5⟩
                replace hcur := belowThen hcur b5
                (try replace zz := BxZ.below zz b5)
                have Q5 := dHide q5
                obtain ⟨o5sa, o5sc, o5ea, o5ec, o5wa, o5wc, rfl, o5l1, o5l2, o5l3⟩ := formMend q5.now.rd
                clear q5 b5 Q0 Q1
                (try go_wp2_with fail)
                refine hK.out _ _ (by first | exact dUnhide HC _ hcur | exact dUnhide HC _ hst | exact dUnhide HC _ hbr | fail) (fun hHeld => ?_)
                clear hK K
                try simp only [Act.put, List.setIfInBounds_toArray, List.set_cons_zero, List.set_cons_succ]
                refine wpAnyH_take (i := 6) (oi := { dst := some 98, op := Op.move (Operand.tmp 104), type := 76, pos := "exact.go:3502", after := #[{ on := 5, ground := Ground.data }], guard := none }) (v := ?_) rfl (by kernel_rfl) (by kernel_rfl) (by kernel_rfl) (fun _ _ _ h => h) (Or.inl ⟨by rfl, ?_⟩) (by assumption) ?_
                rotate_left 1
                · intro w hSw
                  (try dsimp only at hSw)
                  first | (go_simp; done) | (go_simp; with_reducible rfl)
                try simp only [Act.put, List.setIfInBounds_toArray, List.set_cons_zero, List.set_cons_succ]
                refine wpAnyH_take (i := 7) (oi := { dst := some 105, op := Op.extract (Operand.tmp 98) 0, type := 47, pos := "exact.go:3502", after := #[{ on := 6, ground := Ground.data }], guard := none }) (v := ?_) rfl (by kernel_rfl) (by kernel_rfl) (by kernel_rfl) (fun _ _ _ h => h) (Or.inl ⟨by rfl, ?_⟩) (by assumption) ?_
                rotate_left 1
                · intro w hSw
                  (try dsimp only at hSw)
                  first | (go_simp; done) | (go_simp; with_reducible rfl)
                try simp only [Act.put, List.setIfInBounds_toArray, List.set_cons_zero, List.set_cons_succ]
                refine wpAnyH_take (i := 8) (oi := { dst := some 106, op := Op.extract (Operand.tmp 98) 1, type := 4, pos := "exact.go:3502", after := #[{ on := 6, ground := Ground.data }, { on := 10, ground := Ground.gcOnly Departure.lateStores }], guard := none }) (v := ?_) rfl (by kernel_rfl) (by kernel_rfl) (by kernel_rfl) (fun _ _ _ h => h) (Or.inl ⟨by rfl, ?_⟩) (by assumption) ?_
                rotate_left 1
                · intro w hSw
                  (try dsimp only at hSw)
                  first | (go_simp; done) | (go_simp; with_reducible rfl)
                try simp only [Act.put, List.setIfInBounds_toArray, List.set_cons_zero, List.set_cons_succ]
                refine wpAnyH_ready (rs := [10]) (by kernel_rfl) (by simp) ?_
                refine AllReadyH.cons (o := { dst := none, op := Op.store 47 (Operand.tmp 17) (Operand.tmp 105), type := 0, pos := "exact.go:3502", after := #[{ on := 9, ground := Ground.data }, { on := 7, ground := Ground.data }, { on := 5, ground := Ground.chain }, { on := 0, ground := Ground.phase }, { on := 1, ground := Ground.phase }, { on := 2, ground := Ground.phase }, { on := 3, ground := Ground.phase }, { on := 4, ground := Ground.phase }, { on := 5, ground := Ground.phase }, { on := 6, ground := Ground.phase }, { on := 7, ground := Ground.phase }, { on := 8, ground := Ground.textOnly Departure.lateStores }, { on := 9, ground := Ground.phase }], guard := none }) rfl (fun K hK => ?_) AllReadyH.nil
                obtain ⟨z0, y0⟩ := zz.2 0 _ rfl
                obtain ⟨z1, y1⟩ := zz.2 1 _ rfl
                obtain ⟨z2, y2⟩ := zz.2 2 _ rfl
                obtain ⟨z3, y3⟩ := zz.2 3 _ rfl
                obtain ⟨z4, y4⟩ := zz.2 4 _ rfl
                obtain ⟨z5, y5⟩ := zz.2 5 _ rfl
                go_simp
                have hst := below_six hcur zz.1 (.int .i64 R.bye) (.int .i64 R.epoch) (.slice o5sa R.sealed.length o5sc) (.slice o5ea R.seen.length o5ec) (.bool R.planned) (.slice o5wa R.wrote.length o5wc)
                clear hcur z0 y0 z1 y1 z2 y2 z3 y3 z4 y4 z5 y5
                refine hK.out _ _ (by first | exact dUnhide HC _ hcur | exact dUnhide HC _ hst | exact dUnhide HC _ hbr | fail) (fun hHeld => ?_)
                clear hK K
                try simp only [Act.put, List.setIfInBounds_toArray, List.set_cons_zero, List.set_cons_succ]
                refine wpAnyH_take (i := 11) (oi := { dst := some 18, op := Op.assign (Operand.tmp 106), type := 4, pos := "exact.go:3502", after := #[{ on := 8, ground := Ground.data }, { on := 10, ground := Ground.chain }, { on := 0, ground := Ground.phase }, { on := 1, ground := Ground.phase }, { on := 2, ground := Ground.phase }, { on := 3, ground := Ground.phase }, { on := 4, ground := Ground.phase }, { on := 5, ground := Ground.phase }, { on := 6, ground := Ground.phase }, { on := 7, ground := Ground.phase }, { on := 8, ground := Ground.phase }, { on := 9, ground := Ground.phase }, { on := 10, ground := Ground.phase }], guard := none }) (v := ?_) rfl (by kernel_rfl) (by kernel_rfl) (by kernel_rfl) (fun _ _ _ h => h) (Or.inl ⟨by rfl, ?_⟩) (by assumption) ?_
                rotate_left 1
                · intro w hSw
                  (try dsimp only at hSw)
                  first | (go_simp; done) | (go_simp; with_reducible rfl)
                try simp only [Act.put, List.setIfInBounds_toArray, List.set_cons_zero, List.set_cons_succ]
                refine wpAnyH_done (by kernel_rfl) ?_ _
                refine NoPanic.normal ?_
                go_wp2_with fail
                go_meet
                case rel => first | exact ⟨_, _, _, _, _, _, _, _, _, rfl, rfl, ((((((zz.put 0 (.int .i64 R.bye)).put 1 (.int .i64 R.epoch)).put 2 (.slice o5sa R.sealed.length o5sc)).put 3 (.slice o5ea R.seen.length o5ec)).put 4 (.bool R.planned)).put 5 (.slice o5wa R.wrote.length o5wc)).bx.sits, ((((((dUnhide Q5).setFar (.inl hlo) (.int .i64 R.bye)).setFar (.inl hlo) (.int .i64 R.epoch)).setFar (.inl hlo) (.slice o5sa R.sealed.length o5sc)).setFar (.inl hlo) (.slice o5ea R.seen.length o5ec)).setFar (.inl hlo) (.bool R.planned)).setFar (.inl hlo) (.slice o5wa R.wrote.length o5wc), (.inl hlo), zz.1, hcz, hst⟩ | exact ⟨_, _, _, _, _, _, _, _, _, rfl, rfl, ((((((zz.put 0 (.int .i64 R.bye)).put 1 (.int .i64 R.epoch)).put 2 (.slice o5sa R.sealed.length o5sc)).put 3 (.slice o5ea R.seen.length o5ec)).put 4 (.bool R.planned)).put 5 (.slice o5wa R.wrote.length o5wc)).bx.sits, ((((((dUnhide Q5).setFar (.inr (Nat.le_refl _)) (.int .i64 R.bye)).setFar (.inr (Nat.le_refl _)) (.int .i64 R.epoch)).setFar (.inr (Nat.le_refl _)) (.slice o5sa R.sealed.length o5sc)).setFar (.inr (Nat.le_refl _)) (.slice o5ea R.seen.length o5ec)).setFar (.inr (Nat.le_refl _)) (.bool R.planned)).setFar (.inr (Nat.le_refl _)) (.slice o5wa R.wrote.length o5wc), (.inr (Nat.le_refl _)), zz.1, hcz, hst⟩
            · go_simp
              have zz := BxZ.new (B := w186.heap.size) _ [.int .i64 0, .int .i64 0, .slice none 0 0, .slice none 0 0, .bool false, .slice none 0 0] 47 hcur.size
              (try replace Q0 := dHide ((dUnhide Q0).below (ha _ (.cells #[.int .i64 0, .int .i64 0, .slice none 0 0, .slice none 0 0, .bool false, .slice none 0 0] 47))))
              (try replace Q1 := dHide ((dUnhide Q1).below (ha _ (.cells #[.int .i64 0, .int .i64 0, .slice none 0 0, .slice none 0 0, .bool false, .slice none 0 0] 47))))
              (try replace Q5 := dHide ((dUnhide Q5).below (ha _ (.cells #[.int .i64 0, .int .i64 0, .slice none 0 0, .slice none 0 0, .bool false, .slice none 0 0] 47))))
              replace hcur := hcur.alloc hcur.size (.cells #[.int .i64 0, .int .i64 0, .slice none 0 0, .slice none 0 0, .bool false, .slice none 0 0] 47)
              first | generalize w5.alloc (.cells #[.int .i64 0, .int .i64 0, .slice none 0 0, .slice none 0 0, .bool false, .slice none 0 0] 47) = wa at * | generalize wq1.alloc (.cells #[.int .i64 0, .int .i64 0, .slice none 0 0, .slice none 0 0, .bool false, .slice none 0 0] 47) = wa at * | generalize wq0.alloc (.cells #[.int .i64 0, .int .i64 0, .slice none 0 0, .slice none 0 0, .bool false, .slice none 0 0] 47) = wa at * | generalize wd.alloc (.cells #[.int .i64 0, .int .i64 0, .slice none 0 0, .slice none 0 0, .bool false, .slice none 0 0] 47) = wa at * | fail
              refine hK.out _ _ (by first | exact dUnhide HC _ hcur | exact dUnhide HC _ hst | exact dUnhide HC _ hbr | fail) (fun hHeld => ?_)
              clear hK K
              try simp only [Act.put, List.setIfInBounds_toArray, List.set_cons_zero, List.set_cons_succ]
              refine wpAnyH_ready (rs := [3]) (by kernel_rfl) (by simp) ?_
              refine AllReadyH.cons (o := { dst := some 102, op := Op.call { callee := Callee.value (Operand.func 40), args := #[Operand.tmp 101], argTypes := #[64] }, type := 47, pos := "exact.go:3502", after := #[{ on := 2, ground := Ground.data }, { on := 1, ground := Ground.chain }], guard := none }) rfl (fun K hK => ?_) AllReadyH.nil
              go_simp
              refine (toMend_ _ m1 _ hs1 (dUnhide A1 _ (belowThen B hcur))).mono ?_
              rintro e wq1 ⟨o1, rfl, q1, b1⟩
              replace hcur := belowThen hcur b1
              (try replace zz := BxZ.below zz b1)
              replace Q0 := dHide ((dUnhide Q0).below b1)
              have Q1 := dHide q1
              obtain ⟨o1sa, o1sc, o1ea, o1ec, o1wa, o1wc, rfl, o1l1, o1l2, o1l3⟩ := formMend q1.now.rd
              clear q1 b1
              (try go_wp2_with fail)
              refine hK.out _ _ (by first | exact dUnhide HC _ hcur | exact dUnhide HC _ hst | exact dUnhide HC _ hbr | fail) (fun hHeld => ?_)
              clear hK K
              try simp only [Act.put, List.setIfInBounds_toArray, List.set_cons_zero, List.set_cons_succ]
              refine wpAnyH_ready (rs := [5]) (by kernel_rfl) (by simp) ?_
              refine AllReadyH.cons (o := { dst := some 104, op := Op.call { callee := Callee.value (Operand.func 51), args := #[Operand.tmp 100, Operand.tmp 102, Operand.tmp 103], argTypes := #[26, 47, 3] }, type := 76, pos := "exact.go:3502", after := #[{ on := 1, ground := Ground.data }, { on := 3, ground := Ground.data }, { on := 4, ground := Ground.data }, { on := 3, ground := Ground.chain }], guard := none }) rfl (fun K hK => ?_) AllReadyH.nil
              go_simp
              (try have hlo := BxZ.lt zz)
              have hcz := hcur.size
              refine (dUnhide CI _ _ _ (dUnhide Q0).now.rd (dUnhide Q1).now.rd).mono ?_
              rintro e w5 ⟨u5, rfl, q5, b5⟩
              replace hcur := belowThen hcur b5
              (try replace zz := BxZ.below zz b5)
              have Q5 := dHide q5
              obtain ⟨o5sa, o5sc, o5ea, o5ec, o5wa, o5wc, rfl, o5l1, o5l2, o5l3⟩ := formMend q5.now.rd
              clear q5 b5 Q0 Q1
              (try go_wp2_with fail)
              refine hK.out _ _ (by first | exact dUnhide HC _ hcur | exact dUnhide HC _ hst | exact dUnhide HC _ hbr | fail) (fun hHeld => ?_)
              clear hK K
              try simp only [Act.put, List.setIfInBounds_toArray, List.set_cons_zero, List.set_cons_succ]
              refine wpAnyH_take (i := 6) (oi := { dst := some 98, op := Op.move (Operand.tmp 104), type := 76, pos := "exact.go:3502", after := #[{ on := 5, ground := Ground.data }], guard := none }) (v := ?_) rfl (by kernel_rfl) (by kernel_rfl) (by kernel_rfl) (fun _ _ _ h => h) (Or.inl ⟨by rfl, ?_⟩) (by assumption) ?_
              rotate_left 1
              · intro w hSw
                (try dsimp only at hSw)
                first | (go_simp; done) | (go_simp; with_reducible rfl)
              try simp only [Act.put, List.setIfInBounds_toArray, List.set_cons_zero, List.set_cons_succ]
              refine wpAnyH_take (i := 7) (oi := { dst := some 105, op := Op.extract (Operand.tmp 98) 0, type := 47, pos := "exact.go:3502", after := #[{ on := 6, ground := Ground.data }], guard := none }) (v := ?_) rfl (by kernel_rfl) (by kernel_rfl) (by kernel_rfl) (fun _ _ _ h => h) (Or.inl ⟨by rfl, ?_⟩) (by assumption) ?_
              rotate_left 1
              · intro w hSw
                (try dsimp only at hSw)
                first | (go_simp; done) | (go_simp; with_reducible rfl)
              try simp only [Act.put, List.setIfInBounds_toArray, List.set_cons_zero, List.set_cons_succ]
              refine wpAnyH_take (i := 8) (oi := { dst := some 106, op := Op.extract (Operand.tmp 98) 1, type := 4, pos := "exact.go:3502", after := #[{ on := 6, ground := Ground.data }, { on := 10, ground := Ground.gcOnly Departure.lateStores }], guard := none }) (v := ?_) rfl (by kernel_rfl) (by kernel_rfl) (by kernel_rfl) (fun _ _ _ h => h) (Or.inl ⟨by rfl, ?_⟩) (by assumption) ?_
              rotate_left 1
              · intro w hSw
                (try dsimp only at hSw)
                first | (go_simp; done) | (go_simp; with_reducible rfl)
              try simp only [Act.put, List.setIfInBounds_toArray, List.set_cons_zero, List.set_cons_succ]
              refine wpAnyH_ready (rs := [10]) (by kernel_rfl) (by simp) ?_
              refine AllReadyH.cons (o := { dst := none, op := Op.store 47 (Operand.tmp 17) (Operand.tmp 105), type := 0, pos := "exact.go:3502", after := #[{ on := 9, ground := Ground.data }, { on := 7, ground := Ground.data }, { on := 5, ground := Ground.chain }, { on := 0, ground := Ground.phase }, { on := 1, ground := Ground.phase }, { on := 2, ground := Ground.phase }, { on := 3, ground := Ground.phase }, { on := 4, ground := Ground.phase }, { on := 5, ground := Ground.phase }, { on := 6, ground := Ground.phase }, { on := 7, ground := Ground.phase }, { on := 8, ground := Ground.textOnly Departure.lateStores }, { on := 9, ground := Ground.phase }], guard := none }) rfl (fun K hK => ?_) AllReadyH.nil
              obtain ⟨z0, y0⟩ := zz.2 0 _ rfl
              obtain ⟨z1, y1⟩ := zz.2 1 _ rfl
              obtain ⟨z2, y2⟩ := zz.2 2 _ rfl
              obtain ⟨z3, y3⟩ := zz.2 3 _ rfl
              obtain ⟨z4, y4⟩ := zz.2 4 _ rfl
              obtain ⟨z5, y5⟩ := zz.2 5 _ rfl
              go_simp
              have hst := below_six hcur zz.1 (.int .i64 R.bye) (.int .i64 R.epoch) (.slice o5sa R.sealed.length o5sc) (.slice o5ea R.seen.length o5ec) (.bool R.planned) (.slice o5wa R.wrote.length o5wc)
              clear hcur z0 y0 z1 y1 z2 y2 z3 y3 z4 y4 z5 y5
              refine hK.out _ _ (by first | exact dUnhide HC _ hcur | exact dUnhide HC _ hst | exact dUnhide HC _ hbr | fail) (fun hHeld => ?_)
              clear hK K
              try simp only [Act.put, List.setIfInBounds_toArray, List.set_cons_zero, List.set_cons_succ]
              refine wpAnyH_take (i := 11) (oi := { dst := some 18, op := Op.assign (Operand.tmp 106), type := 4, pos := "exact.go:3502", after := #[{ on := 8, ground := Ground.data }, { on := 10, ground := Ground.chain }, { on := 0, ground := Ground.phase }, { on := 1, ground := Ground.phase }, { on := 2, ground := Ground.phase }, { on := 3, ground := Ground.phase }, { on := 4, ground := Ground.phase }, { on := 5, ground := Ground.phase }, { on := 6, ground := Ground.phase }, { on := 7, ground := Ground.phase }, { on := 8, ground := Ground.phase }, { on := 9, ground := Ground.phase }, { on := 10, ground := Ground.phase }], guard := none }) (v := ?_) rfl (by kernel_rfl) (by kernel_rfl) (by kernel_rfl) (fun _ _ _ h => h) (Or.inl ⟨by rfl, ?_⟩) (by assumption) ?_
              rotate_left 1
              · intro w hSw
                (try dsimp only at hSw)
                first | (go_simp; done) | (go_simp; with_reducible rfl)
              try simp only [Act.put, List.setIfInBounds_toArray, List.set_cons_zero, List.set_cons_succ]
              refine wpAnyH_done (by kernel_rfl) ?_ _
              refine NoPanic.normal ?_
              go_wp2_with fail
              go_meet
              case rel => first | exact ⟨_, _, _, _, _, _, _, _, _, rfl, rfl, ((((((zz.put 0 (.int .i64 R.bye)).put 1 (.int .i64 R.epoch)).put 2 (.slice o5sa R.sealed.length o5sc)).put 3 (.slice o5ea R.seen.length o5ec)).put 4 (.bool R.planned)).put 5 (.slice o5wa R.wrote.length o5wc)).bx.sits, ((((((dUnhide Q5).setFar (.inl hlo) (.int .i64 R.bye)).setFar (.inl hlo) (.int .i64 R.epoch)).setFar (.inl hlo) (.slice o5sa R.sealed.length o5sc)).setFar (.inl hlo) (.slice o5ea R.seen.length o5ec)).setFar (.inl hlo) (.bool R.planned)).setFar (.inl hlo) (.slice o5wa R.wrote.length o5wc), (.inl hlo), zz.1, hcz, hst⟩ | exact ⟨_, _, _, _, _, _, _, _, _, rfl, rfl, ((((((zz.put 0 (.int .i64 R.bye)).put 1 (.int .i64 R.epoch)).put 2 (.slice o5sa R.sealed.length o5sc)).put 3 (.slice o5ea R.seen.length o5ec)).put 4 (.bool R.planned)).put 5 (.slice o5wa R.wrote.length o5wc)).bx.sits, ((((((dUnhide Q5).setFar (.inr (Nat.le_refl _)) (.int .i64 R.bye)).setFar (.inr (Nat.le_refl _)) (.int .i64 R.epoch)).setFar (.inr (Nat.le_refl _)) (.slice o5sa R.sealed.length o5sc)).setFar (.inr (Nat.le_refl _)) (.slice o5ea R.seen.length o5ec)).setFar (.inr (Nat.le_refl _)) (.bool R.planned)).setFar (.inr (Nat.le_refl _)) (.slice o5wa R.wrote.length o5wc), (.inr (Nat.le_refl _)), zz.1, hcz, hst⟩
          · go_simp
            have zz := BxZ.new (B := w186.heap.size) _ [.int .i64 0, .int .i64 0, .slice none 0 0, .slice none 0 0, .bool false, .slice none 0 0] 47 hcur.size
            (try replace Q0 := dHide ((dUnhide Q0).below (ha _ (.cells #[.int .i64 0, .int .i64 0, .slice none 0 0, .slice none 0 0, .bool false, .slice none 0 0] 47))))
            (try replace Q1 := dHide ((dUnhide Q1).below (ha _ (.cells #[.int .i64 0, .int .i64 0, .slice none 0 0, .slice none 0 0, .bool false, .slice none 0 0] 47))))
            (try replace Q5 := dHide ((dUnhide Q5).below (ha _ (.cells #[.int .i64 0, .int .i64 0, .slice none 0 0, .slice none 0 0, .bool false, .slice none 0 0] 47))))
            replace hcur := hcur.alloc hcur.size (.cells #[.int .i64 0, .int .i64 0, .slice none 0 0, .slice none 0 0, .bool false, .slice none 0 0] 47)
            first | generalize w5.alloc (.cells #[.int .i64 0, .int .i64 0, .slice none 0 0, .slice none 0 0, .bool false, .slice none 0 0] 47) = wa at * | generalize wq1.alloc (.cells #[.int .i64 0, .int .i64 0, .slice none 0 0, .slice none 0 0, .bool false, .slice none 0 0] 47) = wa at * | generalize wq0.alloc (.cells #[.int .i64 0, .int .i64 0, .slice none 0 0, .slice none 0 0, .bool false, .slice none 0 0] 47) = wa at * | generalize wd.alloc (.cells #[.int .i64 0, .int .i64 0, .slice none 0 0, .slice none 0 0, .bool false, .slice none 0 0] 47) = wa at * | fail
            refine hK.out _ _ (by first | exact dUnhide HC _ hcur | exact dUnhide HC _ hst | exact dUnhide HC _ hbr | fail) (fun hHeld => ?_)
            clear hK K
            try simp only [Act.put, List.setIfInBounds_toArray, List.set_cons_zero, List.set_cons_succ]
            refine wpAnyH_ready (rs := [1]) (by kernel_rfl) (by simp) ?_
            refine AllReadyH.cons (o := { dst := some 100, op := Op.call { callee := Callee.value (Operand.func 39), args := #[Operand.tmp 99], argTypes := #[61] }, type := 26, pos := "exact.go:3502", after := #[{ on := 0, ground := Ground.data }], guard := none }) rfl (fun K hK => ?_) AllReadyH.nil
            go_simp
            refine (toConfig_ _ m0 _ hs0 (dUnhide A0 _ (belowThen B hcur))).mono ?_
            rintro e wq0 ⟨o0, rfl, q0, b0⟩
            replace hcur := belowThen hcur b0
            (try replace zz := BxZ.below zz b0)
            have Q0 := dHide q0
            obtain ⟨o0a, o0c, rfl, o0l⟩ := formConfig q0.now.rd
            clear q0 b0
            (try go_wp2_with fail)
            refine hK.out _ _ (by first | exact dUnhide HC _ hcur | exact dUnhide HC _ hst | exact dUnhide HC _ hbr | fail) (fun hHeld => ?_)
            clear hK K
            try simp only [Act.put, List.setIfInBounds_toArray, List.set_cons_zero, List.set_cons_succ]
            refine wpAnyH_ready (rs := [3]) (by kernel_rfl) (by simp) ?_
            refine AllReadyH.cons (o := { dst := some 102, op := Op.call { callee := Callee.value (Operand.func 40), args := #[Operand.tmp 101], argTypes := #[64] }, type := 47, pos := "exact.go:3502", after := #[{ on := 2, ground := Ground.data }, { on := 1, ground := Ground.chain }], guard := none }) rfl (fun K hK => ?_) AllReadyH.nil
            go_simp
            refine (toMend_ _ m1 _ hs1 (dUnhide A1 _ (belowThen B hcur))).mono ?_
            rintro e wq1 ⟨o1, rfl, q1, b1⟩
            replace hcur := belowThen hcur b1
            (try replace zz := BxZ.below zz b1)
            replace Q0 := dHide ((dUnhide Q0).below b1)
            have Q1 := dHide q1
            obtain ⟨o1sa, o1sc, o1ea, o1ec, o1wa, o1wc, rfl, o1l1, o1l2, o1l3⟩ := formMend q1.now.rd
            clear q1 b1
            (try go_wp2_with fail)
            refine hK.out _ _ (by first | exact dUnhide HC _ hcur | exact dUnhide HC _ hst | exact dUnhide HC _ hbr | fail) (fun hHeld => ?_)
            clear hK K
            try simp only [Act.put, List.setIfInBounds_toArray, List.set_cons_zero, List.set_cons_succ]
            refine wpAnyH_ready (rs := [5]) (by kernel_rfl) (by simp) ?_
            refine AllReadyH.cons (o := { dst := some 104, op := Op.call { callee := Callee.value (Operand.func 51), args := #[Operand.tmp 100, Operand.tmp 102, Operand.tmp 103], argTypes := #[26, 47, 3] }, type := 76, pos := "exact.go:3502", after := #[{ on := 1, ground := Ground.data }, { on := 3, ground := Ground.data }, { on := 4, ground := Ground.data }, { on := 3, ground := Ground.chain }], guard := none }) rfl (fun K hK => ?_) AllReadyH.nil
            go_simp
            (try have hlo := BxZ.lt zz)
            have hcz := hcur.size
            refine (dUnhide CI _ _ _ (dUnhide Q0).now.rd (dUnhide Q1).now.rd).mono ?_
            rintro e w5 ⟨u5, rfl, q5, b5⟩
            replace hcur := belowThen hcur b5
            (try replace zz := BxZ.below zz b5)
            have Q5 := dHide q5
            obtain ⟨o5sa, o5sc, o5ea, o5ec, o5wa, o5wc, rfl, o5l1, o5l2, o5l3⟩ := formMend q5.now.rd
            clear q5 b5 Q0 Q1
            (try go_wp2_with fail)
            refine hK.out _ _ (by first | exact dUnhide HC _ hcur | exact dUnhide HC _ hst | exact dUnhide HC _ hbr | fail) (fun hHeld => ?_)
            clear hK K
            try simp only [Act.put, List.setIfInBounds_toArray, List.set_cons_zero, List.set_cons_succ]
            refine wpAnyH_take (i := 6) (oi := { dst := some 98, op := Op.move (Operand.tmp 104), type := 76, pos := "exact.go:3502", after := #[{ on := 5, ground := Ground.data }], guard := none }) (v := ?_) rfl (by kernel_rfl) (by kernel_rfl) (by kernel_rfl) (fun _ _ _ h => h) (Or.inl ⟨by rfl, ?_⟩) (by assumption) ?_
            rotate_left 1
            · intro w hSw
              (try dsimp only at hSw)
              first | (go_simp; done) | (go_simp; with_reducible rfl)
            try simp only [Act.put, List.setIfInBounds_toArray, List.set_cons_zero, List.set_cons_succ]
            refine wpAnyH_take (i := 7) (oi := { dst := some 105, op := Op.extract (Operand.tmp 98) 0, type := 47, pos := "exact.go:3502", after := #[{ on := 6, ground := Ground.data }], guard := none }) (v := ?_) rfl (by kernel_rfl) (by kernel_rfl) (by kernel_rfl) (fun _ _ _ h => h) (Or.inl ⟨by rfl, ?_⟩) (by assumption) ?_
            rotate_left 1
            · intro w hSw
              (try dsimp only at hSw)
              first | (go_simp; done) | (go_simp; with_reducible rfl)
            try simp only [Act.put, List.setIfInBounds_toArray, List.set_cons_zero, List.set_cons_succ]
            refine wpAnyH_take (i := 8) (oi := { dst := some 106, op := Op.extract (Operand.tmp 98) 1, type := 4, pos := "exact.go:3502", after := #[{ on := 6, ground := Ground.data }, { on := 10, ground := Ground.gcOnly Departure.lateStores }], guard := none }) (v := ?_) rfl (by kernel_rfl) (by kernel_rfl) (by kernel_rfl) (fun _ _ _ h => h) (Or.inl ⟨by rfl, ?_⟩) (by assumption) ?_
            rotate_left 1
            · intro w hSw
              (try dsimp only at hSw)
              first | (go_simp; done) | (go_simp; with_reducible rfl)
            try simp only [Act.put, List.setIfInBounds_toArray, List.set_cons_zero, List.set_cons_succ]
            refine wpAnyH_ready (rs := [10]) (by kernel_rfl) (by simp) ?_
            refine AllReadyH.cons (o := { dst := none, op := Op.store 47 (Operand.tmp 17) (Operand.tmp 105), type := 0, pos := "exact.go:3502", after := #[{ on := 9, ground := Ground.data }, { on := 7, ground := Ground.data }, { on := 5, ground := Ground.chain }, { on := 0, ground := Ground.phase }, { on := 1, ground := Ground.phase }, { on := 2, ground := Ground.phase }, { on := 3, ground := Ground.phase }, { on := 4, ground := Ground.phase }, { on := 5, ground := Ground.phase }, { on := 6, ground := Ground.phase }, { on := 7, ground := Ground.phase }, { on := 8, ground := Ground.textOnly Departure.lateStores }, { on := 9, ground := Ground.phase }], guard := none }) rfl (fun K hK => ?_) AllReadyH.nil
            obtain ⟨z0, y0⟩ := zz.2 0 _ rfl
            obtain ⟨z1, y1⟩ := zz.2 1 _ rfl
            obtain ⟨z2, y2⟩ := zz.2 2 _ rfl
            obtain ⟨z3, y3⟩ := zz.2 3 _ rfl
            obtain ⟨z4, y4⟩ := zz.2 4 _ rfl
            obtain ⟨z5, y5⟩ := zz.2 5 _ rfl
            go_simp
            have hst := below_six hcur zz.1 (.int .i64 R.bye) (.int .i64 R.epoch) (.slice o5sa R.sealed.length o5sc) (.slice o5ea R.seen.length o5ec) (.bool R.planned) (.slice o5wa R.wrote.length o5wc)
            clear hcur z0 y0 z1 y1 z2 y2 z3 y3 z4 y4 z5 y5
            refine hK.out _ _ (by first | exact dUnhide HC _ hcur | exact dUnhide HC _ hst | exact dUnhide HC _ hbr | fail) (fun hHeld => ?_)
            clear hK K
            try simp only [Act.put, List.setIfInBounds_toArray, List.set_cons_zero, List.set_cons_succ]
            refine wpAnyH_take (i := 11) (oi := { dst := some 18, op := Op.assign (Operand.tmp 106), type := 4, pos := "exact.go:3502", after := #[{ on := 8, ground := Ground.data }, { on := 10, ground := Ground.chain }, { on := 0, ground := Ground.phase }, { on := 1, ground := Ground.phase }, { on := 2, ground := Ground.phase }, { on := 3, ground := Ground.phase }, { on := 4, ground := Ground.phase }, { on := 5, ground := Ground.phase }, { on := 6, ground := Ground.phase }, { on := 7, ground := Ground.phase }, { on := 8, ground := Ground.phase }, { on := 9, ground := Ground.phase }, { on := 10, ground := Ground.phase }], guard := none }) (v := ?_) rfl (by kernel_rfl) (by kernel_rfl) (by kernel_rfl) (fun _ _ _ h => h) (Or.inl ⟨by rfl, ?_⟩) (by assumption) ?_
            rotate_left 1
            · intro w hSw
              (try dsimp only at hSw)
              first | (go_simp; done) | (go_simp; with_reducible rfl)
            try simp only [Act.put, List.setIfInBounds_toArray, List.set_cons_zero, List.set_cons_succ]
            refine wpAnyH_done (by kernel_rfl) ?_ _
            refine NoPanic.normal ?_
            go_wp2_with fail
            go_meet
            case rel => first | exact ⟨_, _, _, _, _, _, _, _, _, rfl, rfl, ((((((zz.put 0 (.int .i64 R.bye)).put 1 (.int .i64 R.epoch)).put 2 (.slice o5sa R.sealed.length o5sc)).put 3 (.slice o5ea R.seen.length o5ec)).put 4 (.bool R.planned)).put 5 (.slice o5wa R.wrote.length o5wc)).bx.sits, ((((((dUnhide Q5).setFar (.inl hlo) (.int .i64 R.bye)).setFar (.inl hlo) (.int .i64 R.epoch)).setFar (.inl hlo) (.slice o5sa R.sealed.length o5sc)).setFar (.inl hlo) (.slice o5ea R.seen.length o5ec)).setFar (.inl hlo) (.bool R.planned)).setFar (.inl hlo) (.slice o5wa R.wrote.length o5wc), (.inl hlo), zz.1, hcz, hst⟩ | exact ⟨_, _, _, _, _, _, _, _, _, rfl, rfl, ((((((zz.put 0 (.int .i64 R.bye)).put 1 (.int .i64 R.epoch)).put 2 (.slice o5sa R.sealed.length o5sc)).put 3 (.slice o5ea R.seen.length o5ec)).put 4 (.bool R.planned)).put 5 (.slice o5wa R.wrote.length o5wc)).bx.sits, ((((((dUnhide Q5).setFar (.inr (Nat.le_refl _)) (.int .i64 R.bye)).setFar (.inr (Nat.le_refl _)) (.int .i64 R.epoch)).setFar (.inr (Nat.le_refl _)) (.slice o5sa R.sealed.length o5sc)).setFar (.inr (Nat.le_refl _)) (.slice o5ea R.seen.length o5ec)).setFar (.inr (Nat.le_refl _)) (.bool R.planned)).setFar (.inr (Nat.le_refl _)) (.slice o5wa R.wrote.length o5wc), (.inr (Nat.le_refl _)), zz.1, hcz, hst⟩
        case rest =>
          obtain ⟨bX191, lod190, hid190, uhsa, uhsc, uhea, uhec, uhwa, uhwc, rfl, rfl, X191, OH, dd190, gd190, id190, bc⟩ := hcut
          clear kd1900 kd1901 kd1902 kd1903 kd1904 kd1905 kd1906 kd1907 HC hbr
          have sz192 := dHide bc.size
          replace X0 := dHide ((dUnhide X0).below bc)
          replace X1 := dHide ((dUnhide X1).below bc)
          replace X10 := dHide ((dUnhide X10).below bc)
          replace OW := dHide ((dUnhide OW).below bc)
          replace X66 := dHide ((dUnhide X66).below bc)
          replace M178 := dHide ((dUnhide M178).below bc)
          replace B := belowThen B bc
          have sz193 := dHide dd190
          have sz194 := dHide gd190
          have sz195 := dHide id190
          have sz196 := dHide X191.fit
          have sz197 := dHide OH.fit
          replace X191 := dHide X191
          replace OH := dHide OH
          clear bc dd190 gd190 id190
          generalize wc = w189 at *
          have k198 := (dUnhide X191).now 0 _ rfl
          have k199 := (dUnhide X191).now 1 _ rfl
          have k200 := (dUnhide X191).now 2 _ rfl
          have k201 := (dUnhide X191).now 3 _ rfl
          have k202 := (dUnhide X191).now 4 _ rfl
          have k203 := (dUnhide X191).now 5 _ rfl
          have k204 := (dUnhide X10).now 0 _ rfl
          have k205 := (dUnhide X10).now 1 _ rfl
          have k206 := (dUnhide X10).now 2 _ rfl
          have k207 := (dUnhide X10).now 3 _ rfl
          have k208 := (dUnhide X10).now 4 _ rfl
          have k209 := (dUnhide X10).now 5 _ rfl
          go_wp2_with fail
          refine (eqMend_ _ _ _ _ (dUnhide OH).now.rd (dUnhide OW).now.rd).mono ?_
          rintro e w210 ⟨rfl, b211⟩
          clear k198 k199 k200 k201 k202 k203 k204 k205 k206 k207 k208 k209
          have sz212 := dHide b211.size
          replace X0 := dHide ((dUnhide X0).below b211)
          replace X1 := dHide ((dUnhide X1).below b211)
          replace X10 := dHide ((dUnhide X10).below b211)
          replace OW := dHide ((dUnhide OW).below b211)
          replace X66 := dHide ((dUnhide X66).below b211)
          replace M178 := dHide ((dUnhide M178).below b211)
          replace X191 := dHide ((dUnhide X191).below b211)
          replace OH := dHide ((dUnhide OH).below b211)
          replace B := belowThen B b211
          clear b211
          have k213 := (dUnhide X66).now 0 _ rfl
          have k214 := (dUnhide X66).now 1 _ rfl
          have k215 := (dUnhide X66).now 2 _ rfl
          have k216 := (dUnhide X66).now 3 _ rfl
          have k217 := (dUnhide X66).now 4 _ rfl
          have k218 := (dUnhide X66).now 5 _ rfl
          go_wp2_with fail
          refine (heldMend_ _ R 1 _ (by omega) (by omega) (dUnhide M178).now.rd).mono ?_
          rintro e w219 ⟨rfl, b220⟩
          clear k213 k214 k215 k216 k217 k218
          have sz221 := dHide b220.size
          replace X0 := dHide ((dUnhide X0).below b220)
          replace X1 := dHide ((dUnhide X1).below b220)
          replace X10 := dHide ((dUnhide X10).below b220)
          replace OW := dHide ((dUnhide OW).below b220)
          replace X66 := dHide ((dUnhide X66).below b220)
          replace M178 := dHide ((dUnhide M178).below b220)
          replace X191 := dHide ((dUnhide X191).below b220)
          replace OH := dHide ((dUnhide OH).below b220)
          replace B := belowThen B b220
          clear b220
          clear X0 X1 X10 OW X66 M178 X191 OH
          go_wp2
          go_ret
          exact ⟨rfl, B⟩
end Go.Proofs.Ytjbfpmackocgnaa
