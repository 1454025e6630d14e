/- spec's Rest of what is not right, Holds. -/
import Derived.Test.YtognmmmplmideaaDomE
import Derived.Deep.RegionHeld3
namespace Go.Proofs.Ytognmmmplmideaa
open Go.ChangeShapes Go.WideShapes Go.ChangeAt Go.RowKit
set_option linter.unusedVariables false

theorem ownN_none (w : World) (T : TypeId) (base : Nat) (hb : base ≤ w.heap.size) : OwnN (w.alloc (.cells #[] T)) base (.slice (some ⟨w.heap.size, 0, none⟩) 0 0) [] := ⟨by simp, _, _, rfl, by simp, .inl rfl⟩
/-- What holds. -/
def holdsP (ds : List Int) (cop : Int) (xs : List Int) : Prop := nodesP ds cop xs ∧ cop ≤ (spanN ds xs : Int)
set_option maxHeartbeats 2000000 in
theorem specHolds_any (sv v : Value) (ds xs : List Int) (cop : Int) (w : World) (hd : Ns w sv ds) (hv : Ns w v xs) (hl : xs.length ≤ 1000000000) :
    Calls Try.prog 52 #[.agg #[sv, .int .i64 cop], v] w fun e w' => RetB (holdsP ds cop xs) e ∧ Below w.heap.size w w' := by
  have hb0 : ∀ o, Below w.heap.size w (w.alloc o) := fun o => (Below.refl _ _).alloc (Nat.le_refl _) o
  have C1 := dHide fun W (hb : Below w.heap.size w W) => specNodes_any sv v ds xs cop W (hd.below hb) (hv.below hb)
  have C2 := dHide fun W (hb : Below w.heap.size w W) hn => l4Span_any sv v ds xs cop W (hd.below hb) (hv.below hb) hn hl
  obtain ⟨h0, a, cap, rfl, -, -⟩ := hd
  obtain ⟨h0', a', cap', rfl, -, -⟩ := hv
  by_cases hn : nodesP ds cop xs
  · have HN := dHide hn
    have C2 := dHide fun W hb => dUnhide C2 W hb hn
    have R : RetB (holdsP ds cop xs) (.returned (.bool (decide (cop ≤ (spanN ds xs : Int))))) := ⟨_, rfl, fun h => ⟨hn, of_decide_eq_true h⟩, fun h => decide_eq_true h.2⟩
    clear hn
    generalize (spanN ds xs : Int) = N at *
    go_enter Try.func52, Try.ntmps52
    go_wp2
    have T0 := Two.new w (.slice a ds.length cap) (.int .i64 cop) 43
    have B0 := hb0 (.cells #[.slice a ds.length cap, .int .i64 cop] 43)
    generalize hW : w.alloc (.cells #[.slice a ds.length cap, .int .i64 cop] 43) = w0 at *
    clear hW hb0
    have HT := dHide T0
    obtain ⟨k0, k1⟩ := T0
    have hbr := Below.refl w0.heap.size w0
    go_region_held3 (fun W => W.cell? ⟨w.heap.size, 0, none⟩ = some (.slice a ds.length cap) ∧ W.cell? ⟨w.heap.size, 1, none⟩ = some (.int .i64 cop)) (go_keep)
      (first
        | (go_at_call 90; refine (dUnhide C1 _ (belowThen B0 hbr.drew)).mono ?_; rintro e w1 ⟨hr, b1⟩; obtain rfl := hr.of_yes (dUnhide HN); have hb1 := belowThen hbr.drew b1; obtain ⟨q0, q1⟩ := (dUnhide HT).kept hb1)
        | (go_at_call 91; refine (dUnhide C2 _ (belowThen B0 hb1)).mono ?_; rintro e w2 ⟨rfl, b2⟩; have hb2 := belowThen hb1 b2; obtain ⟨q0, q1⟩ := (dUnhide HT).kept hb2))
    all_goals
      go_wp2
      go_ret
      exact ⟨R, belowThen B0 hb2⟩
  · have HN := dHide hn
    have R : RetB (holdsP ds cop xs) (.returned (.bool false)) := RetB.no fun h => hn h.1
    clear hn C2
    go_enter Try.func52, Try.ntmps52
    go_wp2
    have T0 := Two.new w (.slice a ds.length cap) (.int .i64 cop) 43
    have B0 := hb0 (.cells #[.slice a ds.length cap, .int .i64 cop] 43)
    generalize hW : w.alloc (.cells #[.slice a ds.length cap, .int .i64 cop] 43) = w0 at *
    clear hW hb0
    have HT := dHide T0
    obtain ⟨k0, k1⟩ := T0
    have hbr := Below.refl w0.heap.size w0
    refine wp_region_noPanic ?_
    refine wp_region_held_drew (S := fun W => W.cell? ⟨w.heap.size, 0, none⟩ = some (.slice a ds.length cap) ∧ W.cell? ⟨w.heap.size, 1, none⟩ = some (.int .i64 cop)) (by kernel_rfl) ?_ (fun hHeld => ?_)
    · go_keep
    refine wpAnyH_take (i := 0) (oi := { dst := some 5, op := Op.load 43 (Operand.tmp 2), type := 43, pos := "l04_domain.go:52", after := #[], guard := none }) (v := ?_) rfl (by kernel_rfl) (by kernel_rfl) (by kernel_rfl) (fun _ _ _ h => h) (Or.inl ⟨by rfl, ?_⟩) (by assumption) ?_
    rotate_left 1
    · intro w hSw
      (try dsimp only at hSw)
      first | (go_simp; done) | (go_simp; with_reducible rfl)
    try simp only [Act.put, List.setIfInBounds_toArray, List.set_cons_zero, List.set_cons_succ]
    refine wpAnyH_take (i := 1) (oi := { dst := some 6, op := Op.move (Operand.tmp 1), type := 34, pos := "l04_domain.go:52", after := #[], guard := none }) (v := ?_) rfl (by kernel_rfl) (by kernel_rfl) (by kernel_rfl) (fun _ _ _ h => h) (Or.inl ⟨by rfl, ?_⟩) (by assumption) ?_
    rotate_left 1
    · intro w hSw
      (try dsimp only at hSw)
      first | (go_simp; done) | (go_simp; with_reducible rfl)
    try simp only [Act.put, List.setIfInBounds_toArray, List.set_cons_zero, List.set_cons_succ]
    refine wpAnyH_ready (rs := [2]) (by kernel_rfl) (by simp) ?_
    refine AllReadyH.cons (o := { dst := some 7, op := Op.call { callee := Callee.value (Operand.func 90), args := #[Operand.tmp 5, Operand.tmp 6], argTypes := #[43, 34] }, type := 4, pos := "l04_domain.go:52", after := #[{ on := 0, ground := Ground.data }, { on := 1, ground := Ground.data }], guard := none }) rfl (fun K hK => ?_) AllReadyH.nil
    go_simp
    refine (dUnhide C1 _ (belowThen B0 hbr.drew)).mono ?_
    rintro e w1 ⟨hr, b1⟩
    obtain rfl := hr.of_no (dUnhide HN)
    have hb1 := belowThen hbr.drew b1
    obtain ⟨q0, q1⟩ := (dUnhide HT).kept hb1
    (try go_wp2_with fail)
    refine hK.out _ _ ?_ (fun hHeld => ?_)
    · go_keep
    clear hK K
    try simp only [Act.put, List.setIfInBounds_toArray, List.set_cons_zero, List.set_cons_succ]
    refine wpAnyH_take (i := 3) (oi := { dst := some 8, op := Op.move (Operand.tmp 7), type := 4, pos := "l04_domain.go:52", after := #[{ on := 2, ground := Ground.data }, { on := 2, ground := Ground.chain }], guard := none }) (v := ?_) rfl (by kernel_rfl) (by kernel_rfl) (by kernel_rfl) (fun _ _ _ h => h) (Or.inl ⟨by rfl, ?_⟩) (by assumption) ?_
    rotate_left 1
    · intro w hSw
      (try dsimp only at hSw)
      first | (go_simp; done) | (go_simp; with_reducible rfl)
    try simp only [Act.put, List.setIfInBounds_toArray, List.set_cons_zero, List.set_cons_succ]
    refine wpAnyH_take (i := 4) (oi := { dst := some 9, op := Op.load 43 (Operand.tmp 2), type := 43, pos := "l04_domain.go:52", after := #[{ on := 3, ground := Ground.guard }], guard := some (3, true) }) (v := undef) rfl (by kernel_rfl) (by kernel_rfl) (by kernel_rfl) (fun _ _ _ h => h) (Or.inr ⟨by rfl, rfl⟩) (by assumption) ?_
    try simp only [Act.put, List.setIfInBounds_toArray, List.set_cons_zero, List.set_cons_succ]
    refine wpAnyH_take (i := 5) (oi := { dst := some 10, op := Op.move (Operand.tmp 1), type := 34, pos := "l04_domain.go:52", after := #[{ on := 3, ground := Ground.guard }], guard := some (3, true) }) (v := undef) rfl (by kernel_rfl) (by kernel_rfl) (by kernel_rfl) (fun _ _ _ h => h) (Or.inr ⟨by rfl, rfl⟩) (by assumption) ?_
    try simp only [Act.put, List.setIfInBounds_toArray, List.set_cons_zero, List.set_cons_succ]
    refine wpAnyH_take (i := 6) (oi := { dst := some 11, op := Op.call { callee := Callee.value (Operand.func 91), args := #[Operand.tmp 9, Operand.tmp 10], argTypes := #[43, 34] }, type := 3, pos := "l04_domain.go:52", after := #[{ on := 4, ground := Ground.data }, { on := 5, ground := Ground.data }, { on := 3, ground := Ground.chain }, { on := 3, ground := Ground.guard }], guard := some (3, true) }) (v := undef) rfl (by kernel_rfl) (by kernel_rfl) (by kernel_rfl) (fun _ _ _ h => h) (Or.inr ⟨by rfl, rfl⟩) (by assumption) ?_
    try simp only [Act.put, List.setIfInBounds_toArray, List.set_cons_zero, List.set_cons_succ]
    refine wpAnyH_take (i := 7) (oi := { dst := some 12, op := Op.fieldAddr 43 (Operand.tmp 2) 1, type := 0, pos := "l04_domain.go:52", after := #[{ on := 3, ground := Ground.guard }], guard := some (3, true) }) (v := undef) rfl (by kernel_rfl) (by kernel_rfl) (by kernel_rfl) (fun _ _ _ h => h) (Or.inr ⟨by rfl, rfl⟩) (by assumption) ?_
    try simp only [Act.put, List.setIfInBounds_toArray, List.set_cons_zero, List.set_cons_succ]
    refine wpAnyH_take (i := 8) (oi := { dst := some 13, op := Op.load 3 (Operand.tmp 12), type := 3, pos := "l04_domain.go:52", after := #[{ on := 7, ground := Ground.data }, { on := 3, ground := Ground.guard }], guard := some (3, true) }) (v := undef) rfl (by kernel_rfl) (by kernel_rfl) (by kernel_rfl) (fun _ _ _ h => h) (Or.inr ⟨by rfl, rfl⟩) (by assumption) ?_
    try simp only [Act.put, List.setIfInBounds_toArray, List.set_cons_zero, List.set_cons_succ]
    refine wpAnyH_take (i := 9) (oi := { dst := some 14, op := Op.binOp BinOp.geq 3 (Operand.tmp 11) (Operand.tmp 13) 3, type := 4, pos := "l04_domain.go:52", after := #[{ on := 6, ground := Ground.data }, { on := 8, ground := Ground.data }, { on := 3, ground := Ground.guard }], guard := some (3, true) }) (v := undef) rfl (by kernel_rfl) (by kernel_rfl) (by kernel_rfl) (fun _ _ _ h => h) (Or.inr ⟨by rfl, rfl⟩) (by assumption) ?_
    try simp only [Act.put, List.setIfInBounds_toArray, List.set_cons_zero, List.set_cons_succ]
    refine wpAnyH_take (i := 10) (oi := { dst := some 15, op := Op.pick (Operand.tmp 8) (Operand.tmp 14) (Operand.const (Value.bool false)), type := 4, pos := "l04_domain.go:52", after := #[{ on := 3, ground := Ground.data }, { on := 9, ground := Ground.data }], guard := none }) (v := ?_) rfl (by kernel_rfl) (by kernel_rfl) (by kernel_rfl) (fun _ _ _ h => h) (Or.inl ⟨by rfl, ?_⟩) (by assumption) ?_
    rotate_left 1
    · intro w hSw
      (try dsimp only at hSw)
      first | (go_simp; done) | (go_simp; with_reducible rfl)
    try simp only [Act.put, List.setIfInBounds_toArray, List.set_cons_zero, List.set_cons_succ]
    refine wpAnyH_take (i := 11) (oi := { dst := some 4, op := Op.assign (Operand.tmp 15), type := 4, pos := "l04_domain.go:52", after := #[{ on := 10, ground := Ground.data }, { on := 6, ground := Ground.chain }, { on := 0, ground := Ground.phase }, { on := 1, ground := Ground.phase }, { on := 2, ground := Ground.phase }, { on := 3, ground := Ground.phase }, { on := 4, ground := Ground.phase }, { on := 5, ground := Ground.phase }, { on := 6, ground := Ground.phase }, { on := 7, ground := Ground.phase }, { on := 8, ground := Ground.phase }, { on := 9, ground := Ground.phase }, { on := 10, ground := Ground.phase }], guard := none }) (v := ?_) rfl (by kernel_rfl) (by kernel_rfl) (by kernel_rfl) (fun _ _ _ h => h) (Or.inl ⟨by rfl, ?_⟩) (by assumption) ?_
    rotate_left 1
    · intro w hSw
      (try dsimp only at hSw)
      first | (go_simp; done) | (go_simp; with_reducible rfl)
    try simp only [Act.put, List.setIfInBounds_toArray, List.set_cons_zero, List.set_cons_succ]
    refine wpAnyH_done (by kernel_rfl) ?_ _
    refine NoPanic.normal ?_
    go_wp2
    go_ret
    exact ⟨R, belowThen B0 hb1⟩
end Go.Proofs.Ytognmmmplmideaa
