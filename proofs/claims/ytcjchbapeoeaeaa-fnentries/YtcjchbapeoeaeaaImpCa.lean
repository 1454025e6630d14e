/- impl's chapter 3, begun: waveOk, dataOk, kind, EntryOk, Better. -/
import Derived.Test.YtcjchbapeoeaeaaEntC
import Derived.Test.YtcjchbapeoeaeaaEntB
import Derived.Test.YtcjchbapeoeaeaaPlaceC
import Derived.Test.YtcjchbapeoeaeaaFourP
import Derived.Deep.RegionHeld3
namespace Go.Proofs.Ytcjchbapeoeaeaa
open Go.ChangeShapes Go.WideShapes Go.ChangeAt Go.RowKit
set_option linter.unusedVariables false

set_option maxHeartbeats 1000000 in
theorem waveOk_zero (x : Int) (h : Bool) (d : ByteArray) (w : World) :
    Calls Try.prog 36 #[.agg #[.int .i64 x, .int .i64 0, .bool h, .string d]] w fun e w' => e = .returned (.bool true) ∧ Below w.heap.size w w' := by
  go_enter Try.func36, Try.ntmps36
  go_wp2
  go_quiet (fail)
  go_wp2
  go_ret
  exact ⟨rfl, below_drewN ((Below.refl _ _).alloc (Nat.le_refl _) _) _⟩
set_option maxHeartbeats 1000000 in
theorem waveOk_above (x v : Int) (h : Bool) (d : ByteArray) (hp : isPl x) (v0 : v ≠ 0) (hv : x / 4294967296 < v) (w : World) :
    Calls Try.prog 36 #[.agg #[.int .i64 x, .int .i64 v, .bool h, .string d]] w fun e w' => e = .returned (.bool (decide (v ≤ 30))) ∧ Below w.heap.size w w' := by
  have C := dHide (implEpoch_yes x hp)
  have hv0 : (v == 0) = false := beq_eq_false_iff_ne.2 v0
  clear hp v0
  go_enter Try.func36, Try.ntmps36
  go_wp2
  have F0 := Four.new w (.int .i64 x) (.int .i64 v) (.bool h) (.string d) 25
  have hw0 : Below w.heap.size w (w.alloc (.cells #[.int .i64 x, .int .i64 v, .bool h, .string d] 25)) := (Below.refl _ _).alloc (Nat.le_refl _) _
  generalize w.alloc (Obj.cells #[.int .i64 x, .int .i64 v, .bool h, .string d] 25) = w0 at *
  have HF := dHide F0
  obtain ⟨c0, c1, c2, c3⟩ := F0
  go_region_held3 (fun W => W.cell? ⟨w.heap.size, 0, none⟩ = some (.int .i64 x) ∧ W.cell? ⟨w.heap.size, 1, none⟩ = some (.int .i64 v)) (go_keep)
    (first
      | (go_at_call 51; refine (dUnhide C _).mono ?_; rintro e w1 ⟨rfl, b1⟩; obtain ⟨k0, k1, k2, k3⟩ := (dUnhide HF).kept (belowThen (Below.refl _ _).drew b1); have hb1 := belowThen hw0 (belowThen (Below.refl _ _).drew b1)))
  go_wp2
  go_ret
  exact ⟨rfl, hb1⟩
set_option maxHeartbeats 1000000 in
theorem dataOk_data (x v : Int) (d : ByteArray) (w : World) :
    Calls Try.prog 37 #[.agg #[.int .i64 x, .int .i64 v, .bool false, .string d]] w fun e w' => e = .returned (.bool (decide ((d.size : Int) ≤ 40))) ∧ Below w.heap.size w w' := by
  go_enter Try.func37, Try.ntmps37
  go_wp2
  go_ret
  exact ⟨rfl, (Below.refl _ _).alloc (Nat.le_refl _) _⟩
set_option maxHeartbeats 1000000 in
theorem dataOk_hole0 (x v : Int) (d : ByteArray) (hv : ¬ 0 < v) (w : World) :
    Calls Try.prog 37 #[.agg #[.int .i64 x, .int .i64 v, .bool true, .string d]] w fun e w' => e = .returned (.bool false) ∧ Below w.heap.size w w' := by
  go_enter Try.func37, Try.ntmps37
  go_wp2
  go_ret
  exact ⟨rfl, (Below.refl _ _).alloc (Nat.le_refl _) _⟩
set_option maxHeartbeats 1000000 in
theorem dataOk_hole1 (x v : Int) (hv : 0 < v) (w : World) :
    Calls Try.prog 37 #[.agg #[.int .i64 x, .int .i64 v, .bool true, .string ⟨#[]⟩]] w fun e w' => e = .returned (.bool true) ∧ Below w.heap.size w w' := by
  go_enter Try.func37, Try.ntmps37
  go_wp2
  go_ret
  exact ⟨rfl, (Below.refl _ _).alloc (Nat.le_refl _) _⟩
set_option maxHeartbeats 1000000 in
theorem dataOk_hole2 (x v : Int) (d : ByteArray) (hv : 0 < v) (he : d.toList.isEmpty = false) (w : World) :
    Calls Try.prog 37 #[.agg #[.int .i64 x, .int .i64 v, .bool true, .string d]] w fun e w' => e = .returned (.bool false) ∧ Below w.heap.size w w' := by
  go_enter Try.func37, Try.ntmps37
  go_wp2
  go_ret
  exact ⟨rfl, (Below.refl _ _).alloc (Nat.le_refl _) _⟩
theorem kind_any (x v : Int) (h : Bool) (d : ByteArray) (w : World) :
    Calls Try.prog 47 #[.agg #[.int .i64 x, .int .i64 v, .bool h, .string d]] w fun e w' => e = .returned (.int .i64 (bitN h : Int)) ∧ Below w.heap.size w w' := by
  cases h
  · go_enter Try.func47, Try.ntmps47
    go_wp2
    go_ret
    exact ⟨rfl, (Below.refl _ _).alloc (Nat.le_refl _) _⟩
  · go_enter Try.func47, Try.ntmps47
    go_wp2
    go_ret
    exact ⟨rfl, (Below.refl _ _).alloc (Nat.le_refl _) _⟩
theorem implBetter_any (a b : Ent) (w : World) :
    Calls Try.prog 19 #[a.val, b.val] w fun r w' => r = .returned (better a b).val ∧ Below w.heap.size w w' := by
  obtain ⟨x, v, h, d⟩ := a
  obtain ⟨x', v', h', d'⟩ := b
  unfold better
  simp only
  by_cases hw : v < v'
  · rw [if_pos hw]
    unfold Ent.val
    go_enter Try.func19, Try.ntmps19
    go_wp2
    go_returns
    exact ⟨rfl, by go_grown⟩
  · rw [if_neg hw]
    unfold Ent.val
    go_enter Try.func19, Try.ntmps19
    go_wp2
    go_returns
    exact ⟨rfl, by go_grown⟩
end Go.Proofs.Ytcjchbapeoeaeaa
