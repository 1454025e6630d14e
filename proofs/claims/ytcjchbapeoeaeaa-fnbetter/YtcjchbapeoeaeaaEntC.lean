/- Entries: the laws' helpers, and spec's Better. -/
import Derived.Test.YtcjchbapeoeaeaaEntA
namespace Go.Proofs.Ytcjchbapeoeaeaa
open Go.ChangeShapes Go.WideShapes Go.ChangeAt Go.RowKit
set_option linter.unusedVariables false

theorem toEntry_any (e : Ent) (w : World) :
    Calls Try.prog 22 #[e.val] w fun r w' => r = .returned e.val ∧ Below w.heap.size w w' := by
  obtain ⟨x, v, h, d⟩ := e
  unfold Ent.val
  go_enter Try.func22, Try.ntmps22
  go_wp2
  go_returns
  exact ⟨rfl, by go_grown⟩
theorem szEntry_any (e : Ent) (left : Int) (l0 : 0 ≤ left) (l1 : left ≤ 1048576) (hs : e.data.size ≤ 9223372036854775807) (w : World) :
    Calls Try.prog 21 #[e.val, .int .i64 left] w fun r w' => r = .returned (.int .i64 (if left < (e.data.size : Int) then -1 else left - (e.data.size : Int))) ∧ Below w.heap.size w w' := by
  obtain ⟨x, v, h, d⟩ := e
  unfold Ent.val
  simp only at *
  by_cases hd : left < (d.size : Int)
  · rw [if_pos hd]
    have hd' : left - (d.size : Int) < 0 := by omega
    go_enter Try.func21, Try.ntmps21
    go_wp2
    go_returns
    exact ⟨rfl, by go_grown⟩
  · rw [if_neg hd]
    have hd' : ¬ (left - (d.size : Int) < 0) := by omega
    go_enter Try.func21, Try.ntmps21
    go_wp2
    go_returns
    exact ⟨rfl, by go_grown⟩
theorem eqEntry_same (e : Ent) (w : World) :
    Calls Try.prog 28 #[e.val, e.val] w fun r w' => r = .returned (.bool true) ∧ Below w.heap.size w w' := by
  obtain ⟨x, v, h, d⟩ := e
  unfold Ent.val
  cases h
  · go_enter Try.func28, Try.ntmps28
    go_wp2
    go_returns
    exact ⟨rfl, by go_grown⟩
  · go_enter Try.func28, Try.ntmps28
    go_wp2
    go_returns
    exact ⟨rfl, by go_grown⟩
/-- The better one. -/
def better (a b : Ent) : Ent := if a.wave < b.wave then b else a
theorem specBetter_any (a b : Ent) (w : World) :
    Calls Try.prog 20 #[a.val, b.val] w fun r w' => r = .returned (better a b).val ∧ Below w.heap.size w w' := by
  obtain ⟨x, v, h, d⟩ := a
  obtain ⟨x', v', h', d'⟩ := b
  unfold better
  simp only
  by_cases hw : v < v'
  · rw [if_pos hw]
    unfold Ent.val
    go_enter Try.func20, Try.ntmps20
    go_wp2
    go_returns
    exact ⟨rfl, by go_grown⟩
  · rw [if_neg hw]
    unfold Ent.val
    go_enter Try.func20, Try.ntmps20
    go_wp2
    go_returns
    exact ⟨rfl, by go_grown⟩
end Go.Proofs.Ytcjchbapeoeaeaa
