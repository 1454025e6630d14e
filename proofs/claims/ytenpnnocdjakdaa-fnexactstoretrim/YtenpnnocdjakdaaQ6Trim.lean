/- StoreTrim: spec's and impl's answers, as the law on it asks for them. -/
import Derived.Test.YtenpnnocdjakdaaBuG
import Derived.Test.YtenpnnocdjakdaaStN
import Derived.Test.YtenpnnocdjakdaaImFk
namespace Go.Proofs.Ytenpnnocdjakdaa
open Go.ChangeShapes Go.WideShapes Go.ChangeAt Go.RowKit
set_option linter.unusedVariables false

theorem cnt_stP {s : St} (h : stP s) : cntStore s ≤ 1048576 := by
  have h1 := h.1.1
  have h2 := h.2.1.1
  unfold cntStore cntEntryS
  omega
theorem cnt_zero : cntStore zeroSt ≤ 1048576 := by unfold cntStore cntEntryS zeroSt; simp
theorem cnt_len {s : St} (h1 : s.kept.length ≤ 200) (h2 : s.late.length ≤ 20) : cntStore s ≤ 1048576 := by
  unfold cntStore cntEntryS
  omega
theorem cnt_trim (s : St) (upto : Int) : cntStore (trimM s upto).1 ≤ 1048576 := by
  by_cases h : stP s
  · by_cases hp : isPl upto
    · rw [trimM_yes h hp]
      exact cnt_len (Nat.le_trans (trimL_len _ _) h.1.1) h.2.1.1
    · rw [trimM_no h hp]; exact cnt_stP h
  · rw [trimM_bad h]; exact cnt_zero
theorem specTrim_sits (m0 : St) (m1 : Int) (ok0 : okStore m0) (ok1 : okInt m1) : ∀ W v0, RdStore v0 m0 W → Calls Try.prog 30 #[v0, .int .i64 m1] W fun e w' => ∃ u, e = .returned (.tuple #[u, .bool (trimM m0 m1).2]) ∧ Sits (OwStore W.heap.size w'.heap.size u (trimM m0 m1).1) W.heap.size w'.heap.size w' ∧ Below W.heap.size W w' := fun W v0 h => by
  refine (specTrim_any v0 m0 m1 W h ok0 ok1.2).mono ?_
  rintro e w' ⟨⟨u, rfl, hO⟩, hB⟩
  exact ⟨u, rfl, hO.sits, hB⟩
theorem implTrim_sits (m0 : St) (m1 : Int) (ok0 : okStore m0) (ok1 : okInt m1) : ∀ W v0, RdStore v0 m0 W → Calls Try.prog 29 #[v0, .int .i64 m1] W fun e w' => ∃ u, e = .returned (.tuple #[u, .bool (trimM m0 m1).2]) ∧ Sits (OwStore W.heap.size w'.heap.size u (trimM m0 m1).1) W.heap.size w'.heap.size w' ∧ Below W.heap.size W w' := fun W v0 h => by
  refine (implTrim_any v0 m0 m1 W h ok0 ok1.1 ok1.2).mono ?_
  rintro e w' ⟨⟨u, rfl, hO⟩, hB⟩
  exact ⟨u, rfl, hO.sits, hB⟩
end Go.Proofs.Ytenpnnocdjakdaa
