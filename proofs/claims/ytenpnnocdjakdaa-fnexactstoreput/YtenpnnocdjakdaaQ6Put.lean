/- StorePut: spec's and impl's answers, as the law on it asks for them. -/
import Derived.Test.YtenpnnocdjakdaaBuG
import Derived.Test.YtenpnnocdjakdaaStE
import Derived.Test.YtenpnnocdjakdaaImFl
namespace Go.Proofs.Ytenpnnocdjakdaa
open Go.ChangeShapes Go.WideShapes Go.ChangeAt Go.RowKit
set_option linter.unusedVariables false

theorem cnt_stP {s : St} (h : stP s) : cntStore s ≤ 1048576 := by
  have h1 := h.1.1
  have h2 := h.2.1.1
  unfold cntStore cntEntryS
  omega
theorem cnt_zero : cntStore zeroSt ≤ 1048576 := by unfold cntStore cntEntryS zeroSt; simp
theorem cnt_put (s : St) (e : Ent) : cntStore (putM s e).1 ≤ 1048576 := by
  by_cases h : stP s
  · by_cases hp : putP s e
    · rw [putM_yes h hp]
      have h1 := h.1.1
      have h2 := h.2.1.1
      unfold cntStore cntEntryS
      simp only [List.length_append, List.length_singleton]
      omega
    · rw [putM_no h hp]; exact cnt_stP h
  · rw [putM_bad h]; exact cnt_zero
theorem specPut_sits (m0 : St) (m1 : Ent) (ok0 : okStore m0) (ok1 : okEntry m1) : ∀ W v0, RdStore v0 m0 W → Calls Try.prog 43 #[v0, m1.val] W fun e w' => ∃ u, e = .returned (.tuple #[u, .bool (putM m0 m1).2]) ∧ Sits (OwStore W.heap.size w'.heap.size u (putM m0 m1).1) W.heap.size w'.heap.size w' ∧ Below W.heap.size W w' := fun W v0 h => by
  refine (specPut_any v0 m0 m1 W h ok0 ok1).mono ?_
  rintro e w' ⟨⟨u, rfl, hO⟩, hB⟩
  exact ⟨u, rfl, hO.sits, hB⟩
theorem implPut_sits (m0 : St) (m1 : Ent) (ok0 : okStore m0) (ok1 : okEntry m1) : ∀ W v0, RdStore v0 m0 W → Calls Try.prog 21 #[v0, m1.val] W fun e w' => ∃ u, e = .returned (.tuple #[u, .bool (putM m0 m1).2]) ∧ Sits (OwStore W.heap.size w'.heap.size u (putM m0 m1).1) W.heap.size w'.heap.size w' ∧ Below W.heap.size W w' := fun W v0 h => by
  refine (implPut_any v0 m0 m1 W h ok0 ok1).mono ?_
  rintro e w' ⟨⟨u, rfl, hO⟩, hB⟩
  exact ⟨u, rfl, hO.sits, hB⟩
end Go.Proofs.Ytenpnnocdjakdaa
