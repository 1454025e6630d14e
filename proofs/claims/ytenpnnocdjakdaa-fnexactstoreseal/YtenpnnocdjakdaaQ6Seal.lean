/- StoreSeal: spec's and impl's answers, as the law on it asks for them. -/
import Derived.Test.YtenpnnocdjakdaaBuG
import Derived.Test.YtenpnnocdjakdaaStL
import Derived.Test.YtenpnnocdjakdaaImFj
namespace Go.Proofs.Ytenpnnocdjakdaa
open Go.ChangeShapes Go.WideShapes Go.ChangeAt Go.RowKit
set_option linter.unusedVariables false

theorem cnt_stP {s : St} (h : stP s) : cntStore s ≤ 1048576 := by
  have h1 := h.1.1
  have h2 := h.2.1.1
  unfold cntStore cntEntryS
  omega
theorem cnt_zero : cntStore zeroSt ≤ 1048576 := by unfold cntStore cntEntryS zeroSt; simp
theorem cnt_len {s : St} (h1 : s.kept.length ≤ 200) (h2 : s.late.length ≤ 20) : cntStore s ≤ 1048576 := by
  unfold cntStore cntEntryS
  omega
theorem cnt_seal (s : St) (upto : Int) : cntStore (sealM s upto).1 ≤ 1048576 := by
  by_cases h : stP s
  · by_cases hp : sealP s upto
    · rw [sealM_yes h hp]; exact cnt_len hp.1.2.2 (by simp)
    · rw [sealM_no h hp]; exact cnt_stP h
  · rw [sealM_bad h]; exact cnt_zero
theorem specSeal_sits (m0 : St) (m1 : Int) (ok0 : okStore m0) (ok1 : okInt m1) : ∀ W v0, RdStore v0 m0 W → Calls Try.prog 19 #[v0, .int .i64 m1] W fun e w' => ∃ u, e = .returned (.tuple #[u, .bool (sealM m0 m1).2]) ∧ Sits (OwStore W.heap.size w'.heap.size u (sealM m0 m1).1) W.heap.size w'.heap.size w' ∧ Below W.heap.size W w' := fun W v0 h => by
  refine (specSeal_any v0 m0 m1 W h ok0).mono ?_
  rintro e w' ⟨⟨u, rfl, hO⟩, hB⟩
  exact ⟨u, rfl, hO.sits, hB⟩
theorem implSeal_sits (m0 : St) (m1 : Int) (ok0 : okStore m0) (ok1 : okInt m1) : ∀ W v0, RdStore v0 m0 W → Calls Try.prog 18 #[v0, .int .i64 m1] W fun e w' => ∃ u, e = .returned (.tuple #[u, .bool (sealM m0 m1).2]) ∧ Sits (OwStore W.heap.size w'.heap.size u (sealM m0 m1).1) W.heap.size w'.heap.size w' ∧ Below W.heap.size W w' := fun W v0 h => by
  refine (implSeal_any v0 m0 m1 W h ok0).mono ?_
  rintro e w' ⟨⟨u, rfl, hO⟩, hB⟩
  exact ⟨u, rfl, hO.sits, hB⟩
end Go.Proofs.Ytenpnnocdjakdaa
