/- StoreSync: spec's and impl's answers, as the law on it asks for them. -/
import Derived.Test.YtenpnnocdjakdaaBuG
import Derived.Test.YtenpnnocdjakdaaStL
import Derived.Test.YtenpnnocdjakdaaImFj
namespace Go.Proofs.Ytenpnnocdjakdaa
open Go.ChangeShapes Go.WideShapes Go.ChangeAt Go.RowKit
set_option linter.unusedVariables false

theorem cnt_stP {s : St} (h : stP s) : cntStore s ≤ 1048576 := by
  have h1 := h.1.1
  have h2 := h.2.1.1
  unfold cntStore cntEntryS
  omega
theorem cnt_zero : cntStore zeroSt ≤ 1048576 := by unfold cntStore cntEntryS zeroSt; simp
theorem cnt_len {s : St} (h1 : s.kept.length ≤ 200) (h2 : s.late.length ≤ 20) : cntStore s ≤ 1048576 := by
  unfold cntStore cntEntryS
  omega
theorem cnt_crash (s : St) (keep : Int) : cntStore (crashM s keep).1 ≤ 1048576 := by
  by_cases h : stP s
  · by_cases hp : crashP s keep
    · rw [crashM_yes h hp]; exact cnt_len hp.2.2 (by simp)
    · rw [crashM_no h hp]; exact cnt_stP h
  · rw [crashM_bad h]; exact cnt_zero
theorem specSync_sits (m0 : St) (ok0 : okStore m0) : ∀ W v0, RdStore v0 m0 W → Calls Try.prog 47 #[v0] W fun e w' => ∃ u, e = .returned (.tuple #[u, .bool (crashM m0 1048575).2]) ∧ Sits (OwStore W.heap.size w'.heap.size u (crashM m0 1048575).1) W.heap.size w'.heap.size w' ∧ Below W.heap.size W w' := fun W v0 h => by
  refine (specSync_any v0 m0 W h ok0).mono ?_
  rintro e w' ⟨⟨u, rfl, hO⟩, hB⟩
  exact ⟨u, rfl, hO.sits, hB⟩
theorem implSync_sits (m0 : St) (ok0 : okStore m0) : ∀ W v0, RdStore v0 m0 W → Calls Try.prog 48 #[v0] W fun e w' => ∃ u, e = .returned (.tuple #[u, .bool (crashM m0 1048575).2]) ∧ Sits (OwStore W.heap.size w'.heap.size u (crashM m0 1048575).1) W.heap.size w'.heap.size w' ∧ Below W.heap.size W w' := fun W v0 h => by
  refine (implSync_any v0 m0 W h ok0).mono ?_
  rintro e w' ⟨⟨u, rfl, hO⟩, hB⟩
  exact ⟨u, rfl, hO.sits, hB⟩
end Go.Proofs.Ytenpnnocdjakdaa
