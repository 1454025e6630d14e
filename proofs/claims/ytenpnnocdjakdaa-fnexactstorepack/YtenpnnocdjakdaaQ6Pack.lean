/- StorePack: spec's and impl's answers, as the law on it asks for them. -/
import Derived.Test.YtenpnnocdjakdaaBuG
import Derived.Test.YtenpnnocdjakdaaStM
import Derived.Test.YtenpnnocdjakdaaImFn
namespace Go.Proofs.Ytenpnnocdjakdaa
open Go.ChangeShapes Go.WideShapes Go.ChangeAt Go.RowKit
set_option linter.unusedVariables false

theorem cnt_pack (s : St) : cntByteS (packM s).1 ≤ 1048576 := by
  by_cases h : packP s
  · rw [packM_yes h]
    unfold cntByteS packS
    have h1 := h.1.1.1
    have h2 := flat_len s.kept s.kept.length h.1.1.2 (Nat.le_refl _)
    rw [List.take_length] at h2
    have h3 := numB_len s.lock.toNat
    have h4 := numB_len s.kept.length
    simp only [List.length_append]
    omega
  · rw [packM_no h]; unfold cntByteS; simp

theorem specPack_sits (m0 : St) (ok0 : okStore m0) : ∀ W v0, RdStore v0 m0 W → Calls Try.prog 33 #[v0] W fun e w' => ∃ u, e = .returned (.tuple #[u, .bool (packM m0).2]) ∧ Sits (OwByteS W.heap.size w'.heap.size u (packM m0).1) W.heap.size w'.heap.size w' ∧ Below W.heap.size W w' := fun W v0 h => by
  refine (specStorePack_any v0 m0 W h ok0).mono ?_
  rintro e w' ⟨⟨u, rfl, hO⟩, hB⟩
  exact ⟨u, rfl, hO.sits, hB⟩
theorem implPack_sits (m0 : St) (ok0 : okStore m0) : ∀ W v0, RdStore v0 m0 W → Calls Try.prog 32 #[v0] W fun e w' => ∃ u, e = .returned (.tuple #[u, .bool (packM m0).2]) ∧ Sits (OwByteS W.heap.size w'.heap.size u (packM m0).1) W.heap.size w'.heap.size w' ∧ Below W.heap.size W w' := fun W v0 h => by
  refine (implPack_any v0 m0 W h ok0).mono ?_
  rintro e w' ⟨⟨u, rfl, hO⟩, hB⟩
  exact ⟨u, rfl, hO.sits, hB⟩
end Go.Proofs.Ytenpnnocdjakdaa
