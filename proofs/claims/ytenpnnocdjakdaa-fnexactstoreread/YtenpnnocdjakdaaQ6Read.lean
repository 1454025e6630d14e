/- StoreRead: spec's and impl's answers, as the law on it asks for them. -/
import Derived.Test.YtenpnnocdjakdaaBuG
import Derived.Test.YtenpnnocdjakdaaStO
import Derived.Test.YtenpnnocdjakdaaImFo
namespace Go.Proofs.Ytenpnnocdjakdaa
open Go.ChangeShapes Go.WideShapes Go.ChangeAt Go.RowKit
set_option linter.unusedVariables false

theorem cnt_stP {s : St} (h : stP s) : cntStore s ≤ 1048576 := by
  have h1 := h.1.1
  have h2 := h.2.1.1
  unfold cntStore cntEntryS
  omega
theorem cnt_zero : cntStore zeroSt ≤ 1048576 := by unfold cntStore cntEntryS zeroSt; simp
theorem cnt_read (bs : List UInt8) : cntStore (readM bs).1 ≤ 1048576 := by
  unfold readM
  split
  · exact cnt_zero
  · split
    · exact cnt_zero
    · unfold readE
      split
      · exact cnt_zero
      · split
        · rename_i h; exact cnt_stP h.2
        · exact cnt_zero
theorem specRead_sits (m0 : List UInt8) (hs0 : sizByteS m0 ≤ 1048576) : ∀ W v0, RdByteS v0 m0 W → Calls Try.prog 36 #[v0] W fun e w' => ∃ u, e = .returned (.tuple #[u, .bool (readM m0).2]) ∧ Sits (OwStore W.heap.size w'.heap.size u (readM m0).1) W.heap.size w'.heap.size w' ∧ Below W.heap.size W w' := fun W v0 h => by
  refine (specStoreRead_any v0 m0 W h hs0).mono ?_
  rintro e w' ⟨⟨u, rfl, hO⟩, hB⟩
  exact ⟨u, rfl, hO.sits, hB⟩
theorem implRead_sits (m0 : List UInt8) (hs0 : sizByteS m0 ≤ 1048576) : ∀ W v0, RdByteS v0 m0 W → Calls Try.prog 34 #[v0] W fun e w' => ∃ u, e = .returned (.tuple #[u, .bool (readM m0).2]) ∧ Sits (OwStore W.heap.size w'.heap.size u (readM m0).1) W.heap.size w'.heap.size w' ∧ Below W.heap.size W w' := fun W v0 h => by
  refine (implStoreRead_any v0 m0 W h hs0).mono ?_
  rintro e w' ⟨⟨u, rfl, hO⟩, hB⟩
  exact ⟨u, rfl, hO.sits, hB⟩
end Go.Proofs.Ytenpnnocdjakdaa
