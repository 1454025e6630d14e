/- Union: what the exact law asks. -/
import Derived.Test.YtoeamgcoeoaijaaUnU
namespace Go.Proofs.Ytoeamgcoeoaijaa
open Go.ChangeShapes Go.WideShapes Go.ChangeAt Go.RowKit
set_option linter.unusedVariables false
theorem bothUnion_ (m0 : List St) (ok0 : okStoreS m0) (hs0 : sizStoreS m0 ≤ 1048576) : ∃ (R : List Ent), cntEntryS R ≤ 8388608 ∧ (∀ W v0, RdStoreS v0 m0 W → Calls Try.prog 11 #[v0] W fun e w' => ∃ u, e = .returned u ∧ Sits (OwEntryS W.heap.size w'.heap.size u R) W.heap.size w'.heap.size w' ∧ Below W.heap.size W w') ∧ (∀ W v0, RdStoreS v0 m0 W → Calls Try.prog 9 #[v0] W fun e w' => ∃ u, e = .returned u ∧ Sits (OwEntryS W.heap.size w'.heap.size u R) W.heap.size w'.heap.size w' ∧ Below W.heap.size W w') := by
  refine ⟨unM m0, ?_, fun W v0 h => ?_, fun W v0 h => ?_⟩
  · have := unM_len m0
    unfold cntEntryS
    unfold sizStoreS at hs0
    omega
  · refine (specUnion_any v0 m0 W h ok0 hs0).mono ?_
    rintro e w' ⟨⟨u, rfl, A⟩, b⟩
    exact ⟨u, rfl, (ApR.own elemE A).sits, b⟩
  · refine (implUnion_any v0 m0 W h ok0 hs0).mono ?_
    rintro e w' ⟨⟨u, rfl, A⟩, b⟩
    exact ⟨u, rfl, (ApR.own elemE A).sits, b⟩
end Go.Proofs.Ytoeamgcoeoaijaa
