/- ReaderPack: both answers. -/
import Derived.Test.YtioocibgfhgkhaaPiI
import Derived.Test.YtioocibgfhgkhaaOpenV
import Derived.Test.YtioocibgfhgkhaaSitY
namespace Go.Proofs.Ytioocibgfhgkhaa
open Go.ChangeShapes Go.WideShapes Go.ChangeAt Go.RowKit
set_option linter.unusedVariables false
set_option linter.unusedSimpArgs false

theorem bothReaderPack_ (m0 : Rr) (ok0 : okReader m0) (hs0 : sizReader m0 ≤ 1048576) : ∃ (R : List UInt8) (s1 : Bool), cntByteS R ≤ 16777216 ∧ (∀ W v0, RdReader v0 m0 W → Calls Try.prog 29 #[v0] W fun e w' => ∃ u, e = .returned (.tuple #[u, .bool s1]) ∧ Sits (OwByteS W.heap.size w'.heap.size u R) W.heap.size w'.heap.size w' ∧ Below W.heap.size W w') ∧ (∀ W v0, RdReader v0 m0 W → Calls Try.prog 31 #[v0] W fun e w' => ∃ u, e = .returned (.tuple #[u, .bool s1]) ∧ Sits (OwByteS W.heap.size w'.heap.size u R) W.heap.size w'.heap.size w' ∧ Below W.heap.size W w') := by
  refine ⟨(rdM m0).1, (rdM m0).2, ?_, fun W v0 h => ?_, fun W v0 h => ?_⟩
  · unfold cntByteS
    by_cases h : rdPk m0
    · rw [rdM_yes h]
      have h1 := evsB_len m0.out h.1
      have h2 := numB_len m0.epoch.toNat
      have h3 := numB_len m0.off.toNat
      have h4 := numB_len m0.out.length
      have h5 := h.2.2.2
      simp only [rdB, List.length_append]
      omega
    · rw [rdM_no h]; simp
  · refine (specReaderPack_any v0 m0 W h fun e he => (ok0.2.2 e he).2.1.2).mono ?_
    rintro e w' ⟨⟨u, rfl, hO⟩, hB⟩
    exact ⟨u, rfl, hO.sits, hB⟩
  · refine (implReaderPack_any v0 m0 W h (fun e he => (ok0.2.2 e he).2.1.2) (by unfold sizReader sizEventS at hs0; omega)).mono ?_
    rintro e w' ⟨⟨u, rfl, hO⟩, hB⟩
    exact ⟨u, rfl, hO.own.sits, hB⟩
end Go.Proofs.Ytioocibgfhgkhaa
