/- WriterPack: both answers. -/
import Derived.Test.YtioocibgfhgkhaaPiK
import Derived.Test.YtioocibgfhgkhaaOpenW
import Derived.Test.YtioocibgfhgkhaaSitY
namespace Go.Proofs.Ytioocibgfhgkhaa
open Go.ChangeShapes Go.WideShapes Go.ChangeAt Go.RowKit
set_option linter.unusedVariables false
set_option linter.unusedSimpArgs false

theorem bothWriterPack_ (m0 : List Int × Int) (m1 : Wt) (ok0 : okConfig m0) (ok1 : okWriter m1) (hs0 : sizConfig m0 ≤ 1048576) (hs1 : sizWriter m1 ≤ 1048576) : ∃ (R : List UInt8) (s1 : Bool), cntByteS R ≤ 16777216 ∧ (∀ W v0 v1, RdConfig v0 m0 W → RdWriter v1 m1 W → Calls Try.prog 23 #[v0, v1] W fun e w' => ∃ u, e = .returned (.tuple #[u, .bool s1]) ∧ Sits (OwByteS W.heap.size w'.heap.size u R) W.heap.size w'.heap.size w' ∧ Below W.heap.size W w') ∧ (∀ W v0 v1, RdConfig v0 m0 W → RdWriter v1 m1 W → Calls Try.prog 25 #[v0, v1] W fun e w' => ∃ u, e = .returned (.tuple #[u, .bool s1]) ∧ Sits (OwByteS W.heap.size w'.heap.size u R) W.heap.size w'.heap.size w' ∧ Below W.heap.size W w') := by
  refine ⟨(wtM m0.1 m0.2 m1).1, (wtM m0.1 m0.2 m1).2, ?_, fun W v0 v1 h0 h1 => ?_, fun W v0 v1 h0 h1 => ?_⟩
  · unfold cntByteS
    by_cases h : wrP m0.1 m0.2 m1
    · rw [wtM_yes h]
      have h1 := wdsB_len m1.words
      have h2 := numB_len m1.epoch.toNat
      have h4 := numB_len m1.words.length
      have h5 := h.2.2.1
      unfold sizWriter sizWordS at hs1
      simp only [wtB, List.length_append]
      omega
    · rw [wtM_no h]; simp
  · refine (specWriterPack_any v0 v1 m0 m1 W h0 h1 hs1).mono ?_
    rintro e w' ⟨⟨u, rfl, hO⟩, hB⟩
    exact ⟨u, rfl, hO.sits, hB⟩
  · refine (implWriterPack_any v0 v1 m0 m1 W h0 h1 ok0 ok1 hs0 hs1).mono ?_
    rintro e w' ⟨⟨u, rfl, hO⟩, hB⟩
    exact ⟨u, rfl, hO.own.sits, hB⟩
end Go.Proofs.Ytioocibgfhgkhaa
