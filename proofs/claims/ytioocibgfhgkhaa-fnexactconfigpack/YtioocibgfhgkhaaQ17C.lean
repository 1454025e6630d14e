/- ConfigPack: both answers. -/
import Derived.Test.YtioocibgfhgkhaaPiB
import Derived.Test.YtioocibgfhgkhaaGaD
import Derived.Test.YtioocibgfhgkhaaSitY
namespace Go.Proofs.Ytioocibgfhgkhaa
open Go.ChangeShapes Go.WideShapes Go.ChangeAt Go.RowKit
set_option linter.unusedVariables false
set_option linter.unusedSimpArgs false

theorem bothConfigPack_ (m0 : List Int × Int) (ok0 : okConfig m0) (hs0 : sizConfig m0 ≤ 1048576) : ∃ (R : List UInt8) (s1 : Bool), cntByteS R ≤ 16777216 ∧ (∀ W v0, RdConfig v0 m0 W → Calls Try.prog 8 #[v0] W fun e w' => ∃ u, e = .returned (.tuple #[u, .bool s1]) ∧ Sits (OwByteS W.heap.size w'.heap.size u R) W.heap.size w'.heap.size w' ∧ Below W.heap.size W w') ∧ (∀ W v0, RdConfig v0 m0 W → Calls Try.prog 10 #[v0] W fun e w' => ∃ u, e = .returned (.tuple #[u, .bool s1]) ∧ Sits (OwByteS W.heap.size w'.heap.size u R) W.heap.size w'.heap.size w' ∧ Below W.heap.size W w') := by
  refine ⟨(cfgM m0.1 m0.2).1, (cfgM m0.1 m0.2).2, ?_, fun W v0 h => ?_, fun W v0 h => ?_⟩
  · unfold cntByteS
    by_cases h : cfgP m0.1 m0.2
    · rw [cfgM_yes h]
      have h1 := lstB_len m0.1
      have h2 := numB_len m0.2.toNat
      have h3 := h.1.2
      simp only [cfgB, List.length_append]
      omega
    · rw [cfgM_no h]; simp
  · obtain ⟨sv, rfl, h⟩ := h
    refine (specConfigPack_any sv m0.1 m0.2 W h).mono ?_
    rintro e w' ⟨⟨u, rfl, hO, -⟩, hB⟩
    exact ⟨u, rfl, hO.sits, hB⟩
  · obtain ⟨sv, rfl, h⟩ := h
    refine (implConfigPack_any sv m0.1 m0.2 W h ok0.1 hs0 ok0.2.1 ok0.2.2).mono ?_
    rintro e w' ⟨⟨u, rfl, hO⟩, hB⟩
    exact ⟨u, rfl, hO.own.sits, hB⟩
end Go.Proofs.Ytioocibgfhgkhaa
