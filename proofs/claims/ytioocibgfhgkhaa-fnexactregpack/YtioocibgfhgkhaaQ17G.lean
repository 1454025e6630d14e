/- RegPack: both answers. -/
import Derived.Test.YtioocibgfhgkhaaPiJ
import Derived.Test.YtioocibgfhgkhaaOpenR
import Derived.Test.YtioocibgfhgkhaaSitY
namespace Go.Proofs.Ytioocibgfhgkhaa
open Go.ChangeShapes Go.WideShapes Go.ChangeAt Go.RowKit
set_option linter.unusedVariables false
set_option linter.unusedSimpArgs false

theorem bothRegPack_ (m0 : List Int × Int) (m1 : Rg) (ok0 : okConfig m0) (ok1 : okRegister m1) (hs0 : sizConfig m0 ≤ 1048576) (hs1 : sizRegister m1 ≤ 1048576) : ∃ (R : List UInt8) (s1 : Bool), cntByteS R ≤ 16777216 ∧ (∀ W v0 v1, RdConfig v0 m0 W → RdRegister v1 m1 W → Calls Try.prog 17 #[v0, v1] W fun e w' => ∃ u, e = .returned (.tuple #[u, .bool s1]) ∧ Sits (OwByteS W.heap.size w'.heap.size u R) W.heap.size w'.heap.size w' ∧ Below W.heap.size W w') ∧ (∀ W v0 v1, RdConfig v0 m0 W → RdRegister v1 m1 W → Calls Try.prog 19 #[v0, v1] W fun e w' => ∃ u, e = .returned (.tuple #[u, .bool s1]) ∧ Sits (OwByteS W.heap.size w'.heap.size u R) W.heap.size w'.heap.size w' ∧ Below W.heap.size W w') := by
  refine ⟨(rgM m0.1 m0.2 m1).1, (rgM m0.1 m0.2 m1).2, ?_, fun W v0 v1 h0 h1 => ?_, fun W v0 v1 h0 h1 => ?_⟩
  · unfold cntByteS
    by_cases h : regP m0.1 m0.2 m1
    · rw [rgM_yes h]
      have h1 := ersB_len m1.eras
      have h2 := numB_len m1.trim.toNat
      have h4 := numB_len m1.eras.length
      have h5 := h.2.1
      unfold sizRegister sizEraS at hs1
      simp only [rgB, List.length_append]
      omega
    · rw [rgM_no h]; simp
  · refine (specRegPack_any v0 v1 m0 m1 W h0 h1 ok1.2 hs1).mono ?_
    rintro e w' ⟨⟨u, rfl, hO⟩, hB⟩
    exact ⟨u, rfl, hO.sits, hB⟩
  · refine (implRegPack_any v0 v1 m0 m1 W h0 h1 ok0 ok1 hs0 hs1).mono ?_
    rintro e w' ⟨⟨u, rfl, hO⟩, hB⟩
    exact ⟨u, rfl, hO.own.sits, hB⟩
end Go.Proofs.Ytioocibgfhgkhaa
