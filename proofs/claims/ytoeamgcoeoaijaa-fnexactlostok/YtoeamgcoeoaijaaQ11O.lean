/- LostOk: what the exact law asks. -/
import Derived.Test.YtoeamgcoeoaijaaLoA
import Derived.Test.YtoeamgcoeoaijaaGaD
namespace Go.Proofs.Ytoeamgcoeoaijaa
open Go.ChangeShapes Go.WideShapes Go.ChangeAt Go.RowKit
set_option linter.unusedVariables false
theorem bothLostOk_ (m0 : List Int × Int) (m1 : List Int) (ok0 : okConfig m0) (ok1 : okIntS m1) (hs0 : sizConfig m0 ≤ 1048576) (hs1 : sizIntS m1 ≤ 1048576) :
    ∃ s0 : Bool, (∀ W v0 v1, RdConfig v0 m0 W → RdIntS v1 m1 W → Calls Try.prog 16 #[v0, v1] W fun e w' => e = .returned (.bool s0) ∧ Below W.heap.size W w') ∧ (∀ W v0 v1, RdConfig v0 m0 W → RdIntS v1 m1 W → Calls Try.prog 19 #[v0, v1] W fun e w' => e = .returned (.bool s0) ∧ Below W.heap.size W w') := by
  obtain ⟨ds, cop⟩ := m0
  obtain ⟨had, c0, c1⟩ := ok0
  unfold sizConfig at hs0
  unfold sizIntS at hs1
  by_cases h : lostP ds cop m1
  · refine ⟨true, fun W v0 v1 h0 h1 => ?_, fun W v0 v1 h0 h1 => ?_⟩
    · obtain ⟨sv, rfl, hc⟩ := h0
      exact (specLost_any sv v1 ds m1 cop W hc h1 (by omega)).mono fun e w' ⟨q1, q2⟩ => ⟨q1.of_yes h, q2⟩
    · obtain ⟨sv, rfl, hc⟩ := h0
      exact (implLost_any sv v1 ds m1 cop W hc h1 had ok1 hs0 hs1 c0 c1).mono fun e w' ⟨q1, q2⟩ => ⟨q1.of_yes h, q2⟩
  · refine ⟨false, fun W v0 v1 h0 h1 => ?_, fun W v0 v1 h0 h1 => ?_⟩
    · obtain ⟨sv, rfl, hc⟩ := h0
      exact (specLost_any sv v1 ds m1 cop W hc h1 (by omega)).mono fun e w' ⟨q1, q2⟩ => ⟨q1.of_no h, q2⟩
    · obtain ⟨sv, rfl, hc⟩ := h0
      exact (implLost_any sv v1 ds m1 cop W hc h1 had ok1 hs0 hs1 c0 c1).mono fun e w' ⟨q1, q2⟩ => ⟨q1.of_no h, q2⟩
end Go.Proofs.Ytoeamgcoeoaijaa
