/- WriterOk: spec's and impl's answers, as the law asks for them. -/
import Derived.Test.YtfipenjojgflmaaWrF
namespace Go.Proofs.Ytfipenjojgflmaa
open Go.ChangeShapes Go.WideShapes Go.ChangeAt Go.RowKit
set_option linter.unusedVariables false

theorem bothWriterOk_ (m0 : List Int × Int) (m1 : Wt) (ok0 : okConfig m0) (ok1 : okWriter m1) (hs0 : sizConfig m0 ≤ 1048576) (hs1 : sizWriter m1 ≤ 1048576) : ∃ (s0 : Bool), (∀ W v0 v1, RdConfig v0 m0 W → RdWriter v1 m1 W → Calls Try.prog 31 #[v0, v1] W fun e w' => e = .returned (.bool s0) ∧ Below W.heap.size W w') ∧ (∀ W v0 v1, RdConfig v0 m0 W → RdWriter v1 m1 W → Calls Try.prog 17 #[v0, v1] W fun e w' => e = .returned (.bool s0) ∧ Below W.heap.size W w') := by
  by_cases h : wrP m0.1 m0.2 m1
  · exact ⟨true, fun W v0 v1 h0 h1 => retB_yes (specWriterOk_any v0 v1 m0 m1 W h0 h1 hs1) h, fun W v0 v1 h0 h1 => retB_yes (implWriterOk_any v0 v1 m0 m1 W h0 h1 ok0 ok1 hs0 hs1) h⟩
  · exact ⟨false, fun W v0 v1 h0 h1 => retB_no (specWriterOk_any v0 v1 m0 m1 W h0 h1 hs1) h, fun W v0 v1 h0 h1 => retB_no (implWriterOk_any v0 v1 m0 m1 W h0 h1 ok0 ok1 hs0 hs1) h⟩
end Go.Proofs.Ytfipenjojgflmaa
