/- WriterSure: spec's and impl's answers, as the law asks for them. -/
import Derived.Test.YtfipenjojgflmaaWrB
import Derived.Test.YtfipenjojgflmaaOpenW
namespace Go.Proofs.Ytfipenjojgflmaa
open Go.ChangeShapes Go.WideShapes Go.ChangeAt Go.RowKit
set_option linter.unusedVariables false

theorem words_le {m : Wt} (h : sizWriter m ≤ 1048576) : m.words.length ≤ 1048576 := by unfold sizWriter sizWordS at h; omega
theorem bothWriterSure_ (m0 : Wt) (ok0 : okWriter m0) (hs0 : sizWriter m0 ≤ 1048576) : ∃ (s0 : Int), (∀ W v0, RdWriter v0 m0 W → Calls Try.prog 23 #[v0] W fun e w' => e = .returned (.int .i64 s0) ∧ Below W.heap.size W w') ∧ (∀ W v0, RdWriter v0 m0 W → Calls Try.prog 16 #[v0] W fun e w' => e = .returned (.int .i64 s0) ∧ Below W.heap.size W w') :=
  ⟨_, fun W v0 h => specSure_any v0 m0 W h, fun W v0 h => implSure_any v0 m0 W (by have := words_le hs0; omega) h⟩
end Go.Proofs.Ytfipenjojgflmaa
