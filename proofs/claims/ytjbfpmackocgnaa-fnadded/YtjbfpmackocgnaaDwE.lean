/- Writers drawn: DrawWriterSure. -/
import Derived.Test.YtjbfpmackocgnaaDwD
namespace Go.Proofs.Ytjbfpmackocgnaa
open Go.ChangeShapes Go.WideShapes Go.ChangeAt Go.RowKit
set_option linter.unusedVariables false
set_option linter.unusedSimpArgs false
set_option maxRecDepth 100000

theorem RdW.shape {lo : Nat} {v : Value} {ms : List Wd} {W : World} (h : RdW lo v ms W) : ∃ a c, v = .slice a ms.length c := by
  obtain ⟨rs, rfl, ⟨-, a, c, rfl, -⟩, -⟩ := h
  exact ⟨a, c, by rw [List.length_map]⟩
end Go.Proofs.Ytjbfpmackocgnaa
