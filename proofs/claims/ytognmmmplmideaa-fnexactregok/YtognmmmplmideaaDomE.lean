/- spec's SpanOf, Rest. -/
import Derived.Test.YtognmmmplmideaaDomD
namespace Go.Proofs.Ytognmmmplmideaa
open Go.ChangeShapes Go.WideShapes Go.ChangeAt Go.RowKit
set_option linter.unusedVariables false

/-- Two cells of a block. -/
def Two (w : World) (b : Nat) (c0 c1 : Value) : Prop := w.cell? ⟨b, 0, none⟩ = some c0 ∧ w.cell? ⟨b, 1, none⟩ = some c1
theorem Two.kept {w w' : World} {b : Nat} {c0 c1 : Value} (h : Two w b c0 c1) (hb : Below w.heap.size w w') : Two w' b c0 c1 := by
  have lt := dCell_lt h.1
  exact ⟨(hb.cell (p := ⟨b, 0, none⟩) lt).trans h.1, (hb.cell (p := ⟨b, 1, none⟩) lt).trans h.2⟩
theorem Two.new (w : World) (c0 c1 : Value) (T : TypeId) : Two (w.alloc (.cells #[c0, c1] T)) w.heap.size c0 c1 := ⟨by simp, by simp⟩
end Go.Proofs.Ytognmmmplmideaa
