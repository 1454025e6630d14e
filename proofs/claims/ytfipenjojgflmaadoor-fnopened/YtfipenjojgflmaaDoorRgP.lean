/- Registers drawn: DrawRegTrim. -/
import Derived.Test.YtfipenjojgflmaaDoorRgL
namespace Go.Proofs.YtfipenjojgflmaaDoor
open Go.ChangeShapes Go.WideShapes Go.ChangeAt Go.RowKit
set_option linter.unusedVariables false
set_option linter.unusedSimpArgs false
set_option maxRecDepth 100000

/-- A configuration and a register that were drawn. -/
def Drew7 (W : World) (cv rv : Value) (ds : List Int) (cop : Int) (m : Rg) : Prop := (∃ ca cc, cv = .agg #[.slice ca ds.length cc, .int .i64 cop] ∧ Ns W (.slice ca ds.length cc) ds) ∧ ds.length ≤ 9 ∧ (∀ d ∈ ds, -1 ≤ d ∧ d ≤ 8) ∧ (0 ≤ cop ∧ cop ≤ 5) ∧ (∃ a c, rv = .agg #[.slice a m.eras.length c, .int .i64 m.trim]) ∧ RdRegister rv m W ∧ fitD 40 m
theorem Drew7.below {W W' : World} {cv rv : Value} {ds : List Int} {cop : Int} {m : Rg} (h : Drew7 W cv rv ds cop m) (hb : Below W.heap.size W W') : Drew7 W' cv rv ds cop m := by
  obtain ⟨⟨ca, cc, h1, h2⟩, h3, h4, h5, h6, h7, h8⟩ := h
  exact ⟨⟨ca, cc, h1, h2.below hb⟩, h3, h4, h5, h6, h7.below hb, h8⟩
end Go.Proofs.YtfipenjojgflmaaDoor
