/- Writers drawn: DrawWriterForget. -/
import Derived.Test.YtjbfpmackocgnaaDwE
import Derived.Deep.RegionHeld3
namespace Go.Proofs.Ytjbfpmackocgnaa
open Go.ChangeShapes Go.WideShapes Go.ChangeAt Go.RowKit
set_option linter.unusedVariables false
set_option linter.unusedSimpArgs false
set_option maxRecDepth 100000

/-- A configuration and a writer that were drawn. -/
def Drew8 (W : World) (cv rv : Value) (ds : List Int) (cop : Int) (m : Wt) : Prop := (∃ ca cc, cv = .agg #[.slice ca ds.length cc, .int .i64 cop] ∧ Ns W (.slice ca ds.length cc) ds) ∧ ds.length ≤ 9 ∧ (∀ d ∈ ds, -1 ≤ d ∧ d ≤ 8) ∧ (0 ≤ cop ∧ cop ≤ 5) ∧ (∃ a c, rv = .agg #[.int .i64 m.epoch, .slice a m.words.length c]) ∧ RdWriter rv m W ∧ fitW 60 m
theorem Drew8.below {W W' : World} {cv rv : Value} {ds : List Int} {cop : Int} {m : Wt} (h : Drew8 W cv rv ds cop m) (hb : Below W.heap.size W W') : Drew8 W' cv rv ds cop m := by
  obtain ⟨⟨ca, cc, h1, h2⟩, h3, h4, h5, h6, h7, h8⟩ := h
  exact ⟨⟨ca, cc, h1, h2.below hb⟩, h3, h4, h5, h6, h7.below hb, h8⟩
end Go.Proofs.Ytjbfpmackocgnaa
