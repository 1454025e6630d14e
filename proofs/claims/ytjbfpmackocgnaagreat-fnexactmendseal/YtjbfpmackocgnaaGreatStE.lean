/- spec's l6Takes, StorePut. -/
import Derived.Test.YtjbfpmackocgnaaGreatGbG
namespace Go.Proofs.YtjbfpmackocgnaaGreat
open Go.ChangeShapes Go.WideShapes Go.ChangeAt Go.RowKit
set_option linter.unusedVariables false
set_option linter.unusedSimpArgs false
set_option maxRecDepth 100000

/-- A store of nothing. -/
def zeroSt : St := ⟨[], [], 0⟩
theorem OwS.zero (w : World) (base : Nat) : OwS w base (.agg #[.slice none 0 0, .slice none 0 0, .int .i64 0]) zeroSt := ⟨_, _, rfl, .inl ⟨rfl, none, rfl⟩, .inl ⟨rfl, none, rfl⟩, .inl rfl⟩
/-- The boxes of two records and of an answer. -/
theorem OwS.far {w : World} {base : Nat} {v : Value} {s : St} (h : OwS w base v s) {b o : Nat} (hb : b < base) (u : Value) : OwS (w.setCell ⟨b, o, none⟩ u) base v s := by
  obtain ⟨kv, lv, h1, h2, h3, h4⟩ := h
  exact ⟨kv, lv, h1, ApR.far elemE h2 hb u, ApR.far elemE h3 hb u, h4⟩
theorem OwS.shape {w : World} {base : Nat} {v : Value} {s : St} (h : OwS w base v s) : ∃ ka kc la lc, v = .agg #[.slice ka s.kept.length kc, .slice la s.late.length lc, .int .i64 s.lock] := by
  obtain ⟨kv, lv, h1, h2, h3, h4⟩ := h
  obtain ⟨ka, kc, rfl⟩ := ApR.slice elemE h2
  obtain ⟨la, lc, rfl⟩ := ApR.slice elemE h3
  exact ⟨ka, kc, la, lc, h1⟩
end Go.Proofs.YtjbfpmackocgnaaGreat
