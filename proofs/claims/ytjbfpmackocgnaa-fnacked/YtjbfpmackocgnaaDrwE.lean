/- A drawn config and list: l4DrawOne, DrawSpanOf. -/
import Derived.Test.YtjbfpmackocgnaaDrwD
namespace Go.Proofs.Ytjbfpmackocgnaa
open Go.ChangeShapes Go.WideShapes Go.ChangeAt Go.RowKit
set_option linter.unusedVariables false
set_option linter.unusedSimpArgs false

/-- A config that was drawn, in new memory. -/
def DrewC (B : Nat) (c : Value) (ds : List Int) (cop : Int) (W : World) : Prop := ∃ sv, c = .agg #[sv, .int .i64 cop] ∧ OwnN W B sv ds ∧ ds.length ≤ 9 ∧ allInt ds ∧ 0 ≤ cop ∧ cop ≤ 5
/-- A list that was drawn, in new memory. -/
def DrewL (B : Nat) (u : Value) (zs : List Int) (W : World) : Prop := OwnN W B u zs ∧ zs.length ≤ 20 ∧ allInt zs
theorem DrewC.below {B : Nat} {c : Value} {ds : List Int} {cop : Int} {W W' : World} (h : DrewC B c ds cop W) (b : Below W.heap.size W W') : DrewC B c ds cop W' := by
  obtain ⟨sv, h1, h2, h3⟩ := h; exact ⟨sv, h1, h2.below b, h3⟩
theorem DrewL.below {B : Nat} {u : Value} {zs : List Int} {W W' : World} (h : DrewL B u zs W) (b : Below W.heap.size W W') : DrewL B u zs W' := ⟨h.1.below b, h.2⟩
theorem OwnN.blk {w : World} {base : Nat} {v : Value} {xs : List Int} (h : OwnN w base v xs) : xs = [] ∨ base ≤ blockOf v := by
  obtain ⟨-, a, cap, rfl, -, h⟩ := h
  rcases h with h | ⟨b, off, rfl, hb, hc⟩
  · exact .inl h
  · exact .inr hb
theorem OwnN.drawn {bk : Nat} {w w' : World} {base : Nat} {v : Value} {xs : List Int} (h : OwnN w base v xs) (hd : Drawn bk w w') (hb : bk < base) : OwnN w' base v xs := by
  obtain ⟨h0, a, cap, rfl, hcap, h⟩ := h
  refine ⟨h0, a, cap, rfl, hcap, ?_⟩
  rcases h with h | ⟨b, off, rfl, hbb, hc⟩
  · exact .inl h
  · exact .inr ⟨b, off, rfl, hbb, fun i hi => ⟨hd.cell (hc i hi).1 (by omega), (hd.frozen (by omega) (dCell_lt (hc i hi).1)).trans (hc i hi).2⟩⟩
theorem DrewC.far {B : Nat} {c : Value} {ds : List Int} {cop : Int} {W : World} (h : DrewC B c ds cop W) {b o : Nat} (hb : b < B) (u : Value) : DrewC B c ds cop (W.setCell ⟨b, o, none⟩ u) := by
  obtain ⟨sv, h1, h2, h3⟩ := h; exact ⟨sv, h1, h2.far hb u, h3⟩
theorem DrewL.far {B : Nat} {v : Value} {zs : List Int} {W : World} (h : DrewL B v zs W) {b o : Nat} (hb : b < B) (u : Value) : DrewL B v zs (W.setCell ⟨b, o, none⟩ u) := ⟨h.1.far hb u, h.2⟩
theorem DrewC.mono {B B' : Nat} {c : Value} {ds : List Int} {cop : Int} {W : World} (h : DrewC B c ds cop W) (hb : B' ≤ B) : DrewC B' c ds cop W := by
  obtain ⟨sv, h1, h2, h3⟩ := h; exact ⟨sv, h1, h2.mono hb, h3⟩
theorem DrewL.mono {B B' : Nat} {v : Value} {zs : List Int} {W : World} (h : DrewL B v zs W) (hb : B' ≤ B) : DrewL B' v zs W := ⟨h.1.mono hb, h.2⟩
end Go.Proofs.Ytjbfpmackocgnaa
