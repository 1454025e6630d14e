/- Rows of eras whose whole block is ours, the spare room too: so that they may be appended to. -/
import Derived.Test.YtjkjmapibcfcdaaGreatRgD
namespace Go.Proofs.YtjkjmapibcfcdaaGreat
open Go.ChangeShapes Go.WideShapes Go.ChangeAt Go.RowKit
set_option linter.unusedVariables false

def Full (w : World) (base : Nat) (v : Value) : Prop :=
 (∃ a, v = .slice a 0 0) ∨ ∃ g n cap cur, v = .slice (some ⟨g, 0, none⟩) n cap ∧ base ≤ g ∧ w.heap[g]? = some (.cells cur 98 (0, 0)) ∧ n ≤ cap ∧ cap ≤ maxLen ∧ cur.size = cap * 3
theorem NAp.full {w : World} {base : Nat} {v : Value} {ms : List Er} (h : NAp w base v ms) : Full w base v := by
 obtain ⟨rs, -, h, -⟩ := h
 rcases h with ⟨-, a, rfl⟩ | h
 ·exact .inl ⟨a, rfl⟩
 ·rcases h.2 with ⟨rfl, -⟩ | ⟨g, cap, cur, rfl, hb, hg, hn, hc, hs, -⟩
  ·exact .inl ⟨none, rfl⟩
  ·exact .inr ⟨g, _, cap, cur, rfl, hb, hg, hn, hc, hs⟩
theorem Full.mono {w : World} {base base' : Nat} {v : Value} (h : Full w base v) (hb : base' ≤ base) : Full w base' v := by
 rcases h with h | ⟨g, n, cap, cur, rfl, h0, h⟩
 ·exact .inl h
 ·exact .inr ⟨g, n, cap, cur, rfl, by omega, h⟩
theorem Full.below {w w' : World} {base : Nat} {v : Value} (h : Full w base v) (hb : Below w.heap.size w w') : Full w' base v := by
 rcases h with h | ⟨g, n, cap, cur, rfl, h0, hg, h⟩
 ·exact .inl h
 ·exact .inr ⟨g, n, cap, cur, rfl, h0, (hb.block g (Array.getElem?_eq_some_iff.1 hg).1).trans hg, h⟩
theorem Full.drawn {bk : Nat} {w w' : World} {base : Nat} {v : Value} (h : Full w base v) (hd : Drawn bk w w') (hb : bk < base) : Full w' base v := by
 rcases h with h | ⟨g, n, cap, cur, rfl, h0, hg, h⟩
 ·exact .inl h
 ·exact .inr ⟨g, n, cap, cur, rfl, h0, (hd.block g (Array.getElem?_eq_some_iff.1 hg).1 (by omega)).trans hg, h⟩
theorem Full.set {w : World} {base : Nat} {v : Value} (h : Full w base v) (b o : Nat) (u : Value) : Full (w.setCell ⟨b, o, none⟩ u) base v := by
 rcases h with h | ⟨g, n, cap, cur, rfl, h0, hg, hn, hc, hs⟩
 ·exact .inl h
 ·by_cases e : b = g
  ·subst e
   refine .inr ⟨b, n, cap, cur.setIfInBounds o u, rfl, h0, ?_, hn, hc, by simpa using hs⟩
   simp only [World.setCell, Array.getElem?_modify, if_true, hg]
   rfl
  ·exact .inr ⟨g, n, cap, cur, rfl, h0, (Below.heap_setCell w ⟨b, o, none⟩ u g (fun e' => e e'.symm)).trans hg, hn, hc, hs⟩
theorem Full.drew {w : World} {base : Nat} {v : Value} (h : Full w base v) : Full w.drew base v := h.below (Below.refl _ _).drew
def FullR (w : World) (base : Nat) (v : Value) : Prop := ∃ sv t, v = .agg #[sv, t] ∧ Full w base sv
theorem FullR.below {w w' : World} {base : Nat} {v : Value} (h : FullR w base v) (hb : Below w.heap.size w w') : FullR w' base v := by
 obtain ⟨sv, t, h1, h2⟩ := h
 exact ⟨sv, t, h1, h2.below hb⟩
end Go.Proofs.YtjkjmapibcfcdaaGreat
