/- Eras that are read, in memory from a block on. -/
import Derived.Test.YtfipenjojgflmaaDoorRgJ
namespace Go.Proofs.YtfipenjojgflmaaDoor
open Go.ChangeShapes Go.WideShapes Go.ChangeAt Go.RowKit
set_option linter.unusedVariables false
set_option linter.unusedSimpArgs false
set_option maxRecDepth 100000

/-- Eras in memory from lo on; their lists may be shared. -/
def RdO (lo : Nat) (v : Value) (ms : List Er) (W : World) : Prop := ∃ rs : List (Nst Er), rs.map Nst.m = ms ∧ OwnRw 3 erCl W lo v rs ∧ ∀ p ∈ rs, OwnN W lo (Sv Er.nodes p) p.m.nodes
section
variable {lo lo' hi bk : Nat} {v : Value} {ms : List Er} {W W' : World}
theorem RdO.rd (h : RdO lo v ms W) : RdEraS v ms W := by
  obtain ⟨rs, h1, h2, h3⟩ := h
  exact ⟨rs, h1, h2.rw, fun p hp => (h3 p hp).bs⟩
theorem RdO.of (h : OwEraS lo hi v ms W) : RdO lo v ms W := by
  obtain ⟨rs, h1, h2, -, h4, -⟩ := h
  exact ⟨rs, h1, h2, fun p hp => (h4 p hp).1⟩
theorem RdO.mono (h : RdO lo v ms W) (hl : lo' ≤ lo) : RdO lo' v ms W := by
  obtain ⟨rs, h1, h2, h3⟩ := h
  exact ⟨rs, h1, h2.mono hl, fun p hp => (h3 p hp).mono hl⟩
theorem RdO.below (h : RdO lo v ms W) (hb : Below W.heap.size W W') : RdO lo v ms W' := by
  obtain ⟨rs, h1, h2, h3⟩ := h
  exact ⟨rs, h1, h2.below hb, fun p hp => (h3 p hp).below hb⟩
theorem OwnRw.drawnE {rs : List (Nst Er)} (h : OwnRw 3 erCl W lo v rs) (hd : Drawn bk W W') (hb : bk < lo) : OwnRw 3 erCl W' lo v rs := by
  obtain ⟨h0, a, cap, rfl, hcap, h⟩ := h
  refine ⟨h0, a, cap, rfl, hcap, ?_⟩
  rcases h with h | ⟨b, off, rfl, hl, hc⟩
  · exact .inl h
  · exact .inr ⟨b, off, rfl, hl, fun i hi j u hu => by
      obtain ⟨c1, c2⟩ := hc i hi j u hu
      exact ⟨hd.cell c1 (by omega), (hd.frozen (by omega) (dCell_lt c1)).trans c2⟩⟩
theorem RdO.drawn (h : RdO lo v ms W) (hd : Drawn bk W W') (hb : bk < lo) : RdO lo v ms W' := by
  obtain ⟨rs, h1, h2, h3⟩ := h
  exact ⟨rs, h1, h2.drawnE hd hb, fun p hp => (h3 p hp).drawn hd hb⟩
theorem OwnRw.farR {rs : List (Nst Er)} (h : OwnRw 3 erCl W lo v rs) {b o : Nat} (hb : b < lo) (u : Value) : OwnRw 3 erCl (W.setCell ⟨b, o, none⟩ u) lo v rs := by
  obtain ⟨h0, a, cap, rfl, hcap, h⟩ := h
  refine ⟨h0, a, cap, rfl, hcap, ?_⟩
  rcases h with h | ⟨b', off, rfl, hl, hc⟩
  · exact .inl h
  · exact .inr ⟨b', off, rfl, hl, fun i hi j x hx => by
      obtain ⟨c1, c2⟩ := hc i hi j x hx
      exact ⟨set_other c1 (.inl (by omega)), (World.frozen?_of_block (a := ⟨b', off + i * 3 + j, none⟩) (Below.heap_setCell W ⟨b, o, none⟩ u b' (by simp only; omega))).trans c2⟩⟩
theorem RdO.far (h : RdO lo v ms W) {b o : Nat} (hb : b < lo) (u : Value) : RdO lo v ms (W.setCell ⟨b, o, none⟩ u) := by
  obtain ⟨rs, h1, h2, h3⟩ := h
  exact ⟨rs, h1, h2.farR hb u, fun p hp => (h3 p hp).far hb u⟩
end
end Go.Proofs.YtfipenjojgflmaaDoor
