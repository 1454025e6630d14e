/- The cells of a block that holds a record. -/
import Derived.Test.YtmgomacmaidmlaaGreatDoorFourP
namespace Go.Proofs.YtmgomacmaidmlaaGreatDoor
open Go.ChangeShapes Go.WideShapes Go.ChangeAt Go.RowKit
set_option linter.unusedVariables false

/-- The cells of block b. -/
def Bx (w : World) (b : Nat) (vs : List Value) : Prop := ∀ i v, vs[i]? = some v → w.cell? ⟨b, i, none⟩ = some v
theorem Bx.below {w w' : World} {b : Nat} {vs : List Value} (h : Bx w b vs) (hb : Below w.heap.size w w') : Bx w' b vs := fun i v hv => (hb.cell (p := ⟨b, i, none⟩) (dCell_lt (h i v hv))).trans (h i v hv)
theorem Bx.new (w : World) (vs : List Value) (T : TypeId) : Bx (w.alloc (.cells vs.toArray T)) w.heap.size vs := fun i v hv => by
  have := MapKept.heap_alloc w (.cells vs.toArray T)
  simp only [World.cell?, this.1]
  simpa using hv
/-- .. and may be written; from block B on. -/
def BxZ (w : World) (B b : Nat) (vs : List Value) : Prop := B ≤ b ∧ ∀ i v, vs[i]? = some v → w.cell? ⟨b, i, none⟩ = some v ∧ w.frozen? ⟨b, i, none⟩ = false
theorem BxZ.bx {w : World} {B b : Nat} {vs : List Value} (h : BxZ w B b vs) : Bx w b vs := fun i v hv => (h.2 i v hv).1
theorem BxZ.below {w w' : World} {B b : Nat} {vs : List Value} (h : BxZ w B b vs) (hb : Below w.heap.size w w') : BxZ w' B b vs :=
  ⟨h.1, fun i v hv => ⟨(hb.cell (p := ⟨b, i, none⟩) (dCell_lt (h.2 i v hv).1)).trans (h.2 i v hv).1, (hb.frozen (p := ⟨b, i, none⟩) (dCell_lt (h.2 i v hv).1)).trans (h.2 i v hv).2⟩⟩
theorem BxZ.new (w : World) (vs : List Value) (T : TypeId) {B : Nat} (hB : B ≤ w.heap.size) : BxZ (w.alloc (.cells vs.toArray T)) B w.heap.size vs := by
  refine ⟨hB, fun i v hv => ⟨Bx.new w vs T i v hv, ?_⟩⟩
  have := MapKept.heap_alloc w (.cells vs.toArray T)
  simp only [World.frozen?, this.1]
  simp
theorem BxZ.lt {w : World} {B b : Nat} {v : Value} {vs : List Value} (h : BxZ w B b (v :: vs)) : b < w.heap.size := dCell_lt (h.2 0 v rfl).1
theorem BxZ.put {w : World} {B b : Nat} {vs : List Value} (h : BxZ w B b vs) (i : Nat) (u : Value) : BxZ (w.setCell ⟨b, i, none⟩ u) B b (vs.set i u) := by
  refine ⟨h.1, fun j v hv => ?_⟩
  by_cases e : j = i
  · subst e
    have hj : j < vs.length := by
      rcases Nat.lt_or_ge j vs.length with h' | h'
      · exact h'
      · rw [List.getElem?_eq_none (by simpa using h')] at hv
        cases hv
    rw [List.getElem?_set_self hj] at hv
    cases hv
    obtain ⟨h1, h2⟩ := h.2 j vs[j] (List.getElem?_eq_getElem hj)
    exact ⟨World.cell?_setCell_same _ _ _ h1, (World.frozen?_setCell _ _ _ _).trans h2⟩
  · rw [List.getElem?_set_ne (by omega)] at hv
    obtain ⟨h1, h2⟩ := h.2 j v hv
    exact ⟨set_other h1 (by omega), (World.frozen?_setCell _ _ _ _).trans h2⟩
theorem BxZ.far {w : World} {B b b' o : Nat} {vs : List Value} (h : BxZ w B b vs) (hb : b ≠ b') (u : Value) : BxZ (w.setCell ⟨b', o, none⟩ u) B b vs :=
  ⟨h.1, fun i v hv => ⟨set_other (h.2 i v hv).1 (.inl hb), (World.frozen?_setCell _ _ _ _).trans (h.2 i v hv).2⟩⟩
theorem BxZ.drawn {w w' : World} {bk B b : Nat} {vs : List Value} (h : BxZ w B b vs) (hd : Drawn bk w w') (hb : b ≠ bk) : BxZ w' B b vs :=
  ⟨h.1, fun i v hv => ⟨hd.cell (h.2 i v hv).1 hb, (hd.frozen hb (dCell_lt (h.2 i v hv).1)).trans (h.2 i v hv).2⟩⟩
theorem Bx.drawn {w w' : World} {bk b : Nat} {vs : List Value} (h : Bx w b vs) (hd : Drawn bk w w') (hb : b ≠ bk) : Bx w' b vs := fun i v hv => hd.cell (h i v hv) hb
theorem BxZ.grown {w w' : World} {B b : Nat} {vs : List Value} {row : Option Nat} (h : BxZ w B b vs) (g : w.grownBy w' row) (hn : row ≠ some b) : BxZ w' B b vs :=
  ⟨h.1, fun i v hv => by
    have e := g.block b (dCell_lt (h.2 i v hv).1) (fun e => hn e.symm)
    exact ⟨(World.cell?_of_block (a := ⟨b, i, none⟩) e).trans (h.2 i v hv).1, (World.frozen?_of_block (a := ⟨b, i, none⟩) e).trans (h.2 i v hv).2⟩⟩
theorem Bx.grown {w w' : World} {b : Nat} {vs : List Value} {row : Option Nat} (h : Bx w b vs) (g : w.grownBy w' row) (hn : row ≠ some b) : Bx w' b vs := fun i v hv =>
  (World.cell?_of_block (a := ⟨b, i, none⟩) (g.block b (dCell_lt (h i v hv)) (fun e => hn e.symm))).trans (h i v hv)
theorem BxZ.drew' {w : World} {B b : Nat} {vs : List Value} (h : BxZ w B b vs) : BxZ w.drew B b vs := h
end Go.Proofs.YtmgomacmaidmlaaGreatDoor
