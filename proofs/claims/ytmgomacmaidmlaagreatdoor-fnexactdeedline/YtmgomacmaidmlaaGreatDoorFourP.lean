/- Four cells of one block: a struct of four fields in memory. -/
import Derived.Test.YtmgomacmaidmlaaGreatDoorBytesP
namespace Go.Proofs.YtmgomacmaidmlaaGreatDoor
open Go.ChangeShapes Go.WideShapes Go.ChangeAt Go.RowKit
set_option linter.unusedVariables false

theorem new_cell (w : World) (vs : Array Value) (T : TypeId) (i : Nat) : (w.alloc (.cells vs T)).cell? ⟨w.heap.size, i, none⟩ = vs[i]? := by simp
theorem four_set {w : World} {b : Nat} {u0 u1 u2 u3 : Value} (v0 v1 v2 v3 : Value) (c0 : w.cell? ⟨b, 0, none⟩ = some u0) (c1 : w.cell? ⟨b, 1, none⟩ = some u1) (c2 : w.cell? ⟨b, 2, none⟩ = some u2) (c3 : w.cell? ⟨b, 3, none⟩ = some u3) :
    ((((w.setCell ⟨b, 0, none⟩ v0).setCell ⟨b, 1, none⟩ v1).setCell ⟨b, 2, none⟩ v2).setCell ⟨b, 3, none⟩ v3).cell? ⟨b, 0, none⟩ = some v0 ∧
    ((((w.setCell ⟨b, 0, none⟩ v0).setCell ⟨b, 1, none⟩ v1).setCell ⟨b, 2, none⟩ v2).setCell ⟨b, 3, none⟩ v3).cell? ⟨b, 1, none⟩ = some v1 ∧
    ((((w.setCell ⟨b, 0, none⟩ v0).setCell ⟨b, 1, none⟩ v1).setCell ⟨b, 2, none⟩ v2).setCell ⟨b, 3, none⟩ v3).cell? ⟨b, 2, none⟩ = some v2 ∧
    ((((w.setCell ⟨b, 0, none⟩ v0).setCell ⟨b, 1, none⟩ v1).setCell ⟨b, 2, none⟩ v2).setCell ⟨b, 3, none⟩ v3).cell? ⟨b, 3, none⟩ = some v3 :=
  ⟨set_other (set_other (set_other (World.cell?_setCell_same _ _ _ c0) (by omega)) (by omega)) (by omega),
   set_other (set_other (World.cell?_setCell_same _ _ _ (set_other c1 (by omega))) (by omega)) (by omega),
   set_other (World.cell?_setCell_same _ _ _ (set_other (set_other c2 (by omega)) (by omega))) (by omega),
   World.cell?_setCell_same _ _ _ (set_other (set_other (set_other c3 (by omega)) (by omega)) (by omega))⟩
/-- Four cells of block b. -/
def Four (w : World) (b : Nat) (c0 c1 c2 c3 : Value) : Prop := w.cell? ⟨b, 0, none⟩ = some c0 ∧ w.cell? ⟨b, 1, none⟩ = some c1 ∧ w.cell? ⟨b, 2, none⟩ = some c2 ∧ w.cell? ⟨b, 3, none⟩ = some c3
theorem Four.kept {w w' : World} {b : Nat} {c0 c1 c2 c3 : Value} (h : Four w b c0 c1 c2 c3) (hb : Below w.heap.size w w') : Four w' b c0 c1 c2 c3 := by
  obtain ⟨h0, h1, h2, h3⟩ := h
  have lt := dCell_lt h0
  exact ⟨(hb.cell (p := ⟨b, 0, none⟩) lt).trans h0, (hb.cell (p := ⟨b, 1, none⟩) lt).trans h1, (hb.cell (p := ⟨b, 2, none⟩) lt).trans h2, (hb.cell (p := ⟨b, 3, none⟩) lt).trans h3⟩
theorem Four.new (w : World) (c0 c1 c2 c3 : Value) (T : TypeId) : Four (w.alloc (.cells #[c0, c1, c2, c3] T)) w.heap.size c0 c1 c2 c3 := ⟨by simp, by simp, by simp, by simp⟩
theorem belowThen {w0 w w' : World} (h : Below w0.heap.size w0 w) (k : Below w.heap.size w w') : Below w0.heap.size w0 w' := h.trans (k.mono h.size)
/-- Four cells of block b, from block B on, that may be written. -/
def FourZ (w : World) (B b : Nat) (c0 c1 c2 c3 : Value) : Prop := B ≤ b ∧ Four w b c0 c1 c2 c3 ∧ w.frozen? ⟨b, 0, none⟩ = false ∧ w.frozen? ⟨b, 1, none⟩ = false ∧ w.frozen? ⟨b, 2, none⟩ = false ∧ w.frozen? ⟨b, 3, none⟩ = false
theorem FourZ.kept {w w' : World} {B b : Nat} {c0 c1 c2 c3 : Value} (h : FourZ w B b c0 c1 c2 c3) (hb : Below w.heap.size w w') : FourZ w' B b c0 c1 c2 c3 := by
  obtain ⟨h0, h1, f0, f1, f2, f3⟩ := h
  have lt := dCell_lt h1.1
  exact ⟨h0, h1.kept hb, (hb.frozen (p := ⟨b, 0, none⟩) lt).trans f0, (hb.frozen (p := ⟨b, 1, none⟩) lt).trans f1, (hb.frozen (p := ⟨b, 2, none⟩) lt).trans f2, (hb.frozen (p := ⟨b, 3, none⟩) lt).trans f3⟩
theorem FourZ.new {w w' : World} {B : Nat} {c0 c1 c2 c3 : Value} {T : TypeId} (h : B ≤ w.heap.size) (hb : Below (w.alloc (.cells #[c0, c1, c2, c3] T)).heap.size (w.alloc (.cells #[c0, c1, c2, c3] T)) w') : FourZ w' B w.heap.size c0 c1 c2 c3 := by
  refine FourZ.kept (w := w.alloc (.cells #[c0, c1, c2, c3] T)) ⟨h, Four.new w _ _ _ _ _, ?_, ?_, ?_, ?_⟩ hb
  all_goals simp
theorem FourZ.newD {w w' : World} {B : Nat} {c0 c1 c2 c3 : Value} {T : TypeId} (h : B ≤ w.heap.size) (hb : Below (w.alloc (.cells #[c0, c1, c2, c3] T)).drew.heap.size (w.alloc (.cells #[c0, c1, c2, c3] T)).drew w') : FourZ w' B w.heap.size c0 c1 c2 c3 :=
  FourZ.new (T := T) h ⟨hb.os, hb.tape, hb.output, hb.size, hb.block⟩
theorem FourZ.set {w : World} {B b : Nat} {c0 c1 c2 c3 : Value} (h : FourZ w B b c0 c1 c2 c3) (v0 v1 v2 v3 : Value) :
    Four ((((w.setCell ⟨b, 0, none⟩ v0).setCell ⟨b, 1, none⟩ v1).setCell ⟨b, 2, none⟩ v2).setCell ⟨b, 3, none⟩ v3) b v0 v1 v2 v3 := four_set v0 v1 v2 v3 h.2.1.1 h.2.1.2.1 h.2.1.2.2.1 h.2.1.2.2.2
theorem FourZ.below {w0 w : World} {b : Nat} {c0 c1 c2 c3 : Value} (h : FourZ w w0.heap.size b c0 c1 c2 c3) (hb : Below w0.heap.size w0 w) (v0 v1 v2 v3 : Value) :
    Below w0.heap.size w0 ((((w.setCell ⟨b, 0, none⟩ v0).setCell ⟨b, 1, none⟩ v1).setCell ⟨b, 2, none⟩ v2).setCell ⟨b, 3, none⟩ v3) :=
  (((hb.setCell (p := ⟨b, 0, none⟩) h.1 _).setCell (p := ⟨b, 1, none⟩) h.1 _).setCell (p := ⟨b, 2, none⟩) h.1 _).setCell (p := ⟨b, 3, none⟩) h.1 _
theorem Four.drawn {w w' : World} {bk b : Nat} {c0 c1 c2 c3 : Value} (h : Four w b c0 c1 c2 c3) (hd : Drawn bk w w') (hb : b ≠ bk) : Four w' b c0 c1 c2 c3 :=
  ⟨hd.cell h.1 hb, hd.cell h.2.1 hb, hd.cell h.2.2.1 hb, hd.cell h.2.2.2 hb⟩
theorem FourZ.drawn {w w' : World} {bk B b : Nat} {c0 c1 c2 c3 : Value} (h : FourZ w B b c0 c1 c2 c3) (hd : Drawn bk w w') (hb : b ≠ bk) : FourZ w' B b c0 c1 c2 c3 := by
  obtain ⟨h0, h1, f0, f1, f2, f3⟩ := h
  have lt := dCell_lt h1.1
  exact ⟨h0, h1.drawn hd hb, (hd.frozen hb lt).trans f0, (hd.frozen hb lt).trans f1, (hd.frozen hb lt).trans f2, (hd.frozen hb lt).trans f3⟩
theorem FourZ.fresh (w : World) (c0 c1 c2 c3 : Value) (T : TypeId) : FourZ (w.alloc (.cells #[c0, c1, c2, c3] T)) w.heap.size w.heap.size c0 c1 c2 c3 := FourZ.new (Nat.le_refl _) (Below.refl _ _)
theorem FourZ.put0 {w : World} {B b : Nat} {c0 c1 c2 c3 : Value} (h : FourZ w B b c0 c1 c2 c3) (v : Value) : FourZ (w.setCell ⟨b, 0, none⟩ v) B b v c1 c2 c3 := by
  obtain ⟨h0, ⟨k0, k1, k2, k3⟩, f0, f1, f2, f3⟩ := h
  exact ⟨h0, ⟨World.cell?_setCell_same _ _ _ k0, set_other k1 (by omega), set_other k2 (by omega), set_other k3 (by omega)⟩, (World.frozen?_setCell _ _ _ _).trans f0, (World.frozen?_setCell _ _ _ _).trans f1, (World.frozen?_setCell _ _ _ _).trans f2, (World.frozen?_setCell _ _ _ _).trans f3⟩
theorem FourZ.put1 {w : World} {B b : Nat} {c0 c1 c2 c3 : Value} (h : FourZ w B b c0 c1 c2 c3) (v : Value) : FourZ (w.setCell ⟨b, 1, none⟩ v) B b c0 v c2 c3 := by
  obtain ⟨h0, ⟨k0, k1, k2, k3⟩, f0, f1, f2, f3⟩ := h
  exact ⟨h0, ⟨set_other k0 (by omega), World.cell?_setCell_same _ _ _ k1, set_other k2 (by omega), set_other k3 (by omega)⟩, (World.frozen?_setCell _ _ _ _).trans f0, (World.frozen?_setCell _ _ _ _).trans f1, (World.frozen?_setCell _ _ _ _).trans f2, (World.frozen?_setCell _ _ _ _).trans f3⟩
theorem FourZ.put2 {w : World} {B b : Nat} {c0 c1 c2 c3 : Value} (h : FourZ w B b c0 c1 c2 c3) (v : Value) : FourZ (w.setCell ⟨b, 2, none⟩ v) B b c0 c1 v c3 := by
  obtain ⟨h0, ⟨k0, k1, k2, k3⟩, f0, f1, f2, f3⟩ := h
  exact ⟨h0, ⟨set_other k0 (by omega), set_other k1 (by omega), World.cell?_setCell_same _ _ _ k2, set_other k3 (by omega)⟩, (World.frozen?_setCell _ _ _ _).trans f0, (World.frozen?_setCell _ _ _ _).trans f1, (World.frozen?_setCell _ _ _ _).trans f2, (World.frozen?_setCell _ _ _ _).trans f3⟩
theorem FourZ.put3 {w : World} {B b : Nat} {c0 c1 c2 c3 : Value} (h : FourZ w B b c0 c1 c2 c3) (v : Value) : FourZ (w.setCell ⟨b, 3, none⟩ v) B b c0 c1 c2 v := by
  obtain ⟨h0, ⟨k0, k1, k2, k3⟩, f0, f1, f2, f3⟩ := h
  exact ⟨h0, ⟨set_other k0 (by omega), set_other k1 (by omega), set_other k2 (by omega), World.cell?_setCell_same _ _ _ k3⟩, (World.frozen?_setCell _ _ _ _).trans f0, (World.frozen?_setCell _ _ _ _).trans f1, (World.frozen?_setCell _ _ _ _).trans f2, (World.frozen?_setCell _ _ _ _).trans f3⟩
theorem FourZ.far {w : World} {B b b' o : Nat} {c0 c1 c2 c3 : Value} (h : FourZ w B b c0 c1 c2 c3) (hb : b ≠ b') (v : Value) : FourZ (w.setCell ⟨b', o, none⟩ v) B b c0 c1 c2 c3 := by
  obtain ⟨h0, ⟨k0, k1, k2, k3⟩, f0, f1, f2, f3⟩ := h
  exact ⟨h0, ⟨set_other k0 (by omega), set_other k1 (by omega), set_other k2 (by omega), set_other k3 (by omega)⟩, (World.frozen?_setCell _ _ _ _).trans f0, (World.frozen?_setCell _ _ _ _).trans f1, (World.frozen?_setCell _ _ _ _).trans f2, (World.frozen?_setCell _ _ _ _).trans f3⟩
theorem FourZ.setZ {w : World} {B b : Nat} {c0 c1 c2 c3 : Value} (h : FourZ w B b c0 c1 c2 c3) (v0 v1 v2 v3 : Value) :
    FourZ ((((w.setCell ⟨b, 0, none⟩ v0).setCell ⟨b, 1, none⟩ v1).setCell ⟨b, 2, none⟩ v2).setCell ⟨b, 3, none⟩ v3) B b v0 v1 v2 v3 := (((h.put0 v0).put1 v1).put2 v2).put3 v3
theorem below_set4 {w0 w : World} {b : Nat} (hb : Below w0.heap.size w0 w) (h : w0.heap.size ≤ b) (v0 v1 v2 v3 : Value) :
    Below w0.heap.size w0 ((((w.setCell ⟨b, 0, none⟩ v0).setCell ⟨b, 1, none⟩ v1).setCell ⟨b, 2, none⟩ v2).setCell ⟨b, 3, none⟩ v3) :=
  (((hb.setCell (p := ⟨b, 0, none⟩) h _).setCell (p := ⟨b, 1, none⟩) h _).setCell (p := ⟨b, 2, none⟩) h _).setCell (p := ⟨b, 3, none⟩) h _
theorem FourZ.far4 {w : World} {B b b' : Nat} {c0 c1 c2 c3 : Value} (h : FourZ w B b c0 c1 c2 c3) (hb : b ≠ b') (v0 v1 v2 v3 : Value) :
    FourZ ((((w.setCell ⟨b', 0, none⟩ v0).setCell ⟨b', 1, none⟩ v1).setCell ⟨b', 2, none⟩ v2).setCell ⟨b', 3, none⟩ v3) B b c0 c1 c2 c3 := (((h.far hb v0).far hb v1).far hb v2).far hb v3
/-- A store into a block that is new since w. -/
theorem Drawn.setNew {bk : Nat} {w W : World} (h : Drawn bk w W) {b : Nat} (hb : w.heap.size ≤ b) (o : Nat) (u : Value) : Drawn bk w (W.setCell ⟨b, o, none⟩ u) :=
  ⟨h.os, h.tape, h.output, by simpa using h.size, fun k hk hn => (Below.heap_setCell W ⟨b, o, none⟩ u k (by simp only; omega)).trans (h.block k hk hn)⟩
theorem grown_set (W : World) (b o : Nat) (u : Value) : W.grownBy (W.setCell ⟨b, o, none⟩ u) (some b) :=
  ⟨rfl, rfl, rfl, by simp, fun k hk hn => Below.heap_setCell W ⟨b, o, none⟩ u k (by rintro rfl; exact hn rfl)⟩
end Go.Proofs.YtmgomacmaidmlaaGreatDoor
