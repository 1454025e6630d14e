/- A record's block that is made early or late in a drawn region, and what sits beside it. -/
import Derived.Test.YthndkkjgjhgdnaaDoorGaA
namespace Go.Proofs.YthndkkjgjhgdnaaDoor
open Go.ChangeShapes Go.WideShapes Go.ChangeAt Go.RowKit
set_option linter.unusedVariables false

theorem BxZ.made {w w' : World} {B : Nat} {a b c : Value} {T : TypeId} (h : B ≤ w.heap.size) (hb : Below (w.alloc (.cells #[a, b, c] T)).heap.size (w.alloc (.cells #[a, b, c] T)) w') : BxZ w' B w.heap.size [a, b, c] :=
  (BxZ.new w [a, b, c] T h).below hb
theorem BxZ.madeD {w w' : World} {B : Nat} {a b c : Value} {T : TypeId} (h : B ≤ w.heap.size) (hb : Below (w.alloc (.cells #[a, b, c] T)).drew.heap.size (w.alloc (.cells #[a, b, c] T)).drew w') : BxZ w' B w.heap.size [a, b, c] :=
  BxZ.made (T := T) h ⟨hb.os, hb.tape, hb.output, hb.size, hb.block⟩
/-- The cells of a block, as what sits there. -/
theorem Bx.sits {w : World} {b : Nat} {v : Value} {vs : List Value} (h : Bx w b (v :: vs)) : Sits (Box b (v :: vs).toArray) b (b + 1) w := by
  refine ⟨by have := dCell_lt (h 0 v rfl); exact this, fun W hW i u hu => ?_⟩
  have e := hW b (Nat.le_refl _) (by omega)
  have hu' : (v :: vs)[i]? = some u := by simpa using hu
  rw [← h i u hu']
  exact World.cell?_of_block e
theorem Sits.setFar {P : World → Prop} {lo hi b o : Nat} {w : World} (h : Sits P lo hi w) (hb : b < lo ∨ hi ≤ b) (v : Value) : Sits P lo hi (w.setCell ⟨b, o, none⟩ v) := by
  refine ⟨by rw [World.size_setCell]; exact h.fit, fun W hW => h.all W fun k h1 h2 => (hW k h1 h2).trans ?_⟩
  exact Below.heap_setCell _ _ _ k (fun e => by simp at e; omega)
end Go.Proofs.YthndkkjgjhgdnaaDoor
