/- A record's block of two cells that is made early or late in a drawn region. -/
import Derived.Test.YtjbfpmackocgnaaGreatBoxQ
namespace Go.Proofs.YtjbfpmackocgnaaGreat
open Go.ChangeShapes Go.WideShapes Go.ChangeAt Go.RowKit
set_option linter.unusedVariables false

theorem BxZ.made2 {w w' : World} {B : Nat} {a b : Value} {T : TypeId} (h : B ≤ w.heap.size) (hb : Below (w.alloc (.cells #[a, b] T)).heap.size (w.alloc (.cells #[a, b] T)) w') : BxZ w' B w.heap.size [a, b] :=
  (BxZ.new w [a, b] T h).below hb
theorem BxZ.madeD2 {w w' : World} {B : Nat} {a b : Value} {T : TypeId} (h : B ≤ w.heap.size) (hb : Below (w.alloc (.cells #[a, b] T)).drew.heap.size (w.alloc (.cells #[a, b] T)).drew w') : BxZ w' B w.heap.size [a, b] :=
  BxZ.made2 (T := T) h ⟨hb.os, hb.tape, hb.output, hb.size, hb.block⟩
theorem below_two {B b : Nat} {w w' : World} (hb : Below B w w') (h : B ≤ b) (u v : Value) : Below B w ((w'.setCell ⟨b, 0, none⟩ u).setCell ⟨b, 1, none⟩ v) := (hb.setCell (p := ⟨b, 0, none⟩) h u).setCell (p := ⟨b, 1, none⟩) h v
end Go.Proofs.YtjbfpmackocgnaaGreat
