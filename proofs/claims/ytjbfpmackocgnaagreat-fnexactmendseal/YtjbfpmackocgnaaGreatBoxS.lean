/- A record's block of six cells that is made early or late in a drawn region. -/
import Derived.Test.YtjbfpmackocgnaaGreatBoxR
namespace Go.Proofs.YtjbfpmackocgnaaGreat
open Go.ChangeShapes Go.WideShapes Go.ChangeAt Go.RowKit
set_option linter.unusedVariables false

theorem BxZ.made6 {w w' : World} {B : Nat} {a b c d e f : Value} {T : TypeId} (h : B ≤ w.heap.size) (hb : Below (w.alloc (.cells #[a, b, c, d, e, f] T)).heap.size (w.alloc (.cells #[a, b, c, d, e, f] T)) w') : BxZ w' B w.heap.size [a, b, c, d, e, f] :=
  (BxZ.new w [a, b, c, d, e, f] T h).below hb
theorem BxZ.madeD6 {w w' : World} {B : Nat} {a b c d e f : Value} {T : TypeId} (h : B ≤ w.heap.size) (hb : Below (w.alloc (.cells #[a, b, c, d, e, f] T)).drew.heap.size (w.alloc (.cells #[a, b, c, d, e, f] T)).drew w') : BxZ w' B w.heap.size [a, b, c, d, e, f] :=
  BxZ.made6 (T := T) h ⟨hb.os, hb.tape, hb.output, hb.size, hb.block⟩
theorem below_six {B b : Nat} {w w' : World} (hb : Below B w w') (h : B ≤ b) (u0 u1 u2 u3 u4 u5 : Value) : Below B w ((((((w'.setCell ⟨b, 0, none⟩ u0).setCell ⟨b, 1, none⟩ u1).setCell ⟨b, 2, none⟩ u2).setCell ⟨b, 3, none⟩ u3).setCell ⟨b, 4, none⟩ u4).setCell ⟨b, 5, none⟩ u5) := ((((((hb.setCell (p := ⟨b, 0, none⟩) h u0).setCell (p := ⟨b, 1, none⟩) h u1).setCell (p := ⟨b, 2, none⟩) h u2).setCell (p := ⟨b, 3, none⟩) h u3).setCell (p := ⟨b, 4, none⟩) h u4).setCell (p := ⟨b, 5, none⟩) h u5)
end Go.Proofs.YtjbfpmackocgnaaGreat
