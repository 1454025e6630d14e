/- Several texts in one: BoxQ, BoxR. -/
import Derived.Test.YtapfdmmfhfkhkaaGaA
namespace Go.Proofs.Ytapfdmmfhfkhkaa
open Go.ChangeShapes Go.WideShapes Go.ChangeAt Go.RowKit
set_option linter.unusedVariables false

theorem BxZ.made {w w' : World} {B : Nat} {a b c : Value} {T : TypeId} (h : B ≤ w.heap.size) (hb : Below (w.alloc (.cells #[a, b, c] T)).heap.size (w.alloc (.cells #[a, b, c] T)) w') : BxZ w' B w.heap.size [a, b, c] :=
 (BxZ.new w [a, b, c] T h).below hb
theorem Bx.sits {w : World} {b : Nat} {v : Value} {vs : List Value} (h : Bx w b (v :: vs)) : Sits (Box b (v :: vs).toArray) b (b + 1) w := by
 refine ⟨by have := dCell_lt (h 0 v rfl); exact this, fun W hW i u hu => ?_⟩
 have e := hW b (Nat.le_refl _) (by omega)
 have hu' : (v :: vs)[i]? = some u := by simpa using hu
 rw [← h i u hu']
 exact World.cell?_of_block e
end Go.Proofs.Ytapfdmmfhfkhkaa
namespace Go.Proofs.Ytapfdmmfhfkhkaa
open Go.ChangeShapes Go.WideShapes Go.ChangeAt Go.RowKit
set_option linter.unusedVariables false

end Go.Proofs.Ytapfdmmfhfkhkaa
