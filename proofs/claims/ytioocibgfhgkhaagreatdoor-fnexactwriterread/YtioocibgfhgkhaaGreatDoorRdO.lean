/- Readers: ReaderOk, ReaderNew: both answers. -/
import Derived.Test.YtioocibgfhgkhaaGreatDoorRdS
import Derived.Test.YtioocibgfhgkhaaGreatDoorOpenV
import Derived.Test.YtioocibgfhgkhaaGreatDoorInQ
import Derived.Test.YtioocibgfhgkhaaGreatDoorRetQ
namespace Go.Proofs.YtioocibgfhgkhaaGreatDoor
open Go.ChangeShapes Go.WideShapes Go.ChangeAt Go.RowKit
set_option linter.unusedVariables false
set_option linter.unusedSimpArgs false
set_option maxRecDepth 100000

/-- A reader that is right. -/
def rrP (r : Rr) : Prop := (1 ≤ r.epoch ∧ r.epoch ≤ 31) ∧ (1 ≤ r.off ∧ r.off ≤ 61) ∧ r.out.length ≤ 120
theorem sitsNew {w w' : World} (b : Below w.heap.size w w') : Sits (OwReader w.heap.size w'.heap.size (.agg #[.int .i64 1, .int .i64 1, .slice none 0 0]) ⟨1, 1, []⟩) w.heap.size w'.heap.size w' := OwReader.sits ⟨_, rfl, ⟨OwnRw.nil _ _ _ _ (by omega), .inl rfl⟩⟩ (Nat.le_refl _)
end Go.Proofs.YtioocibgfhgkhaaGreatDoor
