/- spec's l1In, whatever it is asked. -/
import Derived.Test.YtmgomacmaidmlaaGreatDoorInP
import Derived.Test.YtmgomacmaidmlaaGreatDoorRetP
namespace Go.Proofs.YtmgomacmaidmlaaGreatDoor
open Go.ChangeShapes Go.WideShapes Go.ChangeAt Go.RowKit
set_option linter.unusedVariables false

theorem l1In_any (x a b : Int) (W : World) : Calls Tryz.prog 12 #[.int .i64 x, .int .i64 a, .int .i64 b] W fun e w' => RetB (a ≤ x ∧ x ≤ b) e ∧ w' = W := by
  by_cases h : a ≤ x ∧ x ≤ b
  · exact (l1In_yes x a b h.1 h.2 W).mono fun e w' ⟨h1, h2⟩ => ⟨h1 ▸ RetB.yes h, by first | exact h2 | exact h2.symm⟩
  · exact (l1In_no x a b (by omega) W).mono fun e w' ⟨h1, h2⟩ => ⟨h1 ▸ RetB.no h, by first | exact h2 | exact h2.symm⟩
end Go.Proofs.YtmgomacmaidmlaaGreatDoor
