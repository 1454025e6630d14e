/- StoreGet: spec's and impl's answers, as the law on it asks for them. -/
import Derived.Test.YtenpnnocdjakdaaBuG
import Derived.Test.YtenpnnocdjakdaaStH
import Derived.Test.YtenpnnocdjakdaaImFm
namespace Go.Proofs.Ytenpnnocdjakdaa
open Go.ChangeShapes Go.WideShapes Go.ChangeAt Go.RowKit
set_option linter.unusedVariables false

theorem findT_eq (o : Option Ent) : findT o = .tuple #[(o.getD noEnt).val, .bool o.isSome] := by cases o <;> rfl
theorem specGet_sits (m0 : St) (m1 : Int) (ok0 : okStore m0) (ok1 : okInt m1) : ∀ W v0, RdStore v0 m0 W → Calls Try.prog 51 #[v0, .int .i64 m1] W fun e w' => e = .returned (.tuple #[((getM m0 m1).getD noEnt).val, .bool (getM m0 m1).isSome]) ∧ Below W.heap.size W w' := fun W v0 h => by
  refine (specGet_any v0 m0 m1 W h ok0).mono ?_
  rintro e w' ⟨rfl, hB⟩
  exact ⟨by rw [findT_eq], hB⟩
theorem implGet_sits (m0 : St) (m1 : Int) (ok0 : okStore m0) (ok1 : okInt m1) : ∀ W v0, RdStore v0 m0 W → Calls Try.prog 26 #[v0, .int .i64 m1] W fun e w' => e = .returned (.tuple #[((getM m0 m1).getD noEnt).val, .bool (getM m0 m1).isSome]) ∧ Below W.heap.size W w' := fun W v0 h => by
  refine (implGet_any v0 m0 m1 W h ok0).mono ?_
  rintro e w' ⟨rfl, hB⟩
  exact ⟨by rw [findT_eq], hB⟩
end Go.Proofs.Ytenpnnocdjakdaa
