/- StoreOk: spec's and impl's answers, as the law on it asks for them. -/
import Derived.Test.YtenpnnocdjakdaaBuG
import Derived.Test.YtenpnnocdjakdaaBuE
import Derived.Test.YtenpnnocdjakdaaBuI
namespace Go.Proofs.Ytenpnnocdjakdaa
open Go.ChangeShapes Go.WideShapes Go.ChangeAt Go.RowKit
set_option linter.unusedVariables false

open Classical in
theorem specStoreOk_sits (m0 : St) (ok0 : okStore m0) : ∀ W v0, RdStore v0 m0 W → Calls Try.prog 38 #[v0] W fun e w' => e = .returned (.bool (decide (stP m0))) ∧ Below W.heap.size W w' := fun W v0 h => by
  refine (specStoreOk_any v0 m0 W h ok0).mono ?_
  rintro e w' ⟨⟨b, rfl, hb⟩, hB⟩
  refine ⟨?_, hB⟩
  have : b = decide (stP m0) := by
    cases b with
    | true => exact (decide_eq_true (hb.1 rfl)).symm
    | false => exact (decide_eq_false fun h => by have := hb.2 h; cases this).symm
  rw [this]
open Classical in
theorem implStoreOk_sits (m0 : St) (ok0 : okStore m0) : ∀ W v0, RdStore v0 m0 W → Calls Try.prog 40 #[v0] W fun e w' => e = .returned (.bool (decide (stP m0))) ∧ Below W.heap.size W w' := fun W v0 h => by
  refine (implStoreOk_any v0 m0 W h ok0).mono ?_
  rintro e w' ⟨⟨b, rfl, hb⟩, hB⟩
  refine ⟨?_, hB⟩
  have : b = decide (stP m0) := by
    cases b with
    | true => exact (decide_eq_true (hb.1 rfl)).symm
    | false => exact (decide_eq_false fun h => by have := hb.2 h; cases this).symm
  rw [this]
end Go.Proofs.Ytenpnnocdjakdaa
