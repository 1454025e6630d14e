/- StoreEra: spec's and impl's answers, as the law on it asks for them. -/
import Derived.Test.YtenpnnocdjakdaaBuG
import Derived.Test.YtenpnnocdjakdaaStI
import Derived.Test.YtenpnnocdjakdaaImFm
namespace Go.Proofs.Ytenpnnocdjakdaa
open Go.ChangeShapes Go.WideShapes Go.ChangeAt Go.RowKit
set_option linter.unusedVariables false

theorem cnt_era (s : St) (x : Int) : cntEntryS (eraM s x) ≤ 1048576 := by
  unfold eraM
  split
  · rename_i h
    have h1 := h.1.1
    have h2 := eraL_len s.kept x
    unfold cntEntryS
    omega
  · unfold cntEntryS; simp
theorem specEra_sits (m0 : St) (m1 : Int) (ok0 : okStore m0) (ok1 : okInt m1) : ∀ W v0, RdStore v0 m0 W → Calls Try.prog 25 #[v0, .int .i64 m1] W fun e w' => ∃ u, e = .returned u ∧ Sits (OwEntryS W.heap.size w'.heap.size u (eraM m0 m1)) W.heap.size w'.heap.size w' ∧ Below W.heap.size W w' := fun W v0 h => by
  refine (specEra_any v0 m0 m1 W h ok0).mono ?_
  rintro e w' ⟨⟨u, rfl, hO⟩, hB⟩
  exact ⟨u, rfl, (ApR.own elemE hO).sits, hB⟩
theorem implEra_sits (m0 : St) (m1 : Int) (ok0 : okStore m0) (ok1 : okInt m1) : ∀ W v0, RdStore v0 m0 W → Calls Try.prog 23 #[v0, .int .i64 m1] W fun e w' => ∃ u, e = .returned u ∧ Sits (OwEntryS W.heap.size w'.heap.size u (eraM m0 m1)) W.heap.size w'.heap.size w' ∧ Below W.heap.size W w' := fun W v0 h => by
  refine (implEra_any v0 m0 m1 W h ok0).mono ?_
  rintro e w' ⟨⟨u, rfl, hO⟩, hB⟩
  exact ⟨u, rfl, (ApR.own elemE hO).sits, hB⟩
end Go.Proofs.Ytenpnnocdjakdaa
