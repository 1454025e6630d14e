/- The walk of the law FnSureTo. -/
import Derived.Test.YtjbfpmackocgnaaDwE
import Derived.Test.YtjbfpmackocgnaaBigB
import Derived.Test.YtjbfpmackocgnaaGaA
namespace Go.Proofs.Ytjbfpmackocgnaa
open Go.ChangeShapes Go.WideShapes Go.ChangeAt Go.RowKit
set_option linter.unusedVariables false
set_option linter.unusedSimpArgs false

theorem sure_spec : ∀ ms : List Wd, sureL ms ≤ ms.length ∧ (∀ i (h : i < ms.length), i < sureL ms → ms[i].done = true) ∧ ∀ h : sureL ms < ms.length, ms[sureL ms].done = false
  | [] => ⟨Nat.le_refl _, (fun i h => by simp at h), fun h => by simp at h⟩
  | e :: l => by
    obtain ⟨h1, h2, h3⟩ := sure_spec l
    cases hd : e.done with
    | true =>
      have es : sureL (e :: l) = sureL l + 1 := by simp [sureL, hd]
      rw [es]
      refine ⟨by simpa using h1, fun i hi hlt => ?_, fun h => ?_⟩
      · cases i with
        | zero => simpa using hd
        | succ i => simpa using h2 i (by simpa using hi) (by omega)
      · simp only [es, List.getElem_cons_succ]
        exact h3 (by simpa using h)
    | false =>
      have es : sureL (e :: l) = 0 := by simp [sureL, hd]
      rw [es]
      refine ⟨Nat.zero_le _, fun i hi hlt => by omega, fun h => ?_⟩
      simp only [es, List.getElem_cons_zero]
      exact hd
end Go.Proofs.Ytjbfpmackocgnaa
