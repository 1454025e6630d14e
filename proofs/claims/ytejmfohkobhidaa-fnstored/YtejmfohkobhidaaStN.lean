/- spec's StoreTrim. -/
import Derived.Test.YtejmfohkobhidaaStL
namespace Go.Proofs.Ytejmfohkobhidaa
open Go.ChangeShapes Go.WideShapes Go.ChangeAt Go.RowKit
set_option linter.unusedVariables false
set_option linter.unusedSimpArgs false
set_option maxRecDepth 100000

open Classical in
/-- StoreTrim. -/
noncomputable def trimM (s : St) (upto : Int) : St × Bool := if stP s then (if isPl upto then (⟨trimL s.kept upto, s.late, s.lock⟩, true) else (s, false)) else (zeroSt, false)
theorem trimM_bad {s : St} {upto : Int} (h : ¬ stP s) : trimM s upto = (zeroSt, false) := if_neg h
theorem trimM_no {s : St} {upto : Int} (h : stP s) (hp : ¬ isPl upto) : trimM s upto = (s, false) := (if_pos h).trans (if_neg hp)
theorem trimM_yes {s : St} {upto : Int} (h : stP s) (hp : isPl upto) : trimM s upto = (⟨trimL s.kept upto, s.late, s.lock⟩, true) := (if_pos h).trans (if_pos hp)
theorem trimL_take (es : List Ent) (x : Int) (k : Nat) (h : k < es.length) : trimL (es.take (k + 1)) x = if x < es[k].pl then trimL (es.take k) x ++ [es[k]] else trimL (es.take k) x := by
  unfold trimL
  rw [List.take_succ_eq_append_getElem h, List.filter_append]
  by_cases hx : x < es[k].pl <;> simp [hx]
theorem trimL_len (es : List Ent) (x : Int) : (trimL es x).length ≤ es.length := List.length_filter_le _ _
end Go.Proofs.Ytejmfohkobhidaa
