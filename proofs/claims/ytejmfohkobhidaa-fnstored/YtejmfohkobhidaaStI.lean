/- spec's StoreEra. -/
import Derived.Test.YtejmfohkobhidaaStE
namespace Go.Proofs.Ytejmfohkobhidaa
open Go.ChangeShapes Go.WideShapes Go.ChangeAt Go.RowKit
set_option linter.unusedVariables false
set_option linter.unusedSimpArgs false
set_option maxRecDepth 100000

open Classical in
/-- StoreEra. -/
noncomputable def eraM (s : St) (x : Int) : List Ent := if stP s then eraL s.kept x else []
theorem eraL_snoc (es : List Ent) (e : Ent) (x : Int) : eraL (es ++ [e]) x = if e.pl / 4294967296 = x then eraL es x ++ [e] else eraL es x := by
  unfold eraL
  rw [List.filter_append]
  by_cases h : e.pl / 4294967296 = x <;> simp [h]
theorem eraL_len (es : List Ent) (x : Int) : (eraL es x).length ≤ es.length := List.length_filter_le _ _
end Go.Proofs.Ytejmfohkobhidaa
