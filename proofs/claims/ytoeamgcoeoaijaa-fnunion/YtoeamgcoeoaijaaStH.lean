/- spec's l6Get, StoreGet. -/
import Derived.Test.YtoeamgcoeoaijaaStE
namespace Go.Proofs.Ytoeamgcoeoaijaa
open Go.ChangeShapes Go.WideShapes Go.ChangeAt Go.RowKit
set_option linter.unusedVariables false
set_option linter.unusedSimpArgs false
set_option maxRecDepth 100000

/-- An entry of nothing. -/
def noEnt : Ent := ⟨0, 0, false, ⟨#[]⟩⟩
/-- What is found, and whether. -/
def findT (o : Option Ent) : Value := match o with
  | some e => .tuple #[e.val, .bool true]
  | none => .tuple #[noEnt.val, .bool false]
theorem getL_some {es : List Ent} {x : Int} {k : Nat} (hk : k < es.length) (he : es[k].pl = x) (hn : ∀ i (h : i < es.length), i < k → es[i].pl ≠ x) : getL es x = some es[k] := by
  unfold getL
  rw [List.find?_eq_some_iff_getElem]
  refine ⟨by simp [he], k, hk, rfl, fun j hj => ?_⟩
  have := hn j (by omega) hj
  simp [this]
theorem getL_none {es : List Ent} {x : Int} (hn : ∀ i (h : i < es.length), es[i].pl ≠ x) : getL es x = none := by
  unfold getL
  rw [List.find?_eq_none]
  intro e he
  obtain ⟨i, hi, rfl⟩ := List.getElem_of_mem he
  simp [hn i hi]
open Classical in
/-- StoreGet. -/
noncomputable def getM (s : St) (x : Int) : Option Ent := if stP s then getL s.kept x else none
end Go.Proofs.Ytoeamgcoeoaijaa
