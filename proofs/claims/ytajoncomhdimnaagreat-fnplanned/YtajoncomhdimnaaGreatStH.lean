/- spec's l6Get, StoreGet. -/
import Derived.Test.YtajoncomhdimnaaGreatGx2
namespace Go.Proofs.YtajoncomhdimnaaGreat
open Go.ChangeShapes Go.WideShapes Go.ChangeAt Go.RowKit
set_option linter.unusedVariables false
set_option linter.unusedSimpArgs false
set_option maxRecDepth 100000

def noEnt : Ent := ⟨0, 0, false, ⟨#[]⟩⟩
theorem getL_some {es : List Ent} {x : Int} {k : Nat} (hk : k < es.length) (he : es[k].pl = x) (hn : ∀ i (h : i < es.length), i < k → es[i].pl ≠ x) : getL es x = some es[k] := by
 unfold getL
 rw [List.find?_eq_some_iff_getElem]
 refine ⟨by simp [he], k, hk, rfl, fun j hj => ?_⟩
 have := hn j (by omega) hj
 simp [this]
theorem getL_none {es : List Ent} {x : Int} (hn : ∀ i (h : i < es.length), es[i].pl ≠ x) : getL es x = none := by
 unfold getL
 rw [List.find?_eq_none]
 intro e he
 obtain ⟨i, hi, rfl⟩ := List.getElem_of_mem he
 simp [hn i hi]
end Go.Proofs.YtajoncomhdimnaaGreat
