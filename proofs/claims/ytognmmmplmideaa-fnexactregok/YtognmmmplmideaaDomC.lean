/- spec's l4Less. -/
import Derived.Test.YtognmmmplmideaaDomB
namespace Go.Proofs.Ytognmmmplmideaa
open Go.ChangeShapes Go.WideShapes Go.ChangeAt Go.RowKit
set_option linter.unusedVariables false

/-- Those of a list that are not in another one. -/
def lessL (set list : List Int) : List Int := set.filter fun x => !(list.contains x)
theorem lessL_yes (set list : List Int) (k : Nat) (h : k < set.length) (hx : set[k] ∈ list) : lessL (set.take (k + 1)) list = lessL (set.take k) list := by
  have e : (!(list.contains set[k])) = false := by simpa using hx
  rw [lessL, List.take_succ_eq_append_getElem h, List.filter_append]
  simp only [List.filter_cons, List.filter_nil, e]
  simp [lessL]
theorem lessL_no (set list : List Int) (k : Nat) (h : k < set.length) (hx : ¬ set[k] ∈ list) : lessL (set.take (k + 1)) list = lessL (set.take k) list ++ [set[k]] := by
  have e : (!(list.contains set[k])) = true := by simpa using hx
  rw [lessL, List.take_succ_eq_append_getElem h, List.filter_append]
  simp only [List.filter_cons, List.filter_nil, e]
  simp [lessL]
theorem lessL_len (set list : List Int) : (lessL set list).length ≤ set.length := List.length_filter_le _ _
theorem own_lenN {w : World} {B n : Nat} {v : Value} {l : List Int} (h : w.ownsRow B 3 1 v n (ncells l)) : w.ownsRow B 3 1 v l.length (ncells l) := by
  have e : l.length = n := by have := h.1; simpa [ncells] using this
  rw [e]; exact h
end Go.Proofs.Ytognmmmplmideaa
