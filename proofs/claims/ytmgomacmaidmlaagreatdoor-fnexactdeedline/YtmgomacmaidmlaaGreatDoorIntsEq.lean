/- The laws' own helper eqIntS: it tells whether two slices of bytes read alike, and only reads. -/
import Derived.Test.YtmgomacmaidmlaaGreatDoorIntsP
namespace Go.Proofs.YtmgomacmaidmlaaGreatDoor
open Go.ChangeShapes Go.WideShapes Go.ChangeAt Go.RowKit
set_option linter.unusedVariables false

theorem take_stepN (l m : List Int) (k : Nat) (h : k < l.length) (h' : k < m.length) (ht : l.take k = m.take k) (he : l[k] = m[k]) : l.take (k + 1) = m.take (k + 1) := by
  rw [List.take_succ_eq_append_getElem h, List.take_succ_eq_append_getElem h', ht, he]
end Go.Proofs.YtmgomacmaidmlaaGreatDoor
