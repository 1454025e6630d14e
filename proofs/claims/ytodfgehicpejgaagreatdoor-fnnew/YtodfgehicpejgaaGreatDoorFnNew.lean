/- The tied card of the law FnNew, over its row. -/
import Derived.Test.YtodfgehicpejgaaGreatDoorRows
import Derived.Test.YtodfgehicpejgaaGreatDoorTie
import Derived.Test.YtodfgehicpejgaaGreatDoorCards
import Derived.Test.YtodfgehicpejgaaGreatDoorFnNewR
import Derived.Test.YtodfgehicpejgaaGreatDoorGk168
import Derived.WalkKit
import Derived.ProofKit
import Derived.OpenShut
import Derived.ShutString
import Derived.ChangeOld
import Derived.Below
import Derived.SevenTiedAt
open Go.ChangeShapes Go.WideShapes Go.ChangeAt Go.RowKit
namespace Go.Proofs.YtodfgehicpejgaaGreatDoor
set_option maxHeartbeats 8000000 in
theorem fnNew_holds : Rows.FnNewCardSaid :=
  Claim7.holds_tied_plain_at .later [] [.sentinel, .sentinel] true (true, "04f408aa791855db03036062279ba7916031181f21b47bc46379b9d248ea3620") true
    fnNew.proved (fun _ h => by cases h) (by as_aux_lemma => kernel_rfl) (fun _ h => by cases h) fnNew_row_tie rfl ⟨rfl, rfl⟩ (by as_aux_lemma => kernel_rfl) rfl
    (fun f fn hf hfn => by
      obtain rfl : f = 3 := Option.some.inj ((show Tryz.prog.funcNamed Rows.fnNewRow.func = some 3 by kernel_rfl).symm.trans hf) |>.symm
      obtain rfl : fn = Tryz.f3 := (Option.some.inj (Tryz.func3.symm.trans hfn)).symm
      exact ⟨looksS, fun j t ht => by
        rw [Tryz.params3] at ht
        have hm : t ∈ [22] := by simpa using Array.mem_of_getElem? ht
        have hall : ([22].all fun u => !Tryz.prog.wantsStandIn u) = true := by kernel_rfl
        exact (show Tryz.prog.wantsStandIn t = false by simpa using List.all_eq_true.1 hall t hm)⟩)
    (goesBy0 _ rfl)
end Go.Proofs.YtodfgehicpejgaaGreatDoor
