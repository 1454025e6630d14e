/- The tied card of the law FnExactDeedLine, over its row. -/
import Derived.Test.YtmgomacmaidmlaaGreatDoorRows
import Derived.Test.YtmgomacmaidmlaaGreatDoorTie
import Derived.Test.YtmgomacmaidmlaaGreatDoorCards
import Derived.Test.YtmgomacmaidmlaaGreatDoorFnExactDeedLineR
import Derived.Test.YtmgomacmaidmlaaGreatDoorGoS
import Derived.WalkKit
import Derived.ProofKit
import Derived.OpenShut
import Derived.ShutString
import Derived.ChangeOld
import Derived.Below
import Derived.SevenTiedAt
open Go.ChangeShapes Go.WideShapes Go.ChangeAt Go.RowKit
namespace Go.Proofs.YtmgomacmaidmlaaGreatDoor
set_option maxHeartbeats 8000000 in
theorem fnExactDeedLine_holds : Rows.FnExactDeedLineCardSaid :=
  Claim7.holds_tied_plain_at .later [] [.data, .data, .data, .sentinel, .sentinel] true (true, "5a5193d544efc342c9a343995f29a2db624ac3e08b2b66ba7ab8ce58b6d20916") true
    fnExactDeedLine.proved (fun _ h => by cases h) (by as_aux_lemma => kernel_rfl) (fun _ h => by cases h) fnExactDeedLine_row_tie rfl ⟨rfl, rfl⟩ (by as_aux_lemma => kernel_rfl) rfl
    (fun f fn hf hfn => by
      obtain rfl : f = 3 := Option.some.inj ((show Tryz.prog.funcNamed Rows.fnExactDeedLineRow.func = some 3 by kernel_rfl).symm.trans hf) |>.symm
      obtain rfl : fn = Tryz.f3 := (Option.some.inj (Tryz.func3.symm.trans hfn)).symm
      exact ⟨looksS, fun j t ht => by
        rw [Tryz.params3] at ht
        have hm : t ∈ [23] := by simpa using Array.mem_of_getElem? ht
        have hall : ([23].all fun u => !Tryz.prog.wantsStandIn u) = true := by kernel_rfl
        exact (show Tryz.prog.wantsStandIn t = false by simpa using List.all_eq_true.1 hall t hm)⟩)
    (goesBy0 _ rfl)
end Go.Proofs.YtmgomacmaidmlaaGreatDoor
