/- The law FnExactDeedOk of the landed program holds at every input: the call returns true and every argument reads afterwards as it read before; what the row says of the package's two errors is tied to the program's text. -/
import Derived.Test.YtaamipmlalplbaaGreatDoorFnExactDeedOkR
import Derived.Test.YtaamipmlalplbaaGreatDoorCards
import Derived.Test.YtaamipmlalplbaaGreatDoorTieS
import Derived.Test.YtaamipmlalplbaaGreatDoorGoS
import Derived.SevenTiedAt
namespace Go.Proofs.YtaamipmlalplbaaGreatDoor
set_option maxHeartbeats 8000000 in
theorem fnExactDeedOk_holds : Rows.FnExactDeedOkCardSaid :=
  Claim7.holds_tied_plain_at .later [] [.sentinel, .sentinel] true (true, "e1d158af84891435229110b43106299713127e7e7112d65f1c743206ce9a0570") true
    fnExactDeedOk.proved (fun _ h => by cases h) (by as_aux_lemma => kernel_rfl) (fun _ h => by cases h) (OpenClaim.laidByTextAt_later rfl rfl tieS noOwnUnsafeS) rfl ⟨rfl, rfl⟩ (by as_aux_lemma => kernel_rfl) rfl
    (fun f fn hf hfn => by
      obtain rfl : f = 4 := Option.some.inj ((show Tryz.prog.funcNamed Rows.fnExactDeedOkRow.func = some 4 by as_aux_lemma => kernel_rfl).symm.trans hf) |>.symm
      obtain rfl : fn = Tryz.f4 := (Option.some.inj (Tryz.func4.symm.trans hfn)).symm
      exact ⟨looksS, fun j t ht => by
        rw [Tryz.params4] at ht
        have hm : t ∈ [49] := by simpa using Array.mem_of_getElem? ht
        have hall : ([49].all fun u => !Tryz.prog.wantsStandIn u) = true := by as_aux_lemma => kernel_rfl
        exact (show Tryz.prog.wantsStandIn t = false by simpa using List.all_eq_true.1 hall t hm)⟩)
    (goesBy0 _ rfl)
end Go.Proofs.YtaamipmlalplbaaGreatDoor
