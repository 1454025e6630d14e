/- No go statement stands in the program; its looks: closed facts one by one. -/
import Derived.Test.YtmgomacmaidmlaaGreatDoorRows
import Derived.SevenTiedAt
namespace Go.Proofs.YtmgomacmaidmlaaGreatDoor
open Go
set_option maxHeartbeats 8000000
theorem noGo : Tryz.prog.funcs.any Func.goes = false := by kernel_rfl
theorem goes0 (f : FuncId) : Tryz.prog.goes f = false := by
  have h1 : ∀ g : Nat, (Tryz.prog.funcs[g]?).any Func.goes = false := fun g => by
    cases hq : Tryz.prog.funcs[g]? with
    | none => rfl
    | some fn =>
      obtain ⟨hl, rfl⟩ := Array.getElem?_eq_some_iff.1 hq
      have := Array.any_eq_false.1 noGo g hl
      simpa using this
  unfold Program.goes
  rw [noGo, Bool.and_false, Bool.or_false]
  exact List.any_eq_false.2 fun g _ => by rw [h1 g]; simp
theorem goesBy0 (c : OpenClaim) (h : c.start = .entering) : false = c.goesBy Tryz.prog := by
  unfold OpenClaim.goesBy Program.goesAt Program.goesFrom
  rw [h]
  cases Tryz.prog.funcNamed c.func with
  | none => rfl
  | some f => simp [goes0]
theorem looksS : true = Tryz.prog.looks [] := by kernel_rfl
end Go.Proofs.YtmgomacmaidmlaaGreatDoor
