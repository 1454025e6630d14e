/- The laws' own helper 'big'. -/
import Derived.Test.YthndkkjgjhgdnaaDoorGaA
namespace Go.Proofs.YthndkkjgjhgdnaaDoor
open Go.ChangeShapes Go.WideShapes Go.ChangeAt Go.RowKit
set_option linter.unusedVariables false

theorem big_yes (a : Option Addr) (len cap : Nat) (h : 1048576 < len) (h' : len ≤ 9223372036854775807) (w : World) :
    Calls Tryd.prog 5 #[.slice a len cap] w fun e w' => e = .returned (.bool true) ∧ w = w' := by
  have hz : (1048576 : Int) < (len : Int) := by omega
  go_enter Tryd.func5, Tryd.ntmps5
  go_wp2
  go_ret
  exact ⟨rfl, rfl⟩
theorem big_no (a : Option Addr) (len cap : Nat) (h : ¬ 1048576 < len) (w : World) :
    Calls Tryd.prog 5 #[.slice a len cap] w fun e w' => e = .returned (.bool false) ∧ w = w' := by
  have hz : ¬ ((1048576 : Int) < (len : Int)) := by omega
  go_enter Tryd.func5, Tryd.ntmps5
  go_wp2
  go_ret
  exact ⟨rfl, rfl⟩
end Go.Proofs.YthndkkjgjhgdnaaDoor
