/- Contracts of the place functions of impl and spec: PlaceMake, PlaceOk, EpochOf, OffOf and what they call answer as the plain functions of this text say, at every argument, and write nothing that was there. -/
import Derived.Test.YtmgomacmaidmlaaGreatDoorRows
import Derived.Handy
import Derived.Outline
import Derived.Deep.RegionWith
namespace Go.Proofs.YtmgomacmaidmlaaGreatDoor
open Go.ChangeShapes Go.WideShapes Go.ChangeAt Go.RowKit
set_option linter.unusedVariables false

theorem number_in (a b : Int) (h1 : 0 ≤ a) (h2 : a ≤ 30) (h3 : 0 ≤ b) (h4 : b ≤ 60) (w : World) :
    Calls Tryz.prog 114 #[.agg #[.int .i64 a, .int .i64 b]] w fun e w' => e = .returned (.int .i64 (a * 4294967296 + b)) ∧ w.alloc (.cells #[.int .i64 a, .int .i64 b] 65) = w' := by
  go_enter Tryz.func114, Tryz.ntmps114
  go_wp2
  go_ret
  exact ⟨rfl, rfl⟩
theorem isPlace_yes (a b : Int) (h1 : 1 ≤ a) (w : World) :
    Calls Tryz.prog 51 #[.agg #[.int .i64 a, .int .i64 b]] w fun e w' => e = .returned (.bool true) ∧ w.alloc (.cells #[.int .i64 a, .int .i64 b] 65) = w' := by
  have ha : (a == 0) = false := beq_eq_false_iff_ne.2 (by omega)
  go_enter Tryz.func51, Tryz.ntmps51
  go_wp2
  go_ret
  exact ⟨rfl, rfl⟩
theorem isPlace_no (w : World) :
    Calls Tryz.prog 51 #[.agg #[.int .i64 0, .int .i64 0]] w fun e w' => e = .returned (.bool false) ∧ w.alloc (.cells #[.int .i64 0, .int .i64 0] 65) = w' := by
  go_enter Tryz.func51, Tryz.ntmps51
  go_wp2
  go_ret
  exact ⟨rfl, rfl⟩
theorem checked_yes (a b : Int) (h1 : 1 ≤ a) (h2 : a ≤ 30) (h3 : 1 ≤ b) (h4 : b ≤ 60) (w : World) :
    Calls Tryz.prog 99 #[.agg #[.int .i64 a, .int .i64 b]] w fun e w' => e = .returned (.agg #[.int .i64 a, .int .i64 b]) ∧ (w.alloc (.cells #[.int .i64 a, .int .i64 b] 65)).alloc (.cells #[.int .i64 a, .int .i64 b] 65) = w' := by
  go_enter Tryz.func99, Tryz.ntmps99
  go_wp2
  go_returns
  exact ⟨rfl, rfl⟩
theorem checked_no (a b : Int) (h : a < 1 ∨ 30 < a ∨ b < 1 ∨ 60 < b) (w : World) :
    Calls Tryz.prog 99 #[.agg #[.int .i64 a, .int .i64 b]] w fun e w' => e = .returned (.agg #[.int .i64 0, .int .i64 0]) ∧ (w.alloc (.cells #[.int .i64 a, .int .i64 b] 65)).alloc (.cells #[.int .i64 0, .int .i64 0] 65) = w' := by
  by_cases h1 : a < 1
  · go_enter Tryz.func99, Tryz.ntmps99
    go_wp2
    go_returns
    exact ⟨rfl, rfl⟩
  · by_cases h2 : 30 < a
    · go_enter Tryz.func99, Tryz.ntmps99
      go_wp2
      go_returns
      exact ⟨rfl, rfl⟩
    · by_cases h3 : b < 1
      · go_enter Tryz.func99, Tryz.ntmps99
        go_wp2
        go_returns
        exact ⟨rfl, rfl⟩
      · have h4 : 60 < b := by omega
        clear h
        go_enter Tryz.func99, Tryz.ntmps99
        go_wp2
        go_returns
        exact ⟨rfl, rfl⟩
end Go.Proofs.YtmgomacmaidmlaaGreatDoor
