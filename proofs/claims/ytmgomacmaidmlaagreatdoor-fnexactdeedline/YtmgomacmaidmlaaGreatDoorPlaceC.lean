/- Contracts of impl's EpochOf and OffOf: they answer as the plain functions of this text say, at every argument, and write nothing that was there. -/
import Derived.Test.YtmgomacmaidmlaaGreatDoorPlaceB
namespace Go.Proofs.YtmgomacmaidmlaaGreatDoor
open Go.ChangeShapes Go.WideShapes Go.ChangeAt Go.RowKit
set_option linter.unusedVariables false

theorem field_epoch (a b : Int) (w : World) : (Instr.field 65 (.agg #[.int .i64 a, .int .i64 b]) 0).run Tryz.prog w = .ok (.int .i64 a) w := by kernel_rfl
theorem field_off (a b : Int) (w : World) : (Instr.field 65 (.agg #[.int .i64 a, .int .i64 b]) 1).run Tryz.prog w = .ok (.int .i64 b) w := by kernel_rfl
theorem implEpoch_yes (x : Int) (h : isPl x) (w : World) :
    Calls Tryz.prog 120 #[.int .i64 x] w fun e w' => e = .returned (.int .i64 (x / 4294967296)) ∧ Below w.heap.size w w' := by
  obtain ⟨h0, h1, h2, h3, h4⟩ := h
  have hfe := field_epoch
  go_enter Tryz.func120, Tryz.ntmps120
  go_wp2_with (go_at_call 50; refine (split_yes x h0 h1 h2 h3 h4 _).mono ?_; rintro e w1 ⟨rfl, hb⟩)
  go_ret
  exact ⟨rfl, hb⟩
theorem implEpoch_no (x : Int) (l : -9223372036854775808 ≤ x) (u : x ≤ 9223372036854775807) (h : ¬ isPl x) (w : World) :
    Calls Tryz.prog 120 #[.int .i64 x] w fun e w' => e = .returned (.int .i64 0) ∧ Below w.heap.size w w' := by
  have hfe := field_epoch
  go_enter Tryz.func120, Tryz.ntmps120
  go_wp2_with (go_at_call 50; refine (split_no x l u h _).mono ?_; rintro e w1 ⟨rfl, hb⟩)
  go_ret
  exact ⟨rfl, hb⟩
theorem implOff_yes (x : Int) (h : isPl x) (w : World) :
    Calls Tryz.prog 260 #[.int .i64 x] w fun e w' => e = .returned (.int .i64 (x % 4294967296)) ∧ Below w.heap.size w w' := by
  obtain ⟨h0, h1, h2, h3, h4⟩ := h
  have hfo := field_off
  go_enter Tryz.func260, Tryz.ntmps260
  go_wp2_with (go_at_call 50; refine (split_yes x h0 h1 h2 h3 h4 _).mono ?_; rintro e w1 ⟨rfl, hb⟩)
  go_ret
  exact ⟨rfl, hb⟩
theorem implOff_no (x : Int) (l : -9223372036854775808 ≤ x) (u : x ≤ 9223372036854775807) (h : ¬ isPl x) (w : World) :
    Calls Tryz.prog 260 #[.int .i64 x] w fun e w' => e = .returned (.int .i64 0) ∧ Below w.heap.size w w' := by
  have hfo := field_off
  go_enter Tryz.func260, Tryz.ntmps260
  go_wp2_with (go_at_call 50; refine (split_no x l u h _).mono ?_; rintro e w1 ⟨rfl, hb⟩)
  go_ret
  exact ⟨rfl, hb⟩
end Go.Proofs.YtmgomacmaidmlaaGreatDoor
