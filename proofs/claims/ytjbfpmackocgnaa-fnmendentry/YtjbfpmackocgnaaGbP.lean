/- Several texts in one: PlaceA, PlaceB, PlaceC. -/
import Derived.Test.YtjbfpmackocgnaaRows
import Derived.Handy
import Derived.Outline
import Derived.Deep.RegionWith
namespace Go.Proofs.Ytjbfpmackocgnaa
open Go.ChangeShapes Go.WideShapes Go.ChangeAt Go.RowKit
set_option linter.unusedVariables false

theorem number_in (a b : Int) (h1 : 0 ≤ a) (h2 : a ≤ 30) (h3 : 0 ≤ b) (h4 : b ≤ 60) (w : World) :
    Calls Try.prog 127 #[.agg #[.int .i64 a, .int .i64 b]] w fun e w' => e = .returned (.int .i64 (a * 4294967296 + b)) ∧ w.alloc (.cells #[.int .i64 a, .int .i64 b] 111) = w' := by
  go_enter Try.func127, Try.ntmps127
  go_wp2
  go_ret
  exact ⟨rfl, rfl⟩
theorem isPlace_yes (a b : Int) (h1 : 1 ≤ a) (w : World) :
    Calls Try.prog 128 #[.agg #[.int .i64 a, .int .i64 b]] w fun e w' => e = .returned (.bool true) ∧ w.alloc (.cells #[.int .i64 a, .int .i64 b] 111) = w' := by
  have ha : (a == 0) = false := beq_eq_false_iff_ne.2 (by omega)
  go_enter Try.func128, Try.ntmps128
  go_wp2
  go_ret
  exact ⟨rfl, rfl⟩
theorem isPlace_no (w : World) :
    Calls Try.prog 128 #[.agg #[.int .i64 0, .int .i64 0]] w fun e w' => e = .returned (.bool false) ∧ w.alloc (.cells #[.int .i64 0, .int .i64 0] 111) = w' := by
  go_enter Try.func128, Try.ntmps128
  go_wp2
  go_ret
  exact ⟨rfl, rfl⟩
theorem checked_yes (a b : Int) (h1 : 1 ≤ a) (h2 : a ≤ 30) (h3 : 1 ≤ b) (h4 : b ≤ 60) (w : World) :
    Calls Try.prog 126 #[.agg #[.int .i64 a, .int .i64 b]] w fun e w' => e = .returned (.agg #[.int .i64 a, .int .i64 b]) ∧ (w.alloc (.cells #[.int .i64 a, .int .i64 b] 111)).alloc (.cells #[.int .i64 a, .int .i64 b] 111) = w' := by
  go_enter Try.func126, Try.ntmps126
  go_wp2
  go_returns
  exact ⟨rfl, rfl⟩
theorem checked_no (a b : Int) (h : a < 1 ∨ 30 < a ∨ b < 1 ∨ 60 < b) (w : World) :
    Calls Try.prog 126 #[.agg #[.int .i64 a, .int .i64 b]] w fun e w' => e = .returned (.agg #[.int .i64 0, .int .i64 0]) ∧ (w.alloc (.cells #[.int .i64 a, .int .i64 b] 111)).alloc (.cells #[.int .i64 0, .int .i64 0] 111) = w' := by
  by_cases h1 : a < 1
  · go_enter Try.func126, Try.ntmps126
    go_wp2
    go_returns
    exact ⟨rfl, rfl⟩
  · by_cases h2 : 30 < a
    · go_enter Try.func126, Try.ntmps126
      go_wp2
      go_returns
      exact ⟨rfl, rfl⟩
    · by_cases h3 : b < 1
      · go_enter Try.func126, Try.ntmps126
        go_wp2
        go_returns
        exact ⟨rfl, rfl⟩
      · have h4 : 60 < b := by omega
        clear h
        go_enter Try.func126, Try.ntmps126
        go_wp2
        go_returns
        exact ⟨rfl, rfl⟩
end Go.Proofs.Ytjbfpmackocgnaa
namespace Go.Proofs.Ytjbfpmackocgnaa
open Go.ChangeShapes Go.WideShapes Go.ChangeAt Go.RowKit
set_option linter.unusedVariables false

set_option maxHeartbeats 1000000 in
theorem implMake_yes (a b : Int) (h1 : 1 ≤ a) (h2 : a ≤ 30) (h3 : 1 ≤ b) (h4 : b ≤ 60) (w : World) :
    Calls Try.prog 74 #[.int .i64 a, .int .i64 b] w fun e w' => e = .returned (.tuple #[.int .i64 (a * 4294967296 + b), .bool true]) ∧ Below w.heap.size w w' := by
  go_enter Try.func74, Try.ntmps74
  go_wp2_with (go_at_call 126; refine (checked_yes a b h1 h2 h3 h4 _).mono ?_; rintro e w1 ⟨rfl, rfl⟩)
  go_region_with (first | (go_at_call 127; refine (number_in a b (by omega) h2 (by omega) h4 _).mono ?_; rintro e w' ⟨rfl, rfl⟩) | (go_at_call 128; refine (isPlace_yes a b h1 _).mono ?_; rintro e w' ⟨rfl, rfl⟩))
  all_goals
    go_wp2
    go_ret2
    exact ⟨rfl, by go_grown⟩
set_option maxHeartbeats 1000000 in
theorem implMake_no (a b : Int) (h : a < 1 ∨ 30 < a ∨ b < 1 ∨ 60 < b) (w : World) :
    Calls Try.prog 74 #[.int .i64 a, .int .i64 b] w fun e w' => e = .returned (.tuple #[.int .i64 0, .bool false]) ∧ Below w.heap.size w w' := by
  go_enter Try.func74, Try.ntmps74
  go_wp2_with (go_at_call 126; refine (checked_no a b h _).mono ?_; rintro e w1 ⟨rfl, rfl⟩)
  go_region_with (first | (go_at_call 127; refine (number_in 0 0 (by omega) (by omega) (by omega) (by omega) _).mono ?_; rintro e w' ⟨rfl, rfl⟩) | (go_at_call 128; refine (isPlace_no _).mono ?_; rintro e w' ⟨rfl, rfl⟩))
  all_goals
    go_wp2
    go_ret2
    exact ⟨rfl, by go_grown⟩
theorem split_yes (x : Int) (h0 : 0 < x) (h1 : 1 ≤ x / 4294967296) (h2 : x / 4294967296 ≤ 30) (h3 : 1 ≤ x % 4294967296) (h4 : x % 4294967296 ≤ 60) (w : World) :
    Calls Try.prog 77 #[.int .i64 x] w fun e w' => e = .returned (.agg #[.int .i64 (x / 4294967296), .int .i64 (x % 4294967296)]) ∧ Below w.heap.size w w' := by
  have hx : x ≤ 9223372036854775807 := by omega
  go_enter Try.func77, Try.ntmps77
  go_wp2_with (go_at_call 126; refine (checked_yes _ _ h1 h2 h3 h4 _).mono ?_; rintro e w1 ⟨rfl, rfl⟩)
  go_returns
  exact ⟨rfl, by go_grown⟩
/-- x is a place. -/
def isPl (x : Int) : Prop := 0 < x ∧ 1 ≤ x / 4294967296 ∧ x / 4294967296 ≤ 30 ∧ 1 ≤ x % 4294967296 ∧ x % 4294967296 ≤ 60

theorem specMake_yes (a b : Int) (h1 : 1 ≤ a) (h2 : a ≤ 30) (h3 : 1 ≤ b) (h4 : b ≤ 60) (w : World) :
    Calls Try.prog 75 #[.int .i64 a, .int .i64 b] w fun e w' => e = .returned (.tuple #[.int .i64 (4294967296 * a + b), .bool true]) ∧ w = w' := by
  go_enter Try.func75, Try.ntmps75
  go_wp2
  go_ret2
  exact ⟨rfl, rfl⟩
theorem specMake_no (a b : Int) (h : a < 1 ∨ 30 < a ∨ b < 1 ∨ 60 < b) (w : World) :
    Calls Try.prog 75 #[.int .i64 a, .int .i64 b] w fun e w' => e = .returned (.tuple #[.int .i64 0, .bool false]) ∧ w = w' := by
  by_cases h1 : 1 ≤ a
  · by_cases h2 : a ≤ 30
    · by_cases h3 : 1 ≤ b
      · have h4 : ¬ b ≤ 60 := by omega
        clear h
        go_enter Try.func75, Try.ntmps75
        go_wp2
        go_ret2
        exact ⟨rfl, rfl⟩
      · clear h
        go_enter Try.func75, Try.ntmps75
        go_wp2
        go_ret2
        exact ⟨rfl, rfl⟩
    · clear h
      go_enter Try.func75, Try.ntmps75
      go_wp2
      go_ret2
      exact ⟨rfl, rfl⟩
  · clear h
    go_enter Try.func75, Try.ntmps75
    go_wp2
    go_ret2
    exact ⟨rfl, rfl⟩
theorem specOk_yes (x : Int) (h : isPl x) (w : World) :
    Calls Try.prog 135 #[.int .i64 x] w fun e w' => e = .returned (.bool true) ∧ w = w' := by
  obtain ⟨h0, h1, h2, h3, h4⟩ := h
  have hx : x ≤ 9223372036854775807 := by omega
  go_enter Try.func135, Try.ntmps135
  go_wp2
  go_ret
  exact ⟨rfl, rfl⟩
theorem specOk_no (x : Int) (u : x ≤ 9223372036854775807) (h : ¬ isPl x) (w : World) :
    Calls Try.prog 135 #[.int .i64 x] w fun e w' => e = .returned (.bool false) ∧ w = w' := by
  unfold isPl at h
  by_cases h0 : 0 < x
  · by_cases h1 : 1 ≤ x / 4294967296
    · by_cases h2 : x / 4294967296 ≤ 30
      · by_cases h3 : 1 ≤ x % 4294967296
        · have h4 : ¬ x % 4294967296 ≤ 60 := by omega
          clear h
          go_enter Try.func135, Try.ntmps135
          go_wp2
          go_ret
          exact ⟨rfl, rfl⟩
        · clear h
          go_enter Try.func135, Try.ntmps135
          go_wp2
          go_ret
          exact ⟨rfl, rfl⟩
      · clear h
        go_enter Try.func135, Try.ntmps135
        go_wp2
        go_ret
        exact ⟨rfl, rfl⟩
    · clear h
      go_enter Try.func135, Try.ntmps135
      go_wp2
      go_ret
      exact ⟨rfl, rfl⟩
  · clear h
    go_enter Try.func135, Try.ntmps135
    go_wp2
    go_ret
    exact ⟨rfl, rfl⟩
theorem specEpoch_yes (x : Int) (h : isPl x) (w : World) :
    Calls Try.prog 84 #[.int .i64 x] w fun e w' => e = .returned (.int .i64 (x / 4294967296)) ∧ w = w' := by
  have hx := h
  obtain ⟨h0, h1, h2, h3, h4⟩ := hx
  have hx : x ≤ 9223372036854775807 := by omega
  go_enter Try.func84, Try.ntmps84
  go_wp2_with (go_at_call 135; refine (specOk_yes x h _).mono ?_; rintro e w1 ⟨rfl, rfl⟩)
  go_ret
  exact ⟨rfl, rfl⟩
theorem specEpoch_no (x : Int) (u : x ≤ 9223372036854775807) (h : ¬ isPl x) (w : World) :
    Calls Try.prog 84 #[.int .i64 x] w fun e w' => e = .returned (.int .i64 0) ∧ w = w' := by
  go_enter Try.func84, Try.ntmps84
  go_wp2_with (go_at_call 135; refine (specOk_no x u h _).mono ?_; rintro e w1 ⟨rfl, rfl⟩)
  go_ret
  exact ⟨rfl, rfl⟩
theorem specOff_yes (x : Int) (h : isPl x) (w : World) :
    Calls Try.prog 136 #[.int .i64 x] w fun e w' => e = .returned (.int .i64 (x % 4294967296)) ∧ w = w' := by
  have hx := h
  obtain ⟨h0, h1, h2, h3, h4⟩ := hx
  have hx : x ≤ 9223372036854775807 := by omega
  go_enter Try.func136, Try.ntmps136
  go_wp2_with (go_at_call 135; refine (specOk_yes x h _).mono ?_; rintro e w1 ⟨rfl, rfl⟩)
  go_ret
  exact ⟨rfl, rfl⟩
end Go.Proofs.Ytjbfpmackocgnaa
namespace Go.Proofs.Ytjbfpmackocgnaa
open Go.ChangeShapes Go.WideShapes Go.ChangeAt Go.RowKit
set_option linter.unusedVariables false

theorem field_epoch (a b : Int) (w : World) : (Instr.field 111 (.agg #[.int .i64 a, .int .i64 b]) 0).run Try.prog w = .ok (.int .i64 a) w := by kernel_rfl
theorem field_off (a b : Int) (w : World) : (Instr.field 111 (.agg #[.int .i64 a, .int .i64 b]) 1).run Try.prog w = .ok (.int .i64 b) w := by kernel_rfl
theorem implEpoch_yes (x : Int) (h : isPl x) (w : World) :
    Calls Try.prog 29 #[.int .i64 x] w fun e w' => e = .returned (.int .i64 (x / 4294967296)) ∧ Below w.heap.size w w' := by
  obtain ⟨h0, h1, h2, h3, h4⟩ := h
  have hfe := field_epoch
  go_enter Try.func29, Try.ntmps29
  go_wp2_with (go_at_call 77; refine (split_yes x h0 h1 h2 h3 h4 _).mono ?_; rintro e w1 ⟨rfl, hb⟩)
  go_ret
  exact ⟨rfl, hb⟩
theorem implOff_yes (x : Int) (h : isPl x) (w : World) :
    Calls Try.prog 30 #[.int .i64 x] w fun e w' => e = .returned (.int .i64 (x % 4294967296)) ∧ Below w.heap.size w w' := by
  obtain ⟨h0, h1, h2, h3, h4⟩ := h
  have hfo := field_off
  go_enter Try.func30, Try.ntmps30
  go_wp2_with (go_at_call 77; refine (split_yes x h0 h1 h2 h3 h4 _).mono ?_; rintro e w1 ⟨rfl, hb⟩)
  go_ret
  exact ⟨rfl, hb⟩
end Go.Proofs.Ytjbfpmackocgnaa
