/- Several texts in one: PlaceA, PlaceB, PlaceC. -/
import Derived.Test.YtioocibgfhgkhaaGreatDoorRows
import Derived.Handy
import Derived.Outline
import Derived.Deep.RegionWith
namespace Go.Proofs.YtioocibgfhgkhaaGreatDoor
open Go.ChangeShapes Go.WideShapes Go.ChangeAt Go.RowKit
set_option linter.unusedVariables false

theorem checked_yes (a b : Int) (h1 : 1 ≤ a) (h2 : a ≤ 30) (h3 : 1 ≤ b) (h4 : b ≤ 60) (w : World) :
    Calls Tryz.prog 124 #[.agg #[.int .i64 a, .int .i64 b]] w fun e w' => e = .returned (.agg #[.int .i64 a, .int .i64 b]) ∧ (w.alloc (.cells #[.int .i64 a, .int .i64 b] 174)).alloc (.cells #[.int .i64 a, .int .i64 b] 174) = w' := by
  go_enter Tryz.func124, Tryz.ntmps124
  go_wp2
  go_returns
  exact ⟨rfl, rfl⟩
theorem checked_no (a b : Int) (h : a < 1 ∨ 30 < a ∨ b < 1 ∨ 60 < b) (w : World) :
    Calls Tryz.prog 124 #[.agg #[.int .i64 a, .int .i64 b]] w fun e w' => e = .returned (.agg #[.int .i64 0, .int .i64 0]) ∧ (w.alloc (.cells #[.int .i64 a, .int .i64 b] 174)).alloc (.cells #[.int .i64 0, .int .i64 0] 174) = w' := by
  by_cases h1 : a < 1
  · go_enter Tryz.func124, Tryz.ntmps124
    go_wp2
    go_returns
    exact ⟨rfl, rfl⟩
  · by_cases h2 : 30 < a
    · go_enter Tryz.func124, Tryz.ntmps124
      go_wp2
      go_returns
      exact ⟨rfl, rfl⟩
    · by_cases h3 : b < 1
      · go_enter Tryz.func124, Tryz.ntmps124
        go_wp2
        go_returns
        exact ⟨rfl, rfl⟩
      · have h4 : 60 < b := by omega
        clear h
        go_enter Tryz.func124, Tryz.ntmps124
        go_wp2
        go_returns
        exact ⟨rfl, rfl⟩
end Go.Proofs.YtioocibgfhgkhaaGreatDoor
namespace Go.Proofs.YtioocibgfhgkhaaGreatDoor
open Go.ChangeShapes Go.WideShapes Go.ChangeAt Go.RowKit
set_option linter.unusedVariables false

theorem bcell {W w1 : World} (hb : Below W.heap.size W w1) : (∀ b o, b < W.heap.size → w1.cell? ⟨b, o, none⟩ = W.cell? ⟨b, o, none⟩) ∧ (∀ b o, b < W.heap.size → w1.frozen? ⟨b, o, none⟩ = W.frozen? ⟨b, o, none⟩) :=
  ⟨fun b o h => hb.cell (p := ⟨b, o, none⟩) h, fun b o h => hb.frozen (p := ⟨b, o, none⟩) h⟩

theorem hide {p : Prop} (h : p) : Hid p := h
theorem unhide {p : Prop} (h : Hid p) : p := h

theorem split_yes (x : Int) (h0 : 0 < x) (h1 : 1 ≤ x / 4294967296) (h2 : x / 4294967296 ≤ 30) (h3 : 1 ≤ x % 4294967296) (h4 : x % 4294967296 ≤ 60) (w : World) :
    Calls Tryz.prog 114 #[.int .i64 x] w fun e w' => e = .returned (.agg #[.int .i64 (x / 4294967296), .int .i64 (x % 4294967296)]) ∧ Below w.heap.size w w' := by
  have hx : x ≤ 9223372036854775807 := by omega
  go_enter Tryz.func114, Tryz.ntmps114
  go_wp2_with (go_at_call 124; refine (checked_yes _ _ h1 h2 h3 h4 _).mono ?_; rintro e w1 ⟨rfl, rfl⟩)
  go_returns
  exact ⟨rfl, by go_grown⟩
theorem split_no_aid (x : Int) (h : ¬ (0 < x ∧ 1 ≤ x / 4294967296 ∧ x / 4294967296 ≤ 30 ∧ 1 ≤ x % 4294967296 ∧ x % 4294967296 ≤ 60)) (l : -9223372036854775808 ≤ x) (u : x ≤ 9223372036854775807) :
    wrap64 (x.tdiv 4294967296) < 1 ∨ 30 < wrap64 (x.tdiv 4294967296) ∨ x.tmod 4294967296 < 1 ∨ 60 < x.tmod 4294967296 := by
  by_cases h0 : 0 < x
  · rw [Int.tdiv_eq_ediv_of_nonneg (by omega), Int.tmod_eq_emod_of_nonneg (by omega)]
    have : wrap64 (x / 4294967296) = x / 4294967296 := IntWalk.wrap64_in _ (by omega)
    rw [this]
    omega
  · refine .inr (.inr (.inl ?_))
    obtain ⟨y, rfl⟩ : ∃ y, x = -y := ⟨-x, by omega⟩
    rw [Int.neg_tmod, Int.tmod_eq_emod_of_nonneg (by omega)]
    omega
theorem split_no (x : Int) (l : -9223372036854775808 ≤ x) (u : x ≤ 9223372036854775807) (h : ¬ (0 < x ∧ 1 ≤ x / 4294967296 ∧ x / 4294967296 ≤ 30 ∧ 1 ≤ x % 4294967296 ∧ x % 4294967296 ≤ 60)) (w : World) :
    Calls Tryz.prog 114 #[.int .i64 x] w fun e w' => e = .returned (.agg #[.int .i64 0, .int .i64 0]) ∧ Below w.heap.size w w' := by
  have H := hide (split_no_aid x h l u)
  clear h l u
  go_enter Tryz.func114, Tryz.ntmps114
  go_wp2_with (go_at_call 124; refine (checked_no _ _ (unhide H) _).mono ?_; rintro e w1 ⟨rfl, rfl⟩)
  go_returns
  exact ⟨rfl, by go_grown⟩

/-- x is a place. -/
def isPl (x : Int) : Prop := 0 < x ∧ 1 ≤ x / 4294967296 ∧ x / 4294967296 ≤ 30 ∧ 1 ≤ x % 4294967296 ∧ x % 4294967296 ≤ 60

theorem specOk_yes (x : Int) (h : isPl x) (w : World) :
    Calls Tryz.prog 45 #[.int .i64 x] w fun e w' => e = .returned (.bool true) ∧ w = w' := by
  obtain ⟨h0, h1, h2, h3, h4⟩ := h
  have hx : x ≤ 9223372036854775807 := by omega
  go_enter Tryz.func45, Tryz.ntmps45
  go_wp2
  go_ret
  exact ⟨rfl, rfl⟩
theorem specOk_no (x : Int) (u : x ≤ 9223372036854775807) (h : ¬ isPl x) (w : World) :
    Calls Tryz.prog 45 #[.int .i64 x] w fun e w' => e = .returned (.bool false) ∧ w = w' := by
  unfold isPl at h
  by_cases h0 : 0 < x
  · by_cases h1 : 1 ≤ x / 4294967296
    · by_cases h2 : x / 4294967296 ≤ 30
      · by_cases h3 : 1 ≤ x % 4294967296
        · have h4 : ¬ x % 4294967296 ≤ 60 := by omega
          clear h
          go_enter Tryz.func45, Tryz.ntmps45
          go_wp2
          go_ret
          exact ⟨rfl, rfl⟩
        · clear h
          go_enter Tryz.func45, Tryz.ntmps45
          go_wp2
          go_ret
          exact ⟨rfl, rfl⟩
      · clear h
        go_enter Tryz.func45, Tryz.ntmps45
        go_wp2
        go_ret
        exact ⟨rfl, rfl⟩
    · clear h
      go_enter Tryz.func45, Tryz.ntmps45
      go_wp2
      go_ret
      exact ⟨rfl, rfl⟩
  · clear h
    go_enter Tryz.func45, Tryz.ntmps45
    go_wp2
    go_ret
    exact ⟨rfl, rfl⟩
theorem specEpoch_yes (x : Int) (h : isPl x) (w : World) :
    Calls Tryz.prog 46 #[.int .i64 x] w fun e w' => e = .returned (.int .i64 (x / 4294967296)) ∧ w = w' := by
  have hx := h
  obtain ⟨h0, h1, h2, h3, h4⟩ := hx
  have hx : x ≤ 9223372036854775807 := by omega
  go_enter Tryz.func46, Tryz.ntmps46
  go_wp2_with (go_at_call 45; refine (specOk_yes x h _).mono ?_; rintro e w1 ⟨rfl, rfl⟩)
  go_ret
  exact ⟨rfl, rfl⟩
theorem specEpoch_no (x : Int) (u : x ≤ 9223372036854775807) (h : ¬ isPl x) (w : World) :
    Calls Tryz.prog 46 #[.int .i64 x] w fun e w' => e = .returned (.int .i64 0) ∧ w = w' := by
  go_enter Tryz.func46, Tryz.ntmps46
  go_wp2_with (go_at_call 45; refine (specOk_no x u h _).mono ?_; rintro e w1 ⟨rfl, rfl⟩)
  go_ret
  exact ⟨rfl, rfl⟩
end Go.Proofs.YtioocibgfhgkhaaGreatDoor
namespace Go.Proofs.YtioocibgfhgkhaaGreatDoor
open Go.ChangeShapes Go.WideShapes Go.ChangeAt Go.RowKit
set_option linter.unusedVariables false

theorem field_epoch (a b : Int) (w : World) : (Instr.field 174 (.agg #[.int .i64 a, .int .i64 b]) 0).run Tryz.prog w = .ok (.int .i64 a) w := by kernel_rfl
theorem field_off (a b : Int) (w : World) : (Instr.field 174 (.agg #[.int .i64 a, .int .i64 b]) 1).run Tryz.prog w = .ok (.int .i64 b) w := by kernel_rfl
theorem implEpoch_yes (x : Int) (h : isPl x) (w : World) :
    Calls Tryz.prog 99 #[.int .i64 x] w fun e w' => e = .returned (.int .i64 (x / 4294967296)) ∧ Below w.heap.size w w' := by
  obtain ⟨h0, h1, h2, h3, h4⟩ := h
  have hfe := field_epoch
  go_enter Tryz.func99, Tryz.ntmps99
  go_wp2_with (go_at_call 114; refine (split_yes x h0 h1 h2 h3 h4 _).mono ?_; rintro e w1 ⟨rfl, hb⟩)
  go_ret
  exact ⟨rfl, hb⟩
theorem implEpoch_no (x : Int) (l : -9223372036854775808 ≤ x) (u : x ≤ 9223372036854775807) (h : ¬ isPl x) (w : World) :
    Calls Tryz.prog 99 #[.int .i64 x] w fun e w' => e = .returned (.int .i64 0) ∧ Below w.heap.size w w' := by
  have hfe := field_epoch
  go_enter Tryz.func99, Tryz.ntmps99
  go_wp2_with (go_at_call 114; refine (split_no x l u h _).mono ?_; rintro e w1 ⟨rfl, hb⟩)
  go_ret
  exact ⟨rfl, hb⟩
end Go.Proofs.YtioocibgfhgkhaaGreatDoor
