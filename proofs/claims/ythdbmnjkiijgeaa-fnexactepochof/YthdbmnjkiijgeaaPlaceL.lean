/- The walks of the laws FnExactPlaceMake, FnExactPlaceOk, FnExactEpochOf, FnExactOffOf: each returns true at every argument, and writes nothing that was there. -/
import Derived.Test.YthdbmnjkiijgeaaPlaceC
namespace Go.Proofs.Ythdbmnjkiijgeaa
open Go.ChangeShapes Go.WideShapes Go.ChangeAt Go.RowKit
set_option linter.unusedVariables false

theorem specMake_yes' (a b : Int) (h1 : 1 ≤ a) (h2 : a ≤ 30) (h3 : 1 ≤ b) (h4 : b ≤ 60) (w : World) :
    Calls Try.prog 7 #[.int .i64 a, .int .i64 b] w fun e w' => e = .returned (.tuple #[.int .i64 (a * 4294967296 + b), .bool true]) ∧ w = w' := by
  rw [Int.mul_comm]; exact specMake_yes a b h1 h2 h3 h4 w
theorem wf_bd {x : Int} (h : (Lit.int .i64 x).wf = true) : -9223372036854775808 ≤ x ∧ x ≤ 9223372036854775807 := bounds_i64 h

theorem walkFnExactPlaceMake (a0 : Int) (a1 : Int) (w0 : (Lit.int .i64 a0).wf = true) (w1 : (Lit.int .i64 a1).wf = true) (w : World) :
    Calls Try.prog 3 #[.int .i64 a0, .int .i64 a1] w fun e w' => e = .returned (.bool true) ∧ Below w.heap.size w w' := by
  by_cases h : a0 < 1 ∨ 30 < a0 ∨ a1 < 1 ∨ 60 < a1
  · go_enter Try.func3, Try.ntmps3
    go_wp2_with (first | (go_at_call 7; refine (specMake_no _ _ h _).mono ?_; rintro e w1 ⟨rfl, rfl⟩) | (go_at_call 8; refine (implMake_no _ _ h _).mono ?_; rintro e w1 ⟨rfl, hb⟩))
    go_ret
    exact ⟨rfl, hb⟩
  · have h1 : 1 ≤ a0 := by omega
    have h2 : a0 ≤ 30 := by omega
    have h3 : 1 ≤ a1 := by omega
    have h4 : a1 ≤ 60 := by omega
    clear h
    go_enter Try.func3, Try.ntmps3
    go_wp2_with (first | (go_at_call 7; refine (specMake_yes' _ _ h1 h2 h3 h4 _).mono ?_; rintro e w1 ⟨rfl, rfl⟩) | (go_at_call 8; refine (implMake_yes _ _ h1 h2 h3 h4 _).mono ?_; rintro e w1 ⟨rfl, hb⟩))
    go_ret
    exact ⟨rfl, hb⟩
theorem walkFnExactPlaceOk (x : Int) (w0 : (Lit.int .i64 x).wf = true) (w : World) :
    Calls Try.prog 4 #[.int .i64 x] w fun e w' => e = .returned (.bool true) ∧ Below w.heap.size w w' := by
  obtain ⟨l, u⟩ := wf_bd w0
  by_cases h : isPl x
  · go_enter Try.func4, Try.ntmps4
    go_wp2_with (first | (go_at_call 9; refine (specOk_yes _ h _).mono ?_; rintro e w1 ⟨rfl, rfl⟩) | (go_at_call 10; refine (implOk_yes _ h _).mono ?_; rintro e w1 ⟨rfl, hb⟩))
    go_ret
    exact ⟨rfl, hb⟩
  · go_enter Try.func4, Try.ntmps4
    go_wp2_with (first | (go_at_call 9; refine (specOk_no _ u h _).mono ?_; rintro e w1 ⟨rfl, rfl⟩) | (go_at_call 10; refine (implOk_no _ l u h _).mono ?_; rintro e w1 ⟨rfl, hb⟩))
    go_ret
    exact ⟨rfl, hb⟩
theorem walkFnExactEpochOf (x : Int) (w0 : (Lit.int .i64 x).wf = true) (w : World) :
    Calls Try.prog 5 #[.int .i64 x] w fun e w' => e = .returned (.bool true) ∧ Below w.heap.size w w' := by
  obtain ⟨l, u⟩ := wf_bd w0
  by_cases h : isPl x
  · go_enter Try.func5, Try.ntmps5
    go_wp2_with (first | (go_at_call 11; refine (specEpoch_yes _ h _).mono ?_; rintro e w1 ⟨rfl, rfl⟩) | (go_at_call 12; refine (implEpoch_yes _ h _).mono ?_; rintro e w1 ⟨rfl, hb⟩))
    go_ret
    exact ⟨rfl, hb⟩
  · go_enter Try.func5, Try.ntmps5
    go_wp2_with (first | (go_at_call 11; refine (specEpoch_no _ u h _).mono ?_; rintro e w1 ⟨rfl, rfl⟩) | (go_at_call 12; refine (implEpoch_no _ l u h _).mono ?_; rintro e w1 ⟨rfl, hb⟩))
    go_ret
    exact ⟨rfl, hb⟩
theorem walkFnExactOffOf (x : Int) (w0 : (Lit.int .i64 x).wf = true) (w : World) :
    Calls Try.prog 6 #[.int .i64 x] w fun e w' => e = .returned (.bool true) ∧ Below w.heap.size w w' := by
  obtain ⟨l, u⟩ := wf_bd w0
  by_cases h : isPl x
  · go_enter Try.func6, Try.ntmps6
    go_wp2_with (first | (go_at_call 13; refine (specOff_yes _ h _).mono ?_; rintro e w1 ⟨rfl, rfl⟩) | (go_at_call 14; refine (implOff_yes _ h _).mono ?_; rintro e w1 ⟨rfl, hb⟩))
    go_ret
    exact ⟨rfl, hb⟩
  · go_enter Try.func6, Try.ntmps6
    go_wp2_with (first | (go_at_call 13; refine (specOff_no _ u h _).mono ?_; rintro e w1 ⟨rfl, rfl⟩) | (go_at_call 14; refine (implOff_no _ l u h _).mono ?_; rintro e w1 ⟨rfl, hb⟩))
    go_ret
    exact ⟨rfl, hb⟩
end Go.Proofs.Ythdbmnjkiijgeaa
