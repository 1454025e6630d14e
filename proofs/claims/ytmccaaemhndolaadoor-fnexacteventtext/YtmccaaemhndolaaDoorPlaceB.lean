/- Contracts of the place functions of impl and spec: PlaceMake, PlaceOk, EpochOf, OffOf and what they call answer as the plain functions of this text say, at every argument, and write nothing that was there. -/
import Derived.Test.YtmccaaemhndolaaDoorPlaceA
namespace Go.Proofs.YtmccaaemhndolaaDoor
open Go.ChangeShapes Go.WideShapes Go.ChangeAt Go.RowKit
set_option linter.unusedVariables false

theorem bcell {W w1 : World} (hb : Below W.heap.size W w1) : (∀ b o, b < W.heap.size → w1.cell? ⟨b, o, none⟩ = W.cell? ⟨b, o, none⟩) ∧ (∀ b o, b < W.heap.size → w1.frozen? ⟨b, o, none⟩ = W.frozen? ⟨b, o, none⟩) :=
  ⟨fun b o h => hb.cell (p := ⟨b, o, none⟩) h, fun b o h => hb.frozen (p := ⟨b, o, none⟩) h⟩

theorem hide {p : Prop} (h : p) : Hid p := h
theorem unhide {p : Prop} (h : Hid p) : p := h

theorem split_yes (x : Int) (h0 : 0 < x) (h1 : 1 ≤ x / 4294967296) (h2 : x / 4294967296 ≤ 30) (h3 : 1 ≤ x % 4294967296) (h4 : x % 4294967296 ≤ 60) (w : World) :
    Calls Tryd.prog 15 #[.int .i64 x] w fun e w' => e = .returned (.agg #[.int .i64 (x / 4294967296), .int .i64 (x % 4294967296)]) ∧ Below w.heap.size w w' := by
  have hx : x ≤ 9223372036854775807 := by omega
  go_enter Tryd.func15, Tryd.ntmps15
  go_wp2_with (go_at_call 19; refine (checked_yes _ _ h1 h2 h3 h4 _).mono ?_; rintro e w1 ⟨rfl, rfl⟩)
  go_returns
  exact ⟨rfl, by go_grown⟩
theorem split_no_aid (x : Int) (h : ¬ (0 < x ∧ 1 ≤ x / 4294967296 ∧ x / 4294967296 ≤ 30 ∧ 1 ≤ x % 4294967296 ∧ x % 4294967296 ≤ 60)) (l : -9223372036854775808 ≤ x) (u : x ≤ 9223372036854775807) :
    wrap64 (x.tdiv 4294967296) < 1 ∨ 30 < wrap64 (x.tdiv 4294967296) ∨ x.tmod 4294967296 < 1 ∨ 60 < x.tmod 4294967296 := by
  by_cases h0 : 0 < x
  · rw [Int.tdiv_eq_ediv_of_nonneg (by omega), Int.tmod_eq_emod_of_nonneg (by omega)]
    have : wrap64 (x / 4294967296) = x / 4294967296 := IntWalk.wrap64_in _ (by omega)
    rw [this]
    omega
  · refine .inr (.inr (.inl ?_))
    obtain ⟨y, rfl⟩ : ∃ y, x = -y := ⟨-x, by omega⟩
    rw [Int.neg_tmod, Int.tmod_eq_emod_of_nonneg (by omega)]
    omega
theorem split_no (x : Int) (l : -9223372036854775808 ≤ x) (u : x ≤ 9223372036854775807) (h : ¬ (0 < x ∧ 1 ≤ x / 4294967296 ∧ x / 4294967296 ≤ 30 ∧ 1 ≤ x % 4294967296 ∧ x % 4294967296 ≤ 60)) (w : World) :
    Calls Tryd.prog 15 #[.int .i64 x] w fun e w' => e = .returned (.agg #[.int .i64 0, .int .i64 0]) ∧ Below w.heap.size w w' := by
  have H := hide (split_no_aid x h l u)
  clear h l u
  go_enter Tryd.func15, Tryd.ntmps15
  go_wp2_with (go_at_call 19; refine (checked_no _ _ (unhide H) _).mono ?_; rintro e w1 ⟨rfl, rfl⟩)
  go_returns
  exact ⟨rfl, by go_grown⟩

/-- x is a place. -/
def isPl (x : Int) : Prop := 0 < x ∧ 1 ≤ x / 4294967296 ∧ x / 4294967296 ≤ 30 ∧ 1 ≤ x % 4294967296 ∧ x % 4294967296 ≤ 60

theorem specOk_yes (x : Int) (h : isPl x) (w : World) :
    Calls Tryd.prog 12 #[.int .i64 x] w fun e w' => e = .returned (.bool true) ∧ w = w' := by
  obtain ⟨h0, h1, h2, h3, h4⟩ := h
  have hx : x ≤ 9223372036854775807 := by omega
  go_enter Tryd.func12, Tryd.ntmps12
  go_wp2
  go_ret
  exact ⟨rfl, rfl⟩
theorem specOk_no (x : Int) (u : x ≤ 9223372036854775807) (h : ¬ isPl x) (w : World) :
    Calls Tryd.prog 12 #[.int .i64 x] w fun e w' => e = .returned (.bool false) ∧ w = w' := by
  unfold isPl at h
  by_cases h0 : 0 < x
  · by_cases h1 : 1 ≤ x / 4294967296
    · by_cases h2 : x / 4294967296 ≤ 30
      · by_cases h3 : 1 ≤ x % 4294967296
        · have h4 : ¬ x % 4294967296 ≤ 60 := by omega
          clear h
          go_enter Tryd.func12, Tryd.ntmps12
          go_wp2
          go_ret
          exact ⟨rfl, rfl⟩
        · clear h
          go_enter Tryd.func12, Tryd.ntmps12
          go_wp2
          go_ret
          exact ⟨rfl, rfl⟩
      · clear h
        go_enter Tryd.func12, Tryd.ntmps12
        go_wp2
        go_ret
        exact ⟨rfl, rfl⟩
    · clear h
      go_enter Tryd.func12, Tryd.ntmps12
      go_wp2
      go_ret
      exact ⟨rfl, rfl⟩
  · clear h
    go_enter Tryd.func12, Tryd.ntmps12
    go_wp2
    go_ret
    exact ⟨rfl, rfl⟩
theorem specEpoch_yes (x : Int) (h : isPl x) (w : World) :
    Calls Tryd.prog 13 #[.int .i64 x] w fun e w' => e = .returned (.int .i64 (x / 4294967296)) ∧ w = w' := by
  have hx := h
  obtain ⟨h0, h1, h2, h3, h4⟩ := hx
  have hx : x ≤ 9223372036854775807 := by omega
  go_enter Tryd.func13, Tryd.ntmps13
  go_wp2_with (go_at_call 12; refine (specOk_yes x h _).mono ?_; rintro e w1 ⟨rfl, rfl⟩)
  go_ret
  exact ⟨rfl, rfl⟩
theorem specEpoch_no (x : Int) (u : x ≤ 9223372036854775807) (h : ¬ isPl x) (w : World) :
    Calls Tryd.prog 13 #[.int .i64 x] w fun e w' => e = .returned (.int .i64 0) ∧ w = w' := by
  go_enter Tryd.func13, Tryd.ntmps13
  go_wp2_with (go_at_call 12; refine (specOk_no x u h _).mono ?_; rintro e w1 ⟨rfl, rfl⟩)
  go_ret
  exact ⟨rfl, rfl⟩
theorem specOff_yes (x : Int) (h : isPl x) (w : World) :
    Calls Tryd.prog 14 #[.int .i64 x] w fun e w' => e = .returned (.int .i64 (x % 4294967296)) ∧ w = w' := by
  have hx := h
  obtain ⟨h0, h1, h2, h3, h4⟩ := hx
  have hx : x ≤ 9223372036854775807 := by omega
  go_enter Tryd.func14, Tryd.ntmps14
  go_wp2_with (go_at_call 12; refine (specOk_yes x h _).mono ?_; rintro e w1 ⟨rfl, rfl⟩)
  go_ret
  exact ⟨rfl, rfl⟩
theorem specOff_no (x : Int) (u : x ≤ 9223372036854775807) (h : ¬ isPl x) (w : World) :
    Calls Tryd.prog 14 #[.int .i64 x] w fun e w' => e = .returned (.int .i64 0) ∧ w = w' := by
  go_enter Tryd.func14, Tryd.ntmps14
  go_wp2_with (go_at_call 12; refine (specOk_no x u h _).mono ?_; rintro e w1 ⟨rfl, rfl⟩)
  go_ret
  exact ⟨rfl, rfl⟩
end Go.Proofs.YtmccaaemhndolaaDoor
