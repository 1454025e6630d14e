/- The walk of the law FnPlaces: it returns true at every argument, and writes nothing that was there. -/
import Derived.Test.YthdbmnjkiijgeaaDoorPlaceJ
import Derived.Test.YthdbmnjkiijgeaaDoorDrawB
import Derived.Test.YthdbmnjkiijgeaaDoorRowB
namespace Go.Proofs.YthdbmnjkiijgeaaDoor
open Go.ChangeShapes Go.WideShapes Go.ChangeAt Go.RowKit
set_option linter.unusedVariables false

theorem big_yes (a : Option Addr) (len cap : Nat) (h : 1048576 < len) (h' : len ≤ 9223372036854775807) (w : World) :
    Calls Tryd.prog 7 #[.slice a len cap] w fun e w' => e = .returned (.bool true) ∧ w = w' := by
  have hz : (1048576 : Int) < (len : Int) := by omega
  go_enter Tryd.func7, Tryd.ntmps7
  go_wp2
  go_ret
  exact ⟨rfl, rfl⟩
theorem big_no (a : Option Addr) (len cap : Nat) (h : ¬ 1048576 < len) (w : World) :
    Calls Tryd.prog 7 #[.slice a len cap] w fun e w' => e = .returned (.bool false) ∧ w = w' := by
  have hz : ¬ ((1048576 : Int) < (len : Int)) := by omega
  go_enter Tryd.func7, Tryd.ntmps7
  go_wp2
  go_ret
  exact ⟨rfl, rfl⟩
/-- PlaceOk of impl and of spec at one number. -/
theorem ok_both (y : Int) (hy : I64 y) : ∃ b : Bool, (∀ w : World, Calls Tryd.prog 11 #[.int .i64 y] w fun e w' => e = .returned (.bool b) ∧ Below w.heap.size w w') ∧ (∀ w : World, Calls Tryd.prog 15 #[.int .i64 y] w fun e w' => e = .returned (.bool b) ∧ w = w') := by
  by_cases h : isPl y
  · exact ⟨true, implOk_yes y h, specOk_yes y h⟩
  · exact ⟨false, implOk_no y hy.1 hy.2 h, specOk_no y hy.2 h⟩
theorem pl_of' (a b : Int) (h1 : 1 ≤ a) (h2 : a ≤ 30) (h3 : 1 ≤ b) (h4 : b ≤ 60) : isPl (a * 4294967296 + b) ∧ (a * 4294967296 + b) / 4294967296 = a ∧ (a * 4294967296 + b) % 4294967296 = b := by
  unfold isPl; omega
theorem not_pl0 : ¬ isPl 0 := by unfold isPl; omega
theorem empty_ne (a b : Nat) (h1 : 1 ≤ a) (h2 : a ≤ 30) (h3 : 1 ≤ b) (h4 : b ≤ 60) : (⟨#[]⟩ : ByteArray) ≠ plTextB a b := by
  intro e
  have := plTextB_size a b (by omega) (by omega)
  rw [← e] at this
  have h0 : (⟨#[]⟩ : ByteArray).size = 0 := rfl
  omega
set_option maxHeartbeats 2000000 in
theorem walkFnPlaces (a0 : Option Addr) (len0 cap0 : Nat) (z0 : List Int) (w : World) (w0 : IsRow .u8 w a0 len0 cap0 z0) (hd : Door w) :
    Calls Tryd.prog 3 #[.slice a0 len0 cap0] w fun e w' => e = .returned (.bool true) ∧ Below w.heap.size w w' := by
  have hr := row8_of w0
  clear w0
  by_cases hbig : 1048576 < len0
  · go_enter Tryd.func3, Tryd.ntmps3
    go_wp2_with (go_at_call 7; refine (big_yes _ _ _ hbig hr.1 _).mono ?_; rintro e w1 ⟨rfl, rfl⟩)
    go_ret
    exact ⟨rfl, Below.refl _ _⟩
  · go_enter Tryd.func3, Tryd.ntmps3
    go_wp2_with (go_at_call 7; refine (big_no _ _ _ hbig _).mono ?_; rintro e w1 ⟨rfl, rfl⟩)
    refine (drawPlaceMake_any _ _ _ _ hr).mono ?_
    rintro e w1 ⟨⟨e0, o0, he, ho, rfl⟩, hb1⟩
    have hd1 := hd.below hb1
    have hr1 := hr.below hb1
    by_cases hin : e0 < 1 ∨ 30 < e0 ∨ o0 < 1 ∨ 60 < o0
    · have C2 : Hid (∀ w : World, Calls Tryd.prog 13 #[.int .i64 0] w fun e w' => e = .returned (.string ⟨#[]⟩) ∧ Below w.heap.size w w') := implText_no 0 (by omega) (by omega) not_pl0
      have C3 : Hid (∀ w : World, Calls Tryd.prog 11 #[.int .i64 0] w fun e w' => e = .returned (.bool false) ∧ Below w.heap.size w w') := implOk_no 0 (by omega) (by omega) not_pl0
      have C4 := hide (implRead_no ⟨#[]⟩ (by decide) empty_ne)
      go_wp2_with (first | (go_at_call 9; refine (implMake_no _ _ hin _).mono ?_; rintro e w2 ⟨rfl, hb2⟩) | (go_at_call 10; refine (specMake_no _ _ hin _).mono ?_; rintro e w3 ⟨rfl, rfl⟩))
      have hb2' := hb1.trans (hb2.mono hb1.size)
      refine (unhide C3 _).mono ?_
      rintro e w3 ⟨rfl, hb3⟩
      have hb3' := hb2'.trans (hb3.mono hb2'.size)
      go_wp2_with fail
      refine (unhide C2 _).mono ?_
      rintro e w4 ⟨rfl, hb4⟩
      have hb4' := hb3'.trans (hb4.mono hb3'.size)
      have hd4 := hd.below hb4'
      have hr4 := hr.below hb4'
      go_wp2_with fail
      refine (unhide C4 _ hd4).mono ?_
      rintro e w5 ⟨rfl, hb5⟩
      have hb5' := hb4'.trans (hb5.mono hb4'.size)
      have hr5 := hr.below hb5'
      go_wp2_with fail
      refine (drawPlaceOk_any _ _ _ _ hr5).mono ?_
      rintro e w6 ⟨⟨y, hy, rfl⟩, hb6⟩
      have hb6' := hb5'.trans (hb6.mono hb5'.size)
      obtain ⟨b, y1, y2⟩ := ok_both y hy
      have Y1 := hide y1
      have Y2 := hide y2
      clear y1 y2 hb1 hb2 hb2' hb3 hb3' hb4 hb4' hb5 hb5' hb6
      go_wp2_with fail
      refine (unhide Y1 _).mono ?_
      rintro e w7 ⟨rfl, hb7⟩
      have hb7' := hb6'.trans (hb7.mono hb6'.size)
      go_wp2_with (go_at_call 15; refine (unhide Y2 _).mono ?_; rintro e w8 ⟨rfl, rfl⟩)
      refine (unhide C2 _).mono ?_
      rintro e w8 ⟨rfl, hb8⟩
      go_wp2
      go_ret
      exact ⟨by simp, hb7'.trans (hb8.mono hb7'.size)⟩
    · obtain ⟨a, rfl⟩ := Int.eq_ofNat_of_zero_le (show 0 ≤ e0 by omega)
      obtain ⟨b, rfl⟩ := Int.eq_ofNat_of_zero_le (show 0 ≤ o0 by omega)
      have g1 : 1 ≤ a := by omega
      have g2 : a ≤ 30 := by omega
      have g3 : 1 ≤ b := by omega
      have g4 : b ≤ 60 := by omega
      obtain ⟨p1, p2, p3⟩ := pl_of' a b (by omega) (by omega) (by omega) (by omega)
      have C1 : Hid (∀ w : World, Calls Tryd.prog 9 #[.int .i64 (a : Int), .int .i64 (b : Int)] w fun e w' => e = .returned (.tuple #[.int .i64 ((a : Int) * 4294967296 + b), .bool true]) ∧ Below w.heap.size w w') := implMake_yes a b (by omega) (by omega) (by omega) (by omega)
      have C2 : Hid (∀ w : World, Calls Tryd.prog 13 #[.int .i64 ((a : Int) * 4294967296 + b)] w fun e w' => e = .returned (.string (plTextB a b)) ∧ Below w.heap.size w w') := fun w => by
        have := implText_yes _ p1 w
        rwa [p2, p3, Int.toNat_natCast, Int.toNat_natCast] at this
      have C3 : Hid (∀ w : World, Calls Tryd.prog 11 #[.int .i64 ((a : Int) * 4294967296 + b)] w fun e w' => e = .returned (.bool true) ∧ Below w.heap.size w w') := implOk_yes _ p1
      have C4 : Hid (∀ w : World, Door w → Calls Tryd.prog 12 #[.string (plTextB a b)] w fun e w' => e = .returned (.tuple #[.int .i64 ((a : Int) * 4294967296 + b), .bool true]) ∧ Below w.heap.size w w') := implRead_yes a b g1 g2 g3 g4
      have C5 : Hid (∀ w : World, Calls Tryd.prog 16 #[.int .i64 ((a : Int) * 4294967296 + b)] w fun e w' => e = .returned (.int .i64 (a : Int)) ∧ Below w.heap.size w w') := fun w => by
        have := implEpoch_yes _ p1 w
        rwa [p2] at this
      have C6 : Hid (∀ w : World, Calls Tryd.prog 17 #[.int .i64 ((a : Int) * 4294967296 + b)] w fun e w' => e = .returned (.int .i64 (b : Int)) ∧ Below w.heap.size w w') := fun w => by
        have := implOff_yes _ p1 w
        rwa [p3] at this
      have C7 : Hid (∀ w : World, ∃ z : Int, Calls Tryd.prog 10 #[.int .i64 (a : Int), .int .i64 (b : Int)] w fun e w' => e = .returned (.tuple #[.int .i64 z, .bool true]) ∧ w = w') := fun w => ⟨_, specMake_yes a b (by omega) (by omega) (by omega) (by omega) w⟩
      clear p1 p2 p3 hin
      generalize plTextB a b = T at *
      generalize (a : Int) * 4294967296 + b = X at *
      go_wp2_with fail
      refine (unhide C1 _).mono ?_
      rintro e w2 ⟨rfl, hb2⟩
      have hb2' := hb1.trans (hb2.mono hb1.size)
      go_wp2_with fail
      obtain ⟨z, hz⟩ := unhide C7 w2
      refine hz.mono ?_
      clear hz
      rintro e w3 ⟨rfl, rfl⟩
      go_wp2_with fail
      refine (unhide C3 _).mono ?_
      rintro e w3 ⟨rfl, hb3⟩
      have hb3' := hb2'.trans (hb3.mono hb2'.size)
      go_wp2_with fail
      refine (unhide C2 _).mono ?_
      rintro e w4 ⟨rfl, hb4⟩
      have hb4' := hb3'.trans (hb4.mono hb3'.size)
      have hd4 := hd.below hb4'
      go_wp2_with fail
      refine (unhide C4 _ hd4).mono ?_
      rintro e w5 ⟨rfl, hb5⟩
      have hb5' := hb4'.trans (hb5.mono hb4'.size)
      have hr5 := hr.below hb5'
      go_wp2_with fail
      refine (drawPlaceOk_any _ _ _ _ hr5).mono ?_
      rintro e w6 ⟨⟨y, hy, rfl⟩, hb6⟩
      have hb6' := hb5'.trans (hb6.mono hb5'.size)
      obtain ⟨q, y1, y2⟩ := ok_both y hy
      have Y1 := hide y1
      have Y2 := hide y2
      clear y1 y2 hb1 hb2 hb2' hb3 hb3' hb4 hb4' hb5 hb5' hb6
      go_wp2_with fail
      refine (unhide Y1 _).mono ?_
      rintro e w7 ⟨rfl, hb7⟩
      have hb7' := hb6'.trans (hb7.mono hb6'.size)
      go_wp2_with (go_at_call 15; refine (unhide Y2 _).mono ?_; rintro e w8 ⟨rfl, rfl⟩)
      refine (unhide C5 _).mono ?_
      rintro e w8 ⟨rfl, hb8⟩
      have hb8' := hb7'.trans (hb8.mono hb7'.size)
      go_wp2_with fail
      refine (unhide C6 _).mono ?_
      rintro e w9 ⟨rfl, hb9⟩
      go_wp2
      go_ret
      exact ⟨by simp, hb8'.trans (hb9.mono hb8'.size)⟩
end Go.Proofs.YthdbmnjkiijgeaaDoor
