/- The walk of the law FnPlaceText: it returns true at every argument, and writes nothing that was there. -/
import Derived.Test.YthdbmnjkiijgeaaDoorPlaceRL
import Derived.Test.YthdbmnjkiijgeaaDoorDrawD
import Derived.Test.YthdbmnjkiijgeaaDoorPlaceFL
namespace Go.Proofs.YthdbmnjkiijgeaaDoor
open Go.ChangeShapes Go.WideShapes Go.ChangeAt Go.RowKit
set_option linter.unusedVariables false

/-- PlaceMake at a lesser pair: no place, or a lesser one. -/
theorem make_less (a b X : Int) (hX : ∀ h : 1 ≤ a ∧ a ≤ 30 ∧ 1 ≤ b ∧ b ≤ 60, a * 4294967296 + b < X) (w : World) :
    Calls Tryd.prog 9 #[.int .i64 a, .int .i64 b] w fun e w' => (∃ v f, e = .returned (.tuple #[.int .i64 v, .bool f]) ∧ (f = false ∨ v < X)) ∧ Below w.heap.size w w' := by
  by_cases h : a < 1 ∨ 30 < a ∨ b < 1 ∨ 60 < b
  · exact (implMake_no a b h w).mono fun e w' ⟨h1, h2⟩ => ⟨⟨_, _, h1, .inl rfl⟩, h2⟩
  · exact (implMake_yes a b (by omega) (by omega) (by omega) (by omega) w).mono fun e w' ⟨h1, h2⟩ => ⟨⟨_, _, h1, .inr (hX (by omega))⟩, h2⟩
set_option maxHeartbeats 2000000 in
theorem walkFnPlaceText (a0 : Option Addr) (len0 cap0 : Nat) (z0 : List Int) (w : World) (w0 : IsRow .u8 w a0 len0 cap0 z0) (hd : Door w) :
    Calls Tryd.prog 4 #[.slice a0 len0 cap0] w fun e w' => e = .returned (.bool true) ∧ Below w.heap.size w w' := by
  have hr := row8_of w0
  clear w0
  by_cases hbig : 1048576 < len0
  · go_enter Tryd.func4, Tryd.ntmps4
    go_wp2_with (go_at_call 7; refine (big_yes _ _ _ hbig hr.1 _).mono ?_; rintro e w1 ⟨rfl, rfl⟩)
    go_ret
    exact ⟨rfl, Below.refl _ _⟩
  · go_enter Tryd.func4, Tryd.ntmps4
    go_wp2_with (go_at_call 7; refine (big_no _ _ _ hbig _).mono ?_; rintro e w1 ⟨rfl, rfl⟩)
    refine (drawPlaceRead_any _ _ _ _ hr).mono ?_
    rintro e w1 ⟨⟨s, hs, rfl⟩, hb1⟩
    have hd1 := hd.below hb1
    by_cases h : ∃ a b : Nat, 1 ≤ a ∧ a ≤ 30 ∧ 1 ≤ b ∧ b ≤ 60 ∧ s = plTextB a b
    · obtain ⟨a, b, g1, g2, g3, g4, rfl⟩ := h
      obtain ⟨p1, p2, p3⟩ := pl_of' a b (by omega) (by omega) (by omega) (by omega)
      have C1 : Hid (∀ w : World, Door w → Calls Tryd.prog 12 #[.string (plTextB a b)] w fun e w' => e = .returned (.tuple #[.int .i64 ((a : Int) * 4294967296 + b), .bool true]) ∧ Below w.heap.size w w') := implRead_yes a b g1 g2 g3 g4
      have C2 : Hid (∀ w : World, Calls Tryd.prog 19 #[.string (plTextB a b)] w fun e w' => e = .returned (.tuple #[.int .i64 ((a : Int) * 4294967296 + b), .bool true]) ∧ Below w.heap.size w w') := specRead_yes' a b g1 g2 g3 g4
      have C3 : Hid (∀ w : World, Calls Tryd.prog 16 #[.int .i64 ((a : Int) * 4294967296 + b)] w fun e w' => e = .returned (.int .i64 (a : Int)) ∧ Below w.heap.size w w') := fun w => by
        have := implEpoch_yes _ p1 w
        rwa [p2] at this
      have C4 : Hid (∀ w : World, Calls Tryd.prog 17 #[.int .i64 ((a : Int) * 4294967296 + b)] w fun e w' => e = .returned (.int .i64 (b : Int)) ∧ Below w.heap.size w w') := fun w => by
        have := implOff_yes _ p1 w
        rwa [p3] at this
      have C5 : Hid (∀ w : World, Calls Tryd.prog 13 #[.int .i64 ((a : Int) * 4294967296 + b)] w fun e w' => e = .returned (.string (plTextB a b)) ∧ Below w.heap.size w w') := fun w => by
        have := implText_yes _ p1 w
        rwa [p2, p3, Int.toNat_natCast, Int.toNat_natCast] at this
      have C6 := hide (make_less (a : Int) ((b : Int) - 1) ((a : Int) * 4294967296 + b) (fun h => by omega))
      have C7 := hide (make_less ((a : Int) - 1) 60 ((a : Int) * 4294967296 + b) (fun h => by omega))
      clear p1 p2 p3
      generalize plTextB a b = T at *
      generalize (a : Int) * 4294967296 + b = X at *
      go_wp2_with fail
      refine (unhide C1 _ hd1).mono ?_
      rintro e w2 ⟨rfl, hb2⟩
      have hb2' := hb1.trans (hb2.mono hb1.size)
      go_wp2_with fail
      refine (unhide C2 _).mono ?_
      rintro e w3 ⟨rfl, hb3⟩
      have hb3' := hb2'.trans (hb3.mono hb2'.size)
      go_wp2_with fail
      refine (unhide C3 _).mono ?_
      rintro e w4 ⟨rfl, hb4⟩
      have hb4' := hb3'.trans (hb4.mono hb3'.size)
      go_wp2_with fail
      refine (unhide C4 _).mono ?_
      rintro e w5 ⟨rfl, hb5⟩
      have hb5' := hb4'.trans (hb5.mono hb4'.size)
      go_wp2_with fail
      refine (unhide C6 _).mono ?_
      rintro e w6 ⟨⟨v1, f1, rfl, hf1⟩, hb6⟩
      have hb6' := hb5'.trans (hb6.mono hb5'.size)
      go_wp2_with fail
      refine (unhide C3 _).mono ?_
      rintro e w7 ⟨rfl, hb7⟩
      have hb7' := hb6'.trans (hb7.mono hb6'.size)
      go_wp2_with fail
      refine (unhide C7 _).mono ?_
      rintro e w8 ⟨⟨v2, f2, rfl, hf2⟩, hb8⟩
      have hb8' := hb7'.trans (hb8.mono hb7'.size)
      go_wp2_with fail
      refine (unhide C5 _).mono ?_
      rintro e w9 ⟨rfl, hb9⟩
      have hb9' := hb8'.trans (hb9.mono hb8'.size)
      clear hb1 hb2 hb2' hb3 hb3' hb4 hb4' hb5 hb5' hb6 hb6' hb7 hb7' hb8 hb8' hb9 C1 C2 C3 C4 C5 C6 C7
      cases f1
      all_goals cases f2
      all_goals first | replace hf1 : v1 < X := by simpa using hf1 | clear hf1
      all_goals first | replace hf2 : v2 < X := by simpa using hf2 | clear hf2
      all_goals
        go_wp2
        go_ret
        exact ⟨rfl, hb9'⟩
    · have h' : ∀ a b : Nat, 1 ≤ a → a ≤ 30 → 1 ≤ b → b ≤ 60 → s ≠ plTextB a b := fun a b h1 h2 h3 h4 e => h ⟨a, b, h1, h2, h3, h4, e⟩
      have C1 := hide (specRead_no s (by omega) h')
      have C2 := hide (implRead_no s (by omega) h')
      clear h h'
      go_wp2_with fail
      refine (unhide C2 _ hd1).mono ?_
      rintro e w2 ⟨rfl, hb2⟩
      have hb2' := hb1.trans (hb2.mono hb1.size)
      go_wp2_with fail
      refine (unhide C1 _).mono ?_
      rintro e w3 ⟨rfl, hb3⟩
      go_wp2
      go_ret
      exact ⟨rfl, hb2'.trans (hb3.mono hb2'.size)⟩
end Go.Proofs.YthdbmnjkiijgeaaDoor
