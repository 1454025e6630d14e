/- The contract of impl's PlaceRead, and the walk of the law FnExactPlaceRead. -/
import Derived.Test.YthdbmnjkiijgeaaDoorPlaceI
namespace Go.Proofs.YthdbmnjkiijgeaaDoor
open Go.ChangeShapes Go.WideShapes Go.ChangeAt Go.RowKit
set_option linter.unusedVariables false

theorem index_dot (ds r : List UInt8) (hd : ∀ c ∈ ds, dig c = true) : Lib.index (ds ++ 46 :: r) [46] = ds.length := by
  induction ds with
  | nil => simp [Lib.index]
  | cons c t ih =>
    have hc : c ≠ 46 := by
      rintro rfl
      have := hd 46 (by simp)
      exact absurd this (by decide)
    have ih' := ih fun x hx => hd x (by simp [hx])
    have hne : ¬ (46 : UInt8) = c := fun e => hc e.symm
    simp only [List.cons_append, Lib.index, ih']
    simp [List.isPrefixOf, hne]
theorem cut_dot (ds r : List UInt8) (hd : ∀ c ∈ ds, dig c = true) : Lib.cut (ds ++ 46 :: r) [46] = (ds, r, true) := by
  unfold Lib.cut
  rw [index_dot ds r hd, if_pos (by omega)]
  simp
theorem trim_pl (a b : Nat) : trimB (plTextB a b) = ⟨(Lib.decDigits a ++ 46 :: Lib.decDigits b).toArray⟩ := by
  unfold trimB
  rw [plTextB_list]
  simp [Lib.trimPrefix, Lib.hasPrefix, plText]
theorem cutA_pl (a b : Nat) (ha : a < 100) : (cutA (trimB (plTextB a b))).data.toList = Lib.decDigits a := by
  rw [trim_pl]; simp only [cutA]; rw [cut_dot _ _ (dec_dig ha)]
theorem cutB_pl (a b : Nat) (ha : a < 100) : (cutB (trimB (plTextB a b))).data.toList = Lib.decDigits b := by
  rw [trim_pl]; simp only [cutB]; rw [cut_dot _ _ (dec_dig ha)]
def dec2 (n : Nat) : List UInt8 := if n < 10 then [UInt8.ofNat (48 + n)] else [UInt8.ofNat (48 + n / 10), UInt8.ofNat (48 + n % 10)]
theorem dec2_eq {n : Nat} (h : n < 100) : Lib.decDigits n = dec2 n := by
  unfold dec2
  by_cases h1 : n < 10
  · rw [Lib.decDigits_one h1, if_pos h1]
  · rw [Lib.decDigits_two h1 h, if_neg h1]
def okIs (e : Lib.NumEnd Int) (n : Nat) : Bool := match e with | .ok v => v == (n : Int) | _ => false
theorem okIs_eq {e : Lib.NumEnd Int} {n : Nat} (h : okIs e n = true) : e = .ok (n : Int) := by
  cases e <;> simp [okIs] at h ⊢
  exact h
theorem atoi_all100 : (List.range 100).all (fun n => okIs (Lib.atoiAll (dec2 n)) n) = true := by decide +kernel
theorem atoi_dec {n : Nat} (h : n < 100) : Lib.atoiAll (Lib.decDigits n) = .ok (n : Int) := by
  rw [dec2_eq h]
  exact okIs_eq (List.all_eq_true.1 atoi_all100 n (by simpa using h))
theorem parse_yes (a b : Nat) (h1 : 1 ≤ a) (h2 : a ≤ 30) (h3 : 1 ≤ b) (h4 : b ≤ 60) (w : World) (hd : Door w) :
    Calls Tryd.prog 28 #[.string (plTextB a b)] w fun e w' => e = .returned (.agg #[.int .i64 (a : Int), .int .i64 (b : Int)]) ∧ Below w.heap.size w w' :=
  parse_eq _ (by have := plTextB_size a b (by omega) (by omega); omega) w hd a b (by rw [cutA_pl a b (by omega)]; exact atoi_dec (by omega)) (by rw [cutB_pl a b (by omega)]; exact atoi_dec (by omega)) a b h1 h2 h3 h4 rfl rfl (by simp)
theorem parse_no (s : ByteArray) (hs : s.size ≤ 4294967200) (h : ∀ a b : Nat, 1 ≤ a → a ≤ 30 → 1 ≤ b → b ≤ 60 → s ≠ plTextB a b) (w : World) (hd : Door w) :
    Calls Tryd.prog 28 #[.string s] w fun e w' => e = .returned (.agg #[.int .i64 0, .int .i64 0]) ∧ Below w.heap.size w w' := by
  by_cases g1 : ∃ v, Lib.atoiAll (cutA (trimB s)).data.toList = .ok v
  · by_cases g2 : ∃ v, Lib.atoiAll (cutB (trimB s)).data.toList = .ok v
    · obtain ⟨v1, g1⟩ := g1
      obtain ⟨v2, g2⟩ := g2
      by_cases hr : v1 < 1 ∨ 30 < v1 ∨ v2 < 1 ∨ 60 < v2
      · exact parse_out s hs w hd v1 v2 g1 g2 hr
      · obtain ⟨a, rfl⟩ := Int.eq_ofNat_of_zero_le (show 0 ≤ v1 by omega)
        obtain ⟨b, rfl⟩ := Int.eq_ofNat_of_zero_le (show 0 ≤ v2 by omega)
        exact parse_ne s hs w hd _ _ g1 g2 a b (by omega) (by omega) (by omega) (by omega) rfl rfl (toList_ne (h a b (by omega) (by omega) (by omega) (by omega)).symm)
    · exact parse_fail s hs w hd (.inr fun v hv => g2 ⟨v, hv⟩)
  · exact parse_fail s hs w hd (.inl fun v hv => g1 ⟨v, hv⟩)
theorem on1 {w w2 : World} {x y : Value} {T : TypeId} : Below w.heap.size w (w.alloc (.cells #[x, y] T)) := (Below.refl _ _).alloc (Nat.le_refl _) _
set_option maxHeartbeats 1000000 in
theorem implRead_yes (a b : Nat) (h1 : 1 ≤ a) (h2 : a ≤ 30) (h3 : 1 ≤ b) (h4 : b ≤ 60) (w : World) (hd : Door w) :
    Calls Tryd.prog 12 #[.string (plTextB a b)] w fun e w' => e = .returned (.tuple #[.int .i64 ((a : Int) * 4294967296 + b), .bool true]) ∧ Below w.heap.size w w' := by
  have C1 := hide (parse_yes a b h1 h2 h3 h4)
  generalize plTextB a b = s at *
  go_enter Tryd.func12, Tryd.ntmps12
  go_wp2_with (go_at_call 28; refine (unhide C1 _ hd).mono ?_; rintro e w1 ⟨rfl, hb1⟩)
  go_region_with (first | (go_at_call 24; refine (number_in a b (by omega) (by omega) (by omega) (by omega) _).mono ?_; rintro e w' ⟨rfl, rfl⟩) | (go_at_call 25; refine (isPlace_yes a b (by omega) _).mono ?_; rintro e w' ⟨rfl, rfl⟩))
  all_goals
    go_wp2
    go_ret2
    refine ⟨rfl, ?_⟩
    have := hb1.size
    refine hb1.trans ?_
    refine Below.mono (B := w1.heap.size) ?_ hb1.size
    go_grown
set_option maxHeartbeats 1000000 in
theorem implRead_no (s : ByteArray) (hs : s.size ≤ 4294967200) (h : ∀ a b : Nat, 1 ≤ a → a ≤ 30 → 1 ≤ b → b ≤ 60 → s ≠ plTextB a b) (w : World) (hd : Door w) :
    Calls Tryd.prog 12 #[.string s] w fun e w' => e = .returned (.tuple #[.int .i64 0, .bool false]) ∧ Below w.heap.size w w' := by
  have C1 := hide (parse_no s hs h)
  clear h
  go_enter Tryd.func12, Tryd.ntmps12
  go_wp2_with (go_at_call 28; refine (unhide C1 _ hd).mono ?_; rintro e w1 ⟨rfl, hb1⟩)
  go_region_with (first | (go_at_call 24; refine (number_in 0 0 (by omega) (by omega) (by omega) (by omega) _).mono ?_; rintro e w' ⟨rfl, rfl⟩) | (go_at_call 25; refine (isPlace_no _).mono ?_; rintro e w' ⟨rfl, rfl⟩))
  all_goals
    go_wp2
    go_ret2
    refine ⟨rfl, ?_⟩
    refine hb1.trans ?_
    refine Below.mono (B := w1.heap.size) ?_ hb1.size
    go_grown
end Go.Proofs.YthdbmnjkiijgeaaDoor
