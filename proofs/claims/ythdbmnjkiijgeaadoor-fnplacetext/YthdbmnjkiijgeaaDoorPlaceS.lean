/- Contracts of spec's PlaceRead: it answers a place just for the text of a place. -/
import Derived.Test.YthdbmnjkiijgeaaDoorPlaceR
namespace Go.Proofs.YthdbmnjkiijgeaaDoor
open Go.ChangeShapes Go.WideShapes Go.ChangeAt Go.RowKit
set_option linter.unusedVariables false

theorem scan_stop (ds r : List UInt8) (n : Nat) (hd : ∀ c ∈ ds, dig c = true) (hn : ds.length ≤ n) : scan n (ds ++ 46 :: r) = ds := by
  induction ds generalizing n with
  | nil => exact scan_nil _ _ (.inr (.inr ⟨46, r, rfl, by decide⟩))
  | cons c t ih =>
    cases n with
    | zero => simp at hn
    | succ n =>
      simp only [List.cons_append, scan, hd c (by simp), if_true]
      rw [ih n (fun x hx => hd x (by simp [hx])) (by simpa using hn)]
theorem scan_all (ds : List UInt8) (n : Nat) (hd : ∀ c ∈ ds, dig c = true) (hn : ds.length ≤ n) : scan n ds = ds := by
  induction ds generalizing n with
  | nil => exact scan_nil _ _ (.inl rfl)
  | cons c t ih =>
    cases n with
    | zero => simp at hn
    | succ n =>
      simp only [scan, hd c (by simp), if_true]
      rw [ih n (fun x hx => hd x (by simp [hx])) (by simpa using hn)]
theorem ofNat_dig (k : Nat) (h : k < 10) : (UInt8.ofNat (48 + k)).toNat = 48 + k := by simp; omega
theorem dec_dig {n : Nat} (h : n < 100) : ∀ c ∈ Lib.decDigits n, dig c = true := by
  by_cases h1 : n < 10
  · rw [Lib.decDigits_one h1]
    intro c hc
    obtain rfl : c = UInt8.ofNat (48 + n) := by simpa using hc
    unfold dig; rw [ofNat_dig n h1]; simp; omega
  · rw [Lib.decDigits_two h1 h]
    intro c hc
    have hc' : c = UInt8.ofNat (48 + n / 10) ∨ c = UInt8.ofNat (48 + n % 10) := by simpa using hc
    rcases hc' with rfl | rfl
    · unfold dig; rw [ofNat_dig _ (by omega)]; simp; omega
    · unfold dig; rw [ofNat_dig _ (by omega)]; simp; omega
theorem dec_val {n : Nat} (h : n < 100) : digVal 0 (Lib.decDigits n) = n := by
  by_cases h1 : n < 10
  · rw [Lib.decDigits_one h1]
    simp only [digVal, List.foldl]
    rw [ofNat_dig n h1]; omega
  · rw [Lib.decDigits_two h1 h]
    simp only [digVal, List.foldl]
    rw [ofNat_dig _ (by omega), ofNat_dig _ (by omega)]; omega
theorem dec_pos {n : Nat} (h : n < 100) : 1 ≤ (Lib.decDigits n).length := by
  by_cases h1 : n < 10
  · rw [Lib.decDigits_one h1]; simp
  · rw [Lib.decDigits_two h1 h]; simp
theorem plText_drop1 (a b : Nat) : (plText a b).drop 1 = Lib.decDigits a ++ 46 :: Lib.decDigits b := rfl
theorem rd_first (a b : Nat) (ha : a < 100) : rdVal (plText a b) 1 = a ∧ rdAt (plText a b) 1 = 1 + (Lib.decDigits a).length := by
  unfold rdVal rdAt
  have := dec_len ha
  have := dec_pos ha
  rw [plText_drop1, scan_stop _ _ _ (dec_dig ha) (by omega), if_neg (by omega), dec_val ha]
  exact ⟨rfl, rfl⟩
theorem rd_second (a b : Nat) (hb : b < 100) : rdVal (plText a b) (1 + (Lib.decDigits a).length + 1) = b := by
  unfold rdVal
  have := dec_len hb
  have := dec_pos hb
  have e : (plText a b).drop (1 + (Lib.decDigits a).length + 1) = Lib.decDigits b := by
    rw [show 1 + (Lib.decDigits a).length + 1 = 1 + ((Lib.decDigits a).length + 1) by omega, ← List.drop_drop, plText_drop1, ← List.drop_drop]
    simp
  rw [e, scan_all _ _ (dec_dig hb) (by omega), if_neg (by omega), dec_val hb]
theorem plTextB_list (a b : Nat) : (plTextB a b).data.toList = plText a b := by simp [plTextB]
theorem plTextB_size (a b : Nat) (ha : a < 100) (hb : b < 100) : 4 ≤ (plTextB a b).size ∧ (plTextB a b).size ≤ 6 := by
  rw [Lib.size_eq, plTextB_list]
  have := dec_len ha; have := dec_pos ha; have := dec_len hb; have := dec_pos hb
  simp [plText]; omega
theorem pl_of (a b : Int) (h1 : 1 ≤ a) (h2 : a ≤ 30) (h3 : 1 ≤ b) (h4 : b ≤ 60) : isPl (4294967296 * a + b) ∧ (4294967296 * a + b) / 4294967296 = a ∧ (4294967296 * a + b) % 4294967296 = b := by
  unfold isPl; omega
theorem toList_ne {s t : ByteArray} (h : s ≠ t) : (s.toList == t.toList) = false := by
  rw [beq_eq_false_iff_ne]
  intro e
  apply h
  rw [Lib.toList_data, Lib.toList_data] at e
  exact ByteArray.ext (Array.toList_inj.1 e)
theorem rdAt_le (l : List UInt8) (n : Nat) : n ≤ rdAt l n ∧ rdAt l n ≤ n + 11 := by
  unfold rdAt; have := scan_len 11 (l.drop n); omega

set_option maxHeartbeats 1000000 in
theorem specRead_yes (a b : Nat) (h1 : 1 ≤ a) (h2 : a ≤ 30) (h3 : 1 ≤ b) (h4 : b ≤ 60) (w : World) :
    Calls Tryd.prog 19 #[.string (plTextB a b)] w fun e w' => e = .returned (.tuple #[.int .i64 (4294967296 * (a : Int) + b), .bool true]) ∧ Below w.heap.size w w' := by
  obtain ⟨z1, z2⟩ := plTextB_size a b (by omega) (by omega)
  obtain ⟨r1, r2⟩ := rd_first a b (by omega)
  have r3 := rd_second a b (by omega)
  have da := dec_len (n := a) (by omega)
  obtain ⟨p1, p2, p3⟩ := pl_of a b (by omega) (by omega) (by omega) (by omega)
  have C1 : Hid (∀ w, Calls Tryd.prog 33 #[.string (plTextB a b), .int .i64 1] w fun e w' => e = .returned (.tuple #[.int .i64 (a : Int), .int .i64 ((1 + (Lib.decDigits a).length : Nat) : Int)]) ∧ w = w') := fun w => by
    have := l1Read_any (plTextB a b) 1 (by omega) (by omega) w
    rwa [plTextB_list, r1, r2] at this
  generalize hk : 1 + (Lib.decDigits a).length = k at *
  have C2 : Hid (∀ w, Calls Tryd.prog 33 #[.string (plTextB a b), .int .i64 ((k : Int) + 1)] w fun e w' => e = .returned (.tuple #[.int .i64 (b : Int), .int .i64 ((rdAt (plText a b) (k + 1) : Nat) : Int)]) ∧ w = w') := fun w => by
    have := l1Read_any (plTextB a b) (k + 1) (by omega) (by omega) w
    rwa [plTextB_list, r3] at this
  have C3 : Hid (∀ w : World, Calls Tryd.prog 20 #[.int .i64 (4294967296 * (a : Int) + b)] w fun e w' => e = .returned (.string (plTextB a b)) ∧ Below w.heap.size w w') := fun w => by
    have := specText_yes _ p1 w
    rwa [p2, p3, Int.toNat_natCast, Int.toNat_natCast] at this
  have hk3 : k ≤ 3 := by omega
  generalize hrd : rdAt (plText a b) (k + 1) = q at *
  generalize plTextB a b = s at *
  have Hk := hide hk
  clear hk r1 r2 r3 p1 p2 p3 hrd
  have hz : ¬ ((s.size : Int) < 4) := by omega
  go_enter Tryd.func19, Tryd.ntmps19
  go_wp2_with fail
  refine (unhide C1 _).mono ?_
  rintro e w1 ⟨rfl, rfl⟩
  go_wp2_with fail
  refine (unhide C2 _).mono ?_
  rintro e w1 ⟨rfl, rfl⟩
  go_wp2_with (first | (go_at_call 10; refine (specMake_yes _ _ (by omega) (by omega) (by omega) (by omega) _).mono ?_; rintro e w1 ⟨rfl, rfl⟩) | (go_at_call 20; refine (unhide C3 _).mono ?_; rintro e w1 ⟨rfl, hb1⟩))
  go_ret2
  exact ⟨rfl, hb1⟩
set_option maxHeartbeats 1000000 in
theorem specRead_no (s : ByteArray) (hs : s.size ≤ 4294967200) (h : ∀ a b : Nat, 1 ≤ a → a ≤ 30 → 1 ≤ b → b ≤ 60 → s ≠ plTextB a b) (w : World) :
    Calls Tryd.prog 19 #[.string s] w fun e w' => e = .returned (.tuple #[.int .i64 0, .bool false]) ∧ Below w.heap.size w w' := by
  by_cases hz : (s.size : Int) < 4
  · clear h
    go_enter Tryd.func19, Tryd.ntmps19
    go_wp2
    go_ret2
    exact ⟨rfl, Below.refl _ _⟩
  · obtain ⟨k1, k2⟩ := rdAt_le s.data.toList 1
    have C1 : Hid (∀ w, Calls Tryd.prog 33 #[.string s, .int .i64 1] w fun e w' => e = .returned (.tuple #[.int .i64 (rdVal s.data.toList 1), .int .i64 (rdAt s.data.toList 1 : Nat)]) ∧ w = w') := fun w => l1Read_any s 1 (by omega) (by omega) w
    generalize rdAt s.data.toList 1 = k at *
    generalize rdVal s.data.toList 1 = e0 at *
    have C2 : Hid (∀ w, Calls Tryd.prog 33 #[.string s, .int .i64 ((k : Int) + 1)] w fun e w' => e = .returned (.tuple #[.int .i64 (rdVal s.data.toList (k + 1)), .int .i64 (rdAt s.data.toList (k + 1) : Nat)]) ∧ w = w') := fun w => l1Read_any s (k + 1) (by omega) (by omega) w
    generalize rdAt s.data.toList (k + 1) = k' at *
    generalize rdVal s.data.toList (k + 1) = o0 at *
    by_cases hr : e0 < 1 ∨ 30 < e0 ∨ o0 < 1 ∨ 60 < o0
    · clear h
      go_enter Tryd.func19, Tryd.ntmps19
      go_wp2_with fail
      refine (unhide C1 _).mono ?_
      rintro e w1 ⟨rfl, rfl⟩
      go_wp2_with fail
      refine (unhide C2 _).mono ?_
      rintro e w1 ⟨rfl, rfl⟩
      go_wp2_with (go_at_call 10; refine (specMake_no _ _ hr _).mono ?_; rintro e w1 ⟨rfl, rfl⟩)
      go_ret2
      exact ⟨rfl, Below.refl _ _⟩
    · obtain ⟨a, rfl⟩ := Int.eq_ofNat_of_zero_le (show 0 ≤ e0 by omega)
      obtain ⟨b, rfl⟩ := Int.eq_ofNat_of_zero_le (show 0 ≤ o0 by omega)
      have hne := toList_ne (h a b (by omega) (by omega) (by omega) (by omega)).symm
      obtain ⟨p1, p2, p3⟩ := pl_of a b (by omega) (by omega) (by omega) (by omega)
      have C3 : Hid (∀ w : World, Calls Tryd.prog 20 #[.int .i64 (4294967296 * (a : Int) + b)] w fun e w' => e = .returned (.string (plTextB a b)) ∧ Below w.heap.size w w') := fun w => by
        have := specText_yes _ p1 w
        rwa [p2, p3, Int.toNat_natCast, Int.toNat_natCast] at this
      have hr' : 1 ≤ a ∧ a ≤ 30 ∧ 1 ≤ b ∧ b ≤ 60 := by omega
      clear p1 p2 p3 h hr
      go_enter Tryd.func19, Tryd.ntmps19
      go_wp2_with fail
      refine (unhide C1 _).mono ?_
      rintro e w1 ⟨rfl, rfl⟩
      go_wp2_with fail
      refine (unhide C2 _).mono ?_
      rintro e w1 ⟨rfl, rfl⟩
      go_wp2_with (first | (go_at_call 10; refine (specMake_yes _ _ (by omega) (by omega) (by omega) (by omega) _).mono ?_; rintro e w1 ⟨rfl, rfl⟩) | (go_at_call 20; refine (unhide C3 _).mono ?_; rintro e w1 ⟨rfl, hb1⟩))
      go_ret2
      exact ⟨rfl, hb1⟩
end Go.Proofs.YthdbmnjkiijgeaaDoor
