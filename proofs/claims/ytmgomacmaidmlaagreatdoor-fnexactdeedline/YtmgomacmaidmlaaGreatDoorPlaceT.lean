/- Contracts of the functions that write places: impl's text and PlaceText, spec's l1Num and PlaceText. -/
import Derived.Test.YtmgomacmaidmlaaGreatDoorPlaceC
import Derived.Test.YtmgomacmaidmlaaGreatDoorShelf
import Derived.Deep.QuietTactic
import Derived.BigQuiet
import Derived.WalkSmall
import Derived.Laws.BytesArg
import Derived.Laws.IdiomStrings
namespace Go.Proofs.YtmgomacmaidmlaaGreatDoor
open Go.ChangeShapes Go.WideShapes Go.ChangeAt Go.RowKit
set_option linter.unusedVariables false

/-- The bytes of the text of a place. -/
def plText (a b : Nat) : List UInt8 := 101 :: (Lib.decDigits a ++ 46 :: Lib.decDigits b)
def plTextB (a b : Nat) : ByteArray := ⟨(plText a b).toArray⟩
def plT1 (a : Nat) : ByteArray := ⟨(101 :: Lib.decDigits a).toArray⟩
def plT2 (a : Nat) : ByteArray := ⟨(101 :: (Lib.decDigits a ++ [46])).toArray⟩
theorem dec_len {n : Nat} (h : n < 100) : (Lib.decDigits n).length ≤ 2 := by
  by_cases h1 : n < 10
  · rw [Lib.decDigits_one h1]; simp
  · rw [Lib.decDigits_two h1 h]; simp
theorem bsize (l : List UInt8) : (⟨l.toArray⟩ : ByteArray).size = l.length := by show l.toArray.size = _; simp
theorem badd (x y : List UInt8) : (⟨x.toArray⟩ ++ ⟨y.toArray⟩ : ByteArray) = ⟨(x ++ y).toArray⟩ := by
  apply ByteArray.ext; simp
theorem add1 (a : Nat) (h : a < 100) (w : World) : (Op.stringOp .add ⟨#[101]⟩ ⟨(Lib.decDigits a).toArray⟩).run Tryz.prog w = .ok (.string (plT1 a)) w := by
  have := dec_len h
  rw [run_string_add_sum _ _ _ (by rw [bsize (Lib.decDigits a), bsize [101]]; simp; omega), badd [101]]; rfl
theorem add2 (a : Nat) (h : a < 100) (w : World) : (Op.stringOp .add (plT1 a) ⟨#[46]⟩).run Tryz.prog w = .ok (.string (plT2 a)) w := by
  have := dec_len h
  rw [plT1, run_string_add_sum _ _ _ (by rw [bsize, bsize [46]]; simp; omega), badd _ [46]]; rfl
theorem add3 (a b : Nat) (h : a < 100) (h' : b < 100) (w : World) : (Op.stringOp .add (plT2 a) ⟨(Lib.decDigits b).toArray⟩).run Tryz.prog w = .ok (.string (plTextB a b)) w := by
  have := dec_len h
  have := dec_len h'
  rw [plT2, run_string_add_sum _ _ _ (by rw [bsize, bsize]; simp; omega), badd, plTextB, plText]; simp

set_option maxHeartbeats 400000 in
theorem text_yes (a b : Nat) (h1 : 1 ≤ a) (h2 : a ≤ 30) (h3 : 1 ≤ b) (h4 : b ≤ 60) (w : World) :
    Calls Tryz.prog 104 #[.agg #[.int .i64 a, .int .i64 b]] w fun e w' => e = .returned (.string (plTextB a b)) ∧ Below w.heap.size w w' := by
  have e1 := add1 a (by omega)
  have e2 := add2 a (by omega)
  have e3 := add3 a b (by omega) (by omega)
  go_enter Tryz.func104, Tryz.ntmps104
  go_wp2_with (go_at_call 51; refine (isPlace_yes a b (by omega) _).mono ?_; rintro e w1 ⟨rfl, rfl⟩)
  go_quiet ((go_at_call 33; exact Calls.quiet_of_same (Tryz.strconv_Itoa_small _ (by omega) _)))
  go_wp2
  go_ret
  exact ⟨rfl, below_drewN ((Below.refl _ _).alloc (by simp) _ |>.alloc (by simp) _) _⟩
set_option maxHeartbeats 400000 in
theorem text_no (w : World) :
    Calls Tryz.prog 104 #[.agg #[.int .i64 0, .int .i64 0]] w fun e w' => e = .returned (.string ⟨#[]⟩) ∧ Below w.heap.size w w' := by
  go_enter Tryz.func104, Tryz.ntmps104
  go_wp2_with (go_at_call 51; refine (isPlace_no _).mono ?_; rintro e w1 ⟨rfl, rfl⟩)
  go_ret
  exact ⟨rfl, by go_grown⟩
/-- The digits of a number, none of 0. -/
def decP (u : Nat) : List UInt8 := if u = 0 then [] else Lib.decDigits u
theorem decP_step (m : Nat) (h : m ≠ 0) : decP m = decP (m / 10) ++ [UInt8.ofNat (48 + m % 10)] := by
  unfold decP
  rw [if_neg h]
  by_cases h1 : m < 10
  · rw [Lib.decDigits_one h1, if_pos (by omega), Nat.mod_eq_of_lt h1]; rfl
  · rw [if_neg (by omega)]
    conv => lhs; unfold Lib.decDigits
    rw [dif_neg h1]
def digB (m : Nat) : ByteArray := ⟨#[UInt8.ofNat (48 + m % 10)]⟩
def digL (m : Nat) (l : List UInt8) : ByteArray := ⟨(UInt8.ofNat (48 + m % 10) :: l).toArray⟩
theorem conv1 (m : Nat) (w : World) : (convert 41 9 (.slice (some ⟨w.heap.size, 0, none⟩) 1 1)).run Tryz.prog (w.alloc (.cells #[.int .u8 (48 + (m : Int) % 10)] 5)) = .ok (.string (digB m)) (w.alloc (.cells #[.int .u8 (48 + (m : Int) % 10)] 5)) := by
  have h := run_convert_bytes_back (P := Tryz.prog) (w.alloc (.cells #[.int .u8 (48 + (m : Int) % 10)] 5)) 41 9 5 ⟨w.heap.size, 0, none⟩ 1 [UInt8.ofNat (48 + m % 10)] Tryz.underlying41 Tryz.underlying5 Tryz.underlying9 (fun j hj => by
    have : j = 0 := by simpa using hj
    subst this
    have e : (UInt8.ofNat (48 + m % 10)).toNat = 48 + m % 10 := by simp; omega
    simp [go_sem]
    omega)
  exact h
theorem addL (m : Nat) (l : List UInt8) (h : l.length ≤ 9223372036854775800) (w : World) : (Op.stringOp .add (digB m) ⟨l.toArray⟩).run Tryz.prog w = .ok (.string (digL m l)) w := by
  rw [digB, run_string_add_sum _ _ _ (by rw [bsize l, bsize [UInt8.ofNat (48 + m % 10)]]; simp; omega), badd [UInt8.ofNat (48 + m % 10)]]; rfl
set_option maxHeartbeats 400000 in
set_option maxRecDepth 100000 in
theorem l1Num_yes (n : Nat) (h1 : 1 ≤ n) (h2 : n ≤ 9223372036854775807) (w : World) :
    Calls Tryz.prog 13 #[.int .i64 n] w fun e w' => e = .returned (.string ⟨(Lib.decDigits n).toArray⟩) ∧ Below w.heap.size w w' := by
  have hn : ¬ ((n : Int) ≤ 0) := by omega
  go_enter Tryz.func13, Tryz.ntmps13
  go_wp2
  go_loopw [3, 0] (fun o v w' => ∃ (m : Nat) (l : List UInt8), v = .int .i64 m ∧ o = .string ⟨l.toArray⟩ ∧ Hid (decP m ++ l = Lib.decDigits n) ∧ 2 * l.length + m ≤ n + 1 ∧ (1 ≤ m → 2 * l.length + m ≤ n) ∧ m ≤ n ∧ l.length ≤ 9223372036854775800 ∧ Below w.heap.size w w') (fun _ v _ => (intOf v).toNat)
  case atStart => exact ⟨n, [], rfl, rfl, by show decP n ++ [] = _; simp [decP]; omega, by simp, by simp, Nat.le_refl _, by simp, Below.refl _ _⟩
  case round =>
    obtain ⟨m, l, rfl, rfl, hd, hl, hl1, hmn, hll, hb⟩ := hrel
    have HL := hide hl1
    clear hl1
    by_cases hm : 0 < m
    · have hm' : ¬ ((m : Int) ≤ 0) := by omega
      have ec := conv1 m wr
      have ea := addL m l hll
      go_wp2
      go_roundw
      case rel =>
        refine ⟨m / 10, UInt8.ofNat (48 + m % 10) :: l, by go_num, rfl, ?_, ?_, ?_, by omega, ?_, (hb.alloc hb.size _)⟩
        all_goals have hl1 := unhide HL (by omega)
        · show decP (m / 10) ++ UInt8.ofNat (48 + m % 10) :: l = _
          rw [← hd, decP_step m (by omega)]; simp
        · simp only [List.length_cons]; omega
        · simp only [List.length_cons]; omega
        · simp only [List.length_cons]; omega
      case measure => simp [intOf]; omega
    · obtain rfl : m = 0 := by omega
      go_wp2
      go_ret
      exact ⟨by rw [← hd]; rfl, hb⟩
theorem specText_yes (x : Int) (h : isPl x) (w : World) :
    Calls Tryz.prog 14 #[.int .i64 x] w fun e w' => e = .returned (.string (plTextB (x / 4294967296).toNat (x % 4294967296).toNat)) ∧ Below w.heap.size w w' := by
  have hh := h
  obtain ⟨h0, h1, h2, h3, h4⟩ := hh
  obtain ⟨a, ha⟩ := Int.eq_ofNat_of_zero_le (show 0 ≤ x / 4294967296 by omega)
  obtain ⟨b, hb⟩ := Int.eq_ofNat_of_zero_le (show 0 ≤ x % 4294967296 by omega)
  rw [ha, hb, Int.toNat_natCast, Int.toNat_natCast]
  rw [ha] at h1 h2
  rw [hb] at h3 h4
  have e1 := add1 a (by omega)
  have e2 := add2 a (by omega)
  have e3 := add3 a b (by omega) (by omega)
  have C1 : Hid (∀ w, Calls Tryz.prog 20 #[.int .i64 x] w fun e w' => e = .returned (.int .i64 (a : Int)) ∧ w = w') := fun w => by have := specEpoch_yes x h w; rwa [ha] at this
  have C2 : Hid (∀ w, Calls Tryz.prog 21 #[.int .i64 x] w fun e w' => e = .returned (.int .i64 (b : Int)) ∧ w = w') := fun w => by have := specOff_yes x h w; rwa [hb] at this
  have H := hide h
  clear ha hb h h0
  go_enter Tryz.func14, Tryz.ntmps14
  go_wp2_with (first | (go_at_call 9; refine (specOk_yes x (unhide H) _).mono ?_; rintro e w1 ⟨rfl, rfl⟩) | (go_at_call 20; refine (unhide C1 _).mono ?_; rintro e w1 ⟨rfl, rfl⟩))
  refine (l1Num_yes a (by omega) (by omega) _).mono ?_
  rintro e w1 ⟨rfl, hb1⟩
  go_wp2_with (go_at_call 21; refine (unhide C2 _).mono ?_; rintro e w2 ⟨rfl, rfl⟩)
  refine (l1Num_yes b (by omega) (by omega) _).mono ?_
  rintro e w2 ⟨rfl, hb2⟩
  go_wp2
  go_ret
  exact ⟨rfl, hb1.trans (hb2.mono hb1.size)⟩
theorem specText_no (x : Int) (u : x ≤ 9223372036854775807) (h : ¬ isPl x) (w : World) :
    Calls Tryz.prog 14 #[.int .i64 x] w fun e w' => e = .returned (.string ⟨#[]⟩) ∧ w = w' := by
  go_enter Tryz.func14, Tryz.ntmps14
  go_wp2_with (go_at_call 9; refine (specOk_no x u h _).mono ?_; rintro e w1 ⟨rfl, rfl⟩)
  go_ret
  exact ⟨rfl, rfl⟩
theorem implText_yes (x : Int) (h : isPl x) (w : World) :
    Calls Tryz.prog 57 #[.int .i64 x] w fun e w' => e = .returned (.string (plTextB (x / 4294967296).toNat (x % 4294967296).toNat)) ∧ Below w.heap.size w w' := by
  have hh := h
  obtain ⟨h0, h1, h2, h3, h4⟩ := hh
  obtain ⟨a, ha⟩ := Int.eq_ofNat_of_zero_le (show 0 ≤ x / 4294967296 by omega)
  obtain ⟨b, hb⟩ := Int.eq_ofNat_of_zero_le (show 0 ≤ x % 4294967296 by omega)
  have C1 : Hid (∀ w : World, Calls Tryz.prog 50 #[.int .i64 x] w fun e w' => e = .returned (.agg #[.int .i64 (a : Int), .int .i64 (b : Int)]) ∧ Below w.heap.size w w') := fun w => by have := split_yes x h0 h1 h2 h3 h4 w; rwa [ha, hb] at this
  rw [ha, hb, Int.toNat_natCast, Int.toNat_natCast]
  rw [ha] at h1 h2
  rw [hb] at h3 h4
  clear ha hb h h0
  go_enter Tryz.func57, Tryz.ntmps57
  go_wp2_with (first | (go_at_call 50; refine (unhide C1 _).mono ?_; rintro e w1 ⟨rfl, hb1⟩) | (go_at_call 104; refine (text_yes a b (by omega) (by omega) (by omega) (by omega) _).mono ?_; rintro e w2 ⟨rfl, hb2⟩))
  go_ret
  exact ⟨rfl, hb1.trans (hb2.mono hb1.size)⟩
theorem implText_no (x : Int) (l : -9223372036854775808 ≤ x) (u : x ≤ 9223372036854775807) (h : ¬ isPl x) (w : World) :
    Calls Tryz.prog 57 #[.int .i64 x] w fun e w' => e = .returned (.string ⟨#[]⟩) ∧ Below w.heap.size w w' := by
  go_enter Tryz.func57, Tryz.ntmps57
  go_wp2_with (first | (go_at_call 50; refine (split_no x l u h _).mono ?_; rintro e w1 ⟨rfl, hb1⟩) | (go_at_call 104; refine (text_no _).mono ?_; rintro e w2 ⟨rfl, hb2⟩))
  go_ret
  exact ⟨rfl, hb1.trans (hb2.mono hb1.size)⟩
end Go.Proofs.YtmgomacmaidmlaaGreatDoor
