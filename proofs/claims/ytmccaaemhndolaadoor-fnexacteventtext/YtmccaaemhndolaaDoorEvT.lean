/- The text of an event: spec's and impl's EventText, and the walk of FnExactEventText. -/
import Derived.Test.YtmccaaemhndolaaDoorPlaceT
import Derived.Test.YtmccaaemhndolaaDoorOpenEv
import Derived.Test.YtmccaaemhndolaaDoorBoxP
import Derived.Deep.RegionWith
import Derived.Lib.SmallJoins
import Derived.Lib.ItoaLen
import Derived.Lib.AppendIntMem
namespace Go.Proofs.YtmccaaemhndolaaDoor
open Go.ChangeShapes Go.WideShapes Go.ChangeAt Go.RowKit
set_option linter.unusedVariables false
set_option linter.unusedSimpArgs false

/-- The text of a place, empty of what is none. -/
def plS (x : Int) : ByteArray := ⟨(if 0 < x ∧ 1 ≤ x / 4294967296 ∧ x / 4294967296 ≤ 30 ∧ 1 ≤ x % 4294967296 ∧ x % 4294967296 ≤ 60 then plText (x / 4294967296).toNat (x % 4294967296).toNat else []).toArray⟩
theorem specPT_any (x : Int) (u : x ≤ 9223372036854775807) (w : World) : Calls Tryd.prog 8 #[.int .i64 x] w fun e w' => e = .returned (.string (plS x)) ∧ Below w.heap.size w w' := by
  by_cases h : isPl x
  · have e : plS x = plTextB (x / 4294967296).toNat (x % 4294967296).toNat := by unfold plS; rw [if_pos (show 0 < x ∧ 1 ≤ x / 4294967296 ∧ x / 4294967296 ≤ 30 ∧ 1 ≤ x % 4294967296 ∧ x % 4294967296 ≤ 60 from h)]; rfl
    rw [e]
    exact specText_yes x h w
  · have e : plS x = ⟨#[]⟩ := by unfold plS; rw [if_neg (show ¬ (0 < x ∧ 1 ≤ x / 4294967296 ∧ x / 4294967296 ≤ 30 ∧ 1 ≤ x % 4294967296 ∧ x % 4294967296 ≤ 60) from h)]
    rw [e]
    exact (specText_no x u h w).mono fun e w' ⟨h1, h2⟩ => ⟨h1, h2 ▸ Below.refl _ _⟩
theorem implPT_any (x : Int) (l : -9223372036854775808 ≤ x) (u : x ≤ 9223372036854775807) (w : World) : Calls Tryd.prog 10 #[.int .i64 x] w fun e w' => e = .returned (.string (plS x)) ∧ Below w.heap.size w w' := by
  by_cases h : isPl x
  · have e : plS x = plTextB (x / 4294967296).toNat (x % 4294967296).toNat := by unfold plS; rw [if_pos (show 0 < x ∧ 1 ≤ x / 4294967296 ∧ x / 4294967296 ≤ 30 ∧ 1 ≤ x % 4294967296 ∧ x % 4294967296 ≤ 60 from h)]; rfl
    rw [e]
    exact implText_yes x h w
  · have e : plS x = ⟨#[]⟩ := by unfold plS; rw [if_neg (show ¬ (0 < x ∧ 1 ≤ x / 4294967296 ∧ x / 4294967296 ≤ 30 ∧ 1 ≤ x % 4294967296 ∧ x % 4294967296 ≤ 60) from h)]
    rw [e]
    exact implText_no x l u h w
theorem plS_size (x : Int) : (plS x).size ≤ 6 := by
  unfold plS
  split
  · rename_i h
    have h1 := dec_len (n := (x / 4294967296).toNat) (by omega)
    have h2 := dec_len (n := (x % 4294967296).toNat) (by omega)
    rw [bsize]
    unfold plText
    simp
    omega
  · rw [bsize]
    simp
/-- The digits that an epoch is told by: 0 of what is below. -/
def numS (x : Int) : ByteArray := ⟨(Lib.decDigits x.toNat).toArray⟩
theorem numS_size {x : Int} (h : x ≤ 9223372036854775807) : (numS x).size ≤ 20 := by
  unfold numS
  rw [bsize, Lib.decDigits_length]
  exact Lib.nDigits_le20 _ (by omega)
theorem specNum_any (x : Int) (u : x ≤ 9223372036854775807) (w : World) : Calls Tryd.prog 9 #[.int .i64 x] w fun e w' => e = .returned (.string (numS x)) ∧ Below w.heap.size w w' := by
  by_cases h : x ≤ 0
  · have e : numS x = ⟨#[48]⟩ := by
      unfold numS
      rw [show x.toNat = 0 by omega, Lib.decDigits_one (by omega)]
      rfl
    rw [e]
    go_enter Tryd.func9, Tryd.ntmps9
    go_wp2
    go_ret
    exact ⟨rfl, Below.refl _ _⟩
  · obtain ⟨n, rfl⟩ := Int.eq_ofNat_of_zero_le (show 0 ≤ x by omega)
    have := l1Num_yes n (by omega) (by omega) w
    unfold numS
    rwa [Int.toNat_natCast]
def dataB : ByteArray := ⟨#[100, 97, 116, 97, 32]⟩
def holeB : ByteArray := ⟨#[104, 111, 108, 101, 32]⟩
def lossB : ByteArray := ⟨#[108, 111, 115, 115, 32]⟩
def eraB : ByteArray := ⟨#[101, 114, 97, 32]⟩
def trimB : ByteArray := ⟨#[116, 114, 105, 109, 32]⟩
def blankB : ByteArray := ⟨#[32]⟩
/-- The text of an event. -/
def evText (k x : Int) (d : ByteArray) : ByteArray :=
  if k = 1 then (if d = ⟨#[]⟩ then dataB ++ plS x else dataB ++ plS x ++ blankB ++ d)
  else if k = 2 then holeB ++ plS x else if k = 3 then lossB ++ plS x else if k = 4 then eraB ++ numS x else if k = 5 then trimB ++ plS x else ⟨#[]⟩
/-- Texts that are put one behind the other. -/
theorem addS (a b : ByteArray) (h : a.size + b.size ≤ 1048700) : ∀ w : World, (Op.stringOp .add a b).run Tryd.prog w = .ok (.string (a ++ b)) w := fun w => run_string_add_sum _ _ _ (by omega)
theorem sizeS (a b : ByteArray) : (a ++ b).size = a.size + b.size := ByteArray.size_append
theorem dataNil {d : ByteArray} (h : d ≠ ⟨#[]⟩) : d.toList.isEmpty = false := by
  obtain ⟨⟨l⟩⟩ := d
  rw [ByteArray.toList_eq]
  cases l with
  | nil => exact absurd rfl h
  | cons a r => rfl
set_option maxHeartbeats 1000000 in
theorem specEvT_any (k x : Int) (d : ByteArray) (u : x ≤ 9223372036854775807) (hd : d.size ≤ 1048576) (w : World) :
    Calls Tryd.prog 5 #[.agg #[.int .i64 k, .int .i64 x, .string d]] w fun e w' => e = .returned (.string (evText k x d)) ∧ Below w.heap.size w w' := by
  have hp := plS_size x
  have hn := numS_size u
  have ba : ∀ (w : World) o, Below w.heap.size w (w.alloc o) := fun w o => (Below.refl _ _).alloc (Nat.le_refl _) o
  have CP := dHide fun W => specPT_any x u W
  have CN := dHide fun W => specNum_any x u W
  by_cases h1 : k = 1
  · subst h1
    by_cases hdd : d = ⟨#[]⟩
    · subst hdd
      have e1 := addS ⟨#[100, 97, 116, 97, 32]⟩ (plS x) (by rw [show (⟨#[100, 97, 116, 97, 32]⟩ : ByteArray).size = 5 from rfl]; omega)
      go_enter Tryd.func5, Tryd.ntmps5
      go_wp2_with (go_at_call 8; refine (dUnhide CP _).mono ?_; rintro e w1 ⟨rfl, hb1⟩)
      go_ret
      exact ⟨rfl, belowThen (ba w _) hb1⟩
    · have e1 := addS ⟨#[100, 97, 116, 97, 32]⟩ (plS x) (by rw [show (⟨#[100, 97, 116, 97, 32]⟩ : ByteArray).size = 5 from rfl]; omega)
      have s1 : (⟨#[100, 97, 116, 97, 32]⟩ ++ plS x : ByteArray).size ≤ 11 := by rw [sizeS, show (⟨#[100, 97, 116, 97, 32]⟩ : ByteArray).size = 5 from rfl]; omega
      have e2 := addS (⟨#[100, 97, 116, 97, 32]⟩ ++ plS x) ⟨#[32]⟩ (by rw [show (⟨#[32]⟩ : ByteArray).size = 1 from rfl]; omega)
      have e3 := addS (⟨#[100, 97, 116, 97, 32]⟩ ++ plS x ++ ⟨#[32]⟩) d (by rw [sizeS, show (⟨#[32]⟩ : ByteArray).size = 1 from rfl]; omega)
      have hdb : d.toList.isEmpty = false := dataNil hdd
      have HEV : Hid (evText 1 x d = ⟨#[100, 97, 116, 97, 32]⟩ ++ plS x ++ ⟨#[32]⟩ ++ d) := by
        show evText 1 x d = _
        unfold evText
        rw [if_pos rfl, if_neg hdd]
        rfl
      rw [dUnhide HEV]
      have X1 := Bx.new w [.int .i64 1, .int .i64 x, .string d] 26
      have b1 := ba w (.cells #[.int .i64 1, .int .i64 x, .string d] 26)
      go_enter Tryd.func5, Tryd.ntmps5
      go_wp2_with fail
      have q1 := X1 1 _ rfl
      have q2 := X1 2 _ rfl
      generalize w.alloc (.cells #[.int .i64 1, .int .i64 x, .string d] 26) = w1 at *
      have bd : Below w1.heap.size w1 w1.drew := (Below.refl _ _).drew
      have Xd := X1.below bd
      go_region_with (go_at_call 8; refine (dUnhide CP _).mono ?_; rintro e w2 ⟨rfl, hb2⟩; have r2 := Xd.below hb2 2 _ rfl)
      all_goals
        go_wp2
        go_ret
        exact ⟨rfl, belowThen b1 (belowThen bd hb2)⟩
  by_cases h2 : k = 2
  · subst h2
    have e1 := addS ⟨#[104, 111, 108, 101, 32]⟩ (plS x) (by rw [show (⟨#[104, 111, 108, 101, 32]⟩ : ByteArray).size = 5 from rfl]; omega)
    go_enter Tryd.func5, Tryd.ntmps5
    go_wp2_with (go_at_call 8; refine (dUnhide CP _).mono ?_; rintro e w1 ⟨rfl, hb1⟩)
    go_ret
    exact ⟨rfl, belowThen (ba w _) hb1⟩
  by_cases h3 : k = 3
  · subst h3
    have e1 := addS ⟨#[108, 111, 115, 115, 32]⟩ (plS x) (by rw [show (⟨#[108, 111, 115, 115, 32]⟩ : ByteArray).size = 5 from rfl]; omega)
    go_enter Tryd.func5, Tryd.ntmps5
    go_wp2_with (go_at_call 8; refine (dUnhide CP _).mono ?_; rintro e w1 ⟨rfl, hb1⟩)
    go_ret
    exact ⟨rfl, belowThen (ba w _) hb1⟩
  by_cases h4 : k = 4
  · subst h4
    have e1 := addS ⟨#[101, 114, 97, 32]⟩ (numS x) (by rw [show (⟨#[101, 114, 97, 32]⟩ : ByteArray).size = 4 from rfl]; omega)
    go_enter Tryd.func5, Tryd.ntmps5
    go_wp2_with (go_at_call 9; refine (dUnhide CN _).mono ?_; rintro e w1 ⟨rfl, hb1⟩)
    go_ret
    exact ⟨rfl, belowThen (ba w _) hb1⟩
  by_cases h5 : k = 5
  · subst h5
    have e1 := addS ⟨#[116, 114, 105, 109, 32]⟩ (plS x) (by rw [show (⟨#[116, 114, 105, 109, 32]⟩ : ByteArray).size = 5 from rfl]; omega)
    go_enter Tryd.func5, Tryd.ntmps5
    go_wp2_with (go_at_call 8; refine (dUnhide CP _).mono ?_; rintro e w1 ⟨rfl, hb1⟩)
    go_ret
    exact ⟨rfl, belowThen (ba w _) hb1⟩
  have HEV : evText k x d = ⟨#[]⟩ := by unfold evText; rw [if_neg h1, if_neg h2, if_neg h3, if_neg h4, if_neg h5]
  rw [HEV]
  go_enter Tryd.func5, Tryd.ntmps5
  go_wp2
  go_ret
  exact ⟨rfl, ba w _⟩
theorem Itoa_any (x : Int) (u : x ≤ 9223372036854775807) (w : World) (htab : Lib.TabIs Tryd.prog w "internal/strconv.uint64pow10" .u64 Lib.pow10Tab) : Calls Tryd.prog 11 #[.int .i64 (max x 0)] w fun e w' => e = .returned (.string (numS x)) ∧ Below w.heap.size w w' := by
  have h : max x 0 = ((x.toNat : Nat) : Int) := by omega
  rw [h]
  refine (Tryd.strconv_Itoa (x.toNat : Nat) (by omega) (by omega) w htab).mono ?_
  rintro e w' ⟨rfl, k, os, rfl⟩
  refine ⟨?_, Lib.below_grow _ w (Nat.le_refl _) k os⟩
  unfold numS
  rw [Lib.itoa_nonneg]
set_option maxHeartbeats 1000000 in
theorem implEvT_any (k x : Int) (d : ByteArray) (l : -9223372036854775808 ≤ x) (u : x ≤ 9223372036854775807) (hd : d.size ≤ 1048576) (w : World) (htab : Lib.TabIs Tryd.prog w "internal/strconv.uint64pow10" .u64 Lib.pow10Tab) :
    Calls Tryd.prog 7 #[.agg #[.int .i64 k, .int .i64 x, .string d]] w fun e w' => e = .returned (.string (evText k x d)) ∧ Below w.heap.size w w' := by
  have hp := plS_size x
  have hn := numS_size u
  have ba : ∀ (w : World) o, Below w.heap.size w (w.alloc o) := fun w o => (Below.refl _ _).alloc (Nat.le_refl _) o
  have CP := dHide fun W => implPT_any x l u W
  by_cases h1 : k = 1
  · subst h1
    have e1 := addS ⟨#[100, 97, 116, 97, 32]⟩ (plS x) (by rw [show (⟨#[100, 97, 116, 97, 32]⟩ : ByteArray).size = 5 from rfl]; omega)
    have X1 := Bx.new w [.int .i64 1, .int .i64 x, .string d] 26
    have b1 := ba w (.cells #[.int .i64 1, .int .i64 x, .string d] 26)
    by_cases hdd : d = ⟨#[]⟩
    · subst hdd
      go_enter Tryd.func7, Tryd.ntmps7
      go_wp2_with (go_at_call 10; refine (dUnhide CP _).mono ?_; rintro e w2 ⟨rfl, hb2⟩; have r2 := X1.below hb2 2 _ rfl)
      go_ret
      exact ⟨rfl, belowThen b1 hb2⟩
    · have s1 : (⟨#[100, 97, 116, 97, 32]⟩ ++ plS x : ByteArray).size ≤ 11 := by rw [sizeS, show (⟨#[100, 97, 116, 97, 32]⟩ : ByteArray).size = 5 from rfl]; omega
      have e2 := addS ⟨#[32]⟩ d (by rw [show (⟨#[32]⟩ : ByteArray).size = 1 from rfl]; omega)
      have e3 := addS (⟨#[100, 97, 116, 97, 32]⟩ ++ plS x) (⟨#[32]⟩ ++ d) (by rw [sizeS ⟨#[32]⟩, show (⟨#[32]⟩ : ByteArray).size = 1 from rfl]; omega)
      have hdb : d.toList.isEmpty = false := dataNil hdd
      have HEV : Hid (evText 1 x d = ⟨#[100, 97, 116, 97, 32]⟩ ++ plS x ++ (⟨#[32]⟩ ++ d)) := by
        show evText 1 x d = _
        unfold evText
        rw [if_pos rfl, if_neg hdd]
        show dataB ++ plS x ++ blankB ++ d = dataB ++ plS x ++ (blankB ++ d)
        rw [ByteArray.append_assoc]
      rw [dUnhide HEV]
      go_enter Tryd.func7, Tryd.ntmps7
      go_wp2_with (go_at_call 10; refine (dUnhide CP _).mono ?_; rintro e w2 ⟨rfl, hb2⟩; have r2 := X1.below hb2 2 _ rfl)
      go_ret
      exact ⟨rfl, belowThen b1 hb2⟩
  by_cases h2 : k = 2
  · subst h2
    have e1 := addS ⟨#[104, 111, 108, 101, 32]⟩ (plS x) (by rw [show (⟨#[104, 111, 108, 101, 32]⟩ : ByteArray).size = 5 from rfl]; omega)
    go_enter Tryd.func7, Tryd.ntmps7
    go_wp2_with (go_at_call 10; refine (dUnhide CP _).mono ?_; rintro e w1 ⟨rfl, hb1⟩)
    go_ret
    exact ⟨rfl, belowThen (ba w _) hb1⟩
  by_cases h3 : k = 3
  · subst h3
    have e1 := addS ⟨#[108, 111, 115, 115, 32]⟩ (plS x) (by rw [show (⟨#[108, 111, 115, 115, 32]⟩ : ByteArray).size = 5 from rfl]; omega)
    go_enter Tryd.func7, Tryd.ntmps7
    go_wp2_with (go_at_call 10; refine (dUnhide CP _).mono ?_; rintro e w1 ⟨rfl, hb1⟩)
    go_ret
    exact ⟨rfl, belowThen (ba w _) hb1⟩
  by_cases h4 : k = 4
  · subst h4
    have e1 := addS ⟨#[101, 114, 97, 32]⟩ (numS x) (by rw [show (⟨#[101, 114, 97, 32]⟩ : ByteArray).size = 4 from rfl]; omega)
    go_enter Tryd.func7, Tryd.ntmps7
    have b1 := ba w (.cells #[.int .i64 4, .int .i64 x, .string d] 26)
    have CI := dHide (Itoa_any x u (w.alloc (.cells #[.int .i64 4, .int .i64 x, .string d] 26)) (Lib.tabIs_alloc htab _))
    go_wp2_with fail
    refine (dUnhide CI).mono ?_
    rintro e w2 ⟨rfl, hb2⟩
    go_wp2
    go_ret
    exact ⟨rfl, belowThen b1 hb2⟩
  by_cases h5 : k = 5
  · subst h5
    have e1 := addS ⟨#[116, 114, 105, 109, 32]⟩ (plS x) (by rw [show (⟨#[116, 114, 105, 109, 32]⟩ : ByteArray).size = 5 from rfl]; omega)
    go_enter Tryd.func7, Tryd.ntmps7
    go_wp2_with (go_at_call 10; refine (dUnhide CP _).mono ?_; rintro e w1 ⟨rfl, hb1⟩)
    go_ret
    exact ⟨rfl, belowThen (ba w _) hb1⟩
  have HEV : evText k x d = ⟨#[]⟩ := by unfold evText; rw [if_neg h1, if_neg h2, if_neg h3, if_neg h4, if_neg h5]
  rw [HEV]
  go_enter Tryd.func7, Tryd.ntmps7
  go_wp2
  go_ret
  exact ⟨rfl, ba w _⟩
theorem tabKept {w w' : World} (h : Lib.TabIs Tryd.prog w "internal/strconv.uint64pow10" .u64 Lib.pow10Tab) (hb : Below w.heap.size w w') : Lib.TabIs Tryd.prog w' "internal/strconv.uint64pow10" .u64 Lib.pow10Tab := Go.Joins.tab_stays (g := 0) (by kernel_rfl) h hb (Nat.le_refl _)
/-- The walk of the law FnExactEventText. -/
theorem walkFnExactEventText (v : Value) (m : Int × Int × ByteArray) (w : World) (i : IsEv v m) (htab : Lib.TabIs Tryd.prog w "internal/strconv.uint64pow10" .u64 Lib.pow10Tab) :
    Calls Tryd.prog 3 #[v] w fun e w' => e = .returned (.bool true) ∧ Below w.heap.size w w' := by
  obtain ⟨k, x, d⟩ := m
  obtain ⟨rfl, ⟨l, u⟩, hs⟩ := i
  simp only at l u hs ⊢
  have ba : ∀ (w : World) o, Below w.heap.size w (w.alloc o) := fun w o => (Below.refl _ _).alloc (Nat.le_refl _) o
  have b1 := ba w (.cells #[.int .i64 k, .int .i64 x, .string d] 23)
  have X1 := Bx.new w [.int .i64 k, .int .i64 x, .string d] 23
  have T1 := Lib.tabIs_alloc htab (.cells #[.int .i64 k, .int .i64 x, .string d] 23)
  have CS := dHide fun W => szEvent_one k x d 1048576 (by omega) (by omega) hs W
  have CT := dHide fun W => toEvent_one k x d W
  go_enter Tryd.func3, Tryd.ntmps3
  go_wp2_with fail
  refine (dUnhide CS _).mono ?_
  rintro e w2 ⟨rfl, hb2⟩
  have X2 := X1.below hb2
  have T2 := tabKept T1 hb2
  have B2 := belowThen b1 hb2
  clear CS X1 T1 b1 hb2 htab
  have q0 := X2 0 _ rfl
  have q1 := X2 1 _ rfl
  have q2 := X2 2 _ rfl
  by_cases hd : 1048576 < (d.size : Int)
  · rw [if_pos hd]
    go_wp2
    go_ret
    exact ⟨rfl, B2⟩
  · rw [if_neg hd]
    have hd1 : ¬ (1048576 - (d.size : Int) < 0) := by omega
    have CV := dHide fun W => specEvT_any k x d u (by omega) W
    have CI := dHide fun W ht => implEvT_any k x d l u (by omega) W ht
    go_wp2_with fail
    refine (dUnhide CT _).mono ?_
    rintro e w3 ⟨rfl, hb3⟩
    go_wp2_with fail
    refine (dUnhide CV _).mono ?_
    rintro e w4 ⟨rfl, hb4⟩
    have b4 := belowThen hb3 hb4
    have X4 := X2.below b4
    have T4 := tabKept T2 b4
    have B4 := belowThen B2 b4
    clear CV hb3 hb4 b4 X2 T2 B2 q0 q1 q2
    have q0 := X4 0 _ rfl
    have q1 := X4 1 _ rfl
    have q2 := X4 2 _ rfl
    go_wp2_with fail
    refine (dUnhide CT _).mono ?_
    rintro e w5 ⟨rfl, hb5⟩
    have T5 := tabKept T4 hb5
    have CJ := dHide (dUnhide CI w5 T5)
    clear CI CT T4 X4 T5 q0 q1 q2
    go_wp2_with fail
    refine (dUnhide CJ).mono ?_
    rintro e w6 ⟨rfl, hb6⟩
    have B6 := belowThen B4 (belowThen hb5 hb6)
    clear CJ hb5 hb6
    go_wp2
    go_ret
    exact ⟨rfl, B6⟩
end Go.Proofs.YtmccaaemhndolaaDoor
