/- Texts of places and of numbers, of both sides, in a seat without events (EvT's first part). -/
import Derived.Test.YtmgomacmaidmlaaGreatDoorPlaceT
import Derived.Test.YtmgomacmaidmlaaGreatDoorBoxP
import Derived.Deep.RegionWith
import Derived.Lib.SmallJoins
import Derived.Lib.ItoaLen
import Derived.Lib.AppendIntMem
namespace Go.Proofs.YtmgomacmaidmlaaGreatDoor
open Go.ChangeShapes Go.WideShapes Go.ChangeAt Go.RowKit
set_option linter.unusedVariables false
set_option linter.unusedSimpArgs false

/-- The text of a place, empty of what is none. -/
def plS (x : Int) : ByteArray := ⟨(if 0 < x ∧ 1 ≤ x / 4294967296 ∧ x / 4294967296 ≤ 30 ∧ 1 ≤ x % 4294967296 ∧ x % 4294967296 ≤ 60 then plText (x / 4294967296).toNat (x % 4294967296).toNat else []).toArray⟩
theorem specPT_any (x : Int) (u : x ≤ 9223372036854775807) (w : World) : Calls Tryz.prog 14 #[.int .i64 x] w fun e w' => e = .returned (.string (plS x)) ∧ Below w.heap.size w w' := by
  by_cases h : isPl x
  · have e : plS x = plTextB (x / 4294967296).toNat (x % 4294967296).toNat := by unfold plS; rw [if_pos (show 0 < x ∧ 1 ≤ x / 4294967296 ∧ x / 4294967296 ≤ 30 ∧ 1 ≤ x % 4294967296 ∧ x % 4294967296 ≤ 60 from h)]; rfl
    rw [e]
    exact specText_yes x h w
  · have e : plS x = ⟨#[]⟩ := by unfold plS; rw [if_neg (show ¬ (0 < x ∧ 1 ≤ x / 4294967296 ∧ x / 4294967296 ≤ 30 ∧ 1 ≤ x % 4294967296 ∧ x % 4294967296 ≤ 60) from h)]
    rw [e]
    exact (specText_no x u h w).mono fun e w' ⟨h1, h2⟩ => ⟨h1, h2 ▸ Below.refl _ _⟩
theorem implPT_any (x : Int) (l : -9223372036854775808 ≤ x) (u : x ≤ 9223372036854775807) (w : World) : Calls Tryz.prog 57 #[.int .i64 x] w fun e w' => e = .returned (.string (plS x)) ∧ Below w.heap.size w w' := by
  by_cases h : isPl x
  · have e : plS x = plTextB (x / 4294967296).toNat (x % 4294967296).toNat := by unfold plS; rw [if_pos (show 0 < x ∧ 1 ≤ x / 4294967296 ∧ x / 4294967296 ≤ 30 ∧ 1 ≤ x % 4294967296 ∧ x % 4294967296 ≤ 60 from h)]; rfl
    rw [e]
    exact implText_yes x h w
  · have e : plS x = ⟨#[]⟩ := by unfold plS; rw [if_neg (show ¬ (0 < x ∧ 1 ≤ x / 4294967296 ∧ x / 4294967296 ≤ 30 ∧ 1 ≤ x % 4294967296 ∧ x % 4294967296 ≤ 60) from h)]
    rw [e]
    exact implText_no x l u h w
theorem plS_size (x : Int) : (plS x).size ≤ 6 := by
  unfold plS
  split
  · rename_i h
    have h1 := dec_len (n := (x / 4294967296).toNat) (by omega)
    have h2 := dec_len (n := (x % 4294967296).toNat) (by omega)
    rw [bsize]
    unfold plText
    simp
    omega
  · rw [bsize]
    simp
/-- The digits that an epoch is told by: 0 of what is below. -/
def numS (x : Int) : ByteArray := ⟨(Lib.decDigits x.toNat).toArray⟩
theorem numS_size {x : Int} (h : x ≤ 9223372036854775807) : (numS x).size ≤ 20 := by
  unfold numS
  rw [bsize, Lib.decDigits_length]
  exact Lib.nDigits_le20 _ (by omega)
theorem specNum_any (x : Int) (u : x ≤ 9223372036854775807) (w : World) : Calls Tryz.prog 13 #[.int .i64 x] w fun e w' => e = .returned (.string (numS x)) ∧ Below w.heap.size w w' := by
  by_cases h : x ≤ 0
  · have e : numS x = ⟨#[48]⟩ := by
      unfold numS
      rw [show x.toNat = 0 by omega, Lib.decDigits_one (by omega)]
      rfl
    rw [e]
    go_enter Tryz.func13, Tryz.ntmps13
    go_wp2
    go_ret
    exact ⟨rfl, Below.refl _ _⟩
  · obtain ⟨n, rfl⟩ := Int.eq_ofNat_of_zero_le (show 0 ≤ x by omega)
    have := l1Num_yes n (by omega) (by omega) w
    unfold numS
    rwa [Int.toNat_natCast]
/-- Texts that are put one behind the other. -/
theorem addS (a b : ByteArray) (h : a.size + b.size ≤ 1048700) : ∀ w : World, (Op.stringOp .add a b).run Tryz.prog w = .ok (.string (a ++ b)) w := fun w => run_string_add_sum _ _ _ (by omega)
theorem sizeS (a b : ByteArray) : (a ++ b).size = a.size + b.size := ByteArray.size_append
theorem Itoa_any (x : Int) (u : x ≤ 9223372036854775807) (w : World) (htab : Lib.TabIs Tryz.prog w "internal/strconv.uint64pow10" .u64 Lib.pow10Tab) : Calls Tryz.prog 33 #[.int .i64 (max x 0)] w fun e w' => e = .returned (.string (numS x)) ∧ Below w.heap.size w w' := by
  have h : max x 0 = ((x.toNat : Nat) : Int) := by omega
  rw [h]
  refine (Tryz.strconv_Itoa (x.toNat : Nat) (by omega) (by omega) w htab).mono ?_
  rintro e w' ⟨rfl, k, os, rfl⟩
  refine ⟨?_, Lib.below_grow _ w (Nat.le_refl _) k os⟩
  unfold numS
  rw [Lib.itoa_nonneg]
theorem tabKept {w w' : World} (h : Lib.TabIs Tryz.prog w "internal/strconv.uint64pow10" .u64 Lib.pow10Tab) (hb : Below w.heap.size w w') : Lib.TabIs Tryz.prog w' "internal/strconv.uint64pow10" .u64 Lib.pow10Tab := Go.Joins.tab_stays (g := 3) (by kernel_rfl) h hb (Nat.le_refl _)
end Go.Proofs.YtmgomacmaidmlaaGreatDoor
