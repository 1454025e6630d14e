/- Masks: the numbers of the bits, and the number of the bits; spec's MaskNodes, NodesMask. -/
import Derived.Test.YtejmfohkobhidaaGaC
namespace Go.Proofs.Ytejmfohkobhidaa
open Go.ChangeShapes Go.WideShapes Go.ChangeAt Go.RowKit
set_option linter.unusedVariables false

/-- Whether bit k of m is set. -/
def bitOn (m : Int) (k : Nat) : Bool := m / 2 ^ k % 2 == 1
/-- The first k bits of m that are set. -/
def bitsTo (m : Int) (k : Nat) : List Int := ((List.range k).filter fun i => bitOn m i).map fun i : Nat => (i : Int)
/-- MaskNodes. -/
def maskL (m : Int) : List Int := if 0 ≤ m ∧ m ≤ 255 then bitsTo m 8 else []
theorem bitsTo_succ (m : Int) (k : Nat) : bitsTo m (k + 1) = if bitOn m k then bitsTo m k ++ [(k : Int)] else bitsTo m k := by
  unfold bitsTo
  rw [List.range_succ, List.filter_append, List.map_append]
  cases h : bitOn m k <;> simp [h]
theorem bitsTo_len (m : Int) (k : Nat) : (bitsTo m k).length ≤ k := by
  unfold bitsTo
  rw [List.length_map]
  exact Nat.le_trans (List.length_filter_le _ _) (by simp)
theorem mem_bitsTo {m : Int} {k : Nat} {x : Int} : x ∈ bitsTo m k ↔ ∃ i : Nat, i < k ∧ bitOn m i = true ∧ (i : Int) = x := by
  simp [bitsTo, and_assoc]
theorem bitsTo_asc (m : Int) (k : Nat) : (bitsTo m k).Pairwise (· < ·) := by
  unfold bitsTo
  refine List.pairwise_map.2 ((List.pairwise_lt_range.filter _).imp fun {a b} h => by omega)
theorem maskL_asc (m : Int) : ascP (maskL m) 0 7 := by
  rw [ascP_iff]
  unfold maskL
  split
  · refine ⟨bitsTo_asc m 8, fun x hx => ?_⟩
    obtain ⟨i, h1, -, rfl⟩ := mem_bitsTo.1 hx
    omega
  · exact ⟨List.Pairwise.nil, fun x h => by cases h⟩
theorem maskL_len (m : Int) : (maskL m).length ≤ 8 := by
  unfold maskL
  split
  · exact bitsTo_len m 8
  · simp
theorem i64_and1 (n : Int) : bits .and .i64 n 1 = n % 2 := by
  have h1 : (BitVec.ofInt 64 1).toNat = 2 ^ 1 - 1 := by decide
  have key : (BitVec.ofInt 64 n &&& BitVec.ofInt 64 1).toNat = (n % ((2 ^ 64 : Nat) : Int)).toNat % 2 ^ 1 := by
    rw [BitVec.toNat_and, BitVec.toNat_ofInt, h1, Nat.and_two_pow_sub_one_eq_mod]
  show IntKind.i64.wrap ((BitVec.ofInt 64 n &&& BitVec.ofInt 64 1).toNat : Nat) = n % 2
  rw [key, IntKind.wrap_i64]
  omega
/-- A bit more. -/
def orB (x : Int) (i : Int) : Int := bits .or .i64 x (2 ^ i.toNat)
/-- NodesMask of what is right. -/
def orL (xs : List Int) : Int := xs.foldl orB 0
theorem orL_take (xs : List Int) (k : Nat) (h : k < xs.length) : orL (xs.take (k + 1)) = orB (orL (xs.take k)) xs[k] := by
  rw [orL, List.take_succ_eq_append_getElem h, List.foldl_append]
  rfl
theorem orL_mask : ∀ m : Fin 256, orL (maskL ((m.val : Nat) : Int)) = ((m.val : Nat) : Int) := by decide +kernel
/-- Each ascending list of numbers up to 7 is that of a mask. -/
theorem mask_of (xs : List Int) (h : ascP xs 0 7) : ∃ m : Fin 256, maskL ((m.val : Nat) : Int) = xs := by
  have hall : ∀ b0 b1 b2 b3 b4 b5 b6 b7 : Bool, ∃ m : Fin 256, maskL ((m.val : Nat) : Int) = ([((0 : Int), b0), (1, b1), (2, b2), (3, b3), (4, b4), (5, b5), (6, b6), (7, b7)].filter (fun p => p.2)).map (fun p => p.1) := by
    intro b0 b1 b2 b3 b4 b5 b6 b7
    let g : Bool → Nat → Nat := fun b i => if b then 2 ^ i else 0
    have hm : g b0 0 + g b1 1 + g b2 2 + g b3 3 + g b4 4 + g b5 5 + g b6 6 + g b7 7 < 256 := by cases b0 <;> cases b1 <;> cases b2 <;> cases b3 <;> cases b4 <;> cases b5 <;> cases b6 <;> cases b7 <;> decide
    refine ⟨⟨_, hm⟩, ?_⟩
    revert hm
    revert b0 b1 b2 b3 b4 b5 b6 b7
    decide +kernel
  rw [ascP_iff] at h
  obtain ⟨m, hm⟩ := hall (decide (0 ∈ xs)) (decide (1 ∈ xs)) (decide (2 ∈ xs)) (decide (3 ∈ xs)) (decide (4 ∈ xs)) (decide (5 ∈ xs)) (decide (6 ∈ xs)) (decide (7 ∈ xs))
  refine ⟨m, List.Perm.eq_of_pairwise (le := fun a b : Int => a ≤ b) (fun a b _ _ h1 h2 => by omega) (((ascP_iff _ _ _).1 (maskL_asc _)).1.imp fun {a b} h => by omega) (h.1.imp fun {a b} h => by omega) ?_⟩
  refine (List.perm_ext_iff_of_nodup (((ascP_iff _ _ _).1 (maskL_asc _)).1.imp fun {a b} h => by omega) (h.1.imp fun {a b} h => by omega)).2 fun x => ?_
  rw [hm, List.mem_map]
  constructor
  · rintro ⟨p, hp, rfl⟩
    obtain ⟨hp1, hp2⟩ := List.mem_filter.1 hp
    simp only [List.mem_cons, List.not_mem_nil, or_false] at hp1
    rcases hp1 with rfl | rfl | rfl | rfl | rfl | rfl | rfl | rfl <;> simpa using hp2
  · intro hx
    have hb := h.2 x hx
    refine ⟨(x, true), List.mem_filter.2 ⟨?_, rfl⟩, rfl⟩
    have : x = 0 ∨ x = 1 ∨ x = 2 ∨ x = 3 ∨ x = 4 ∨ x = 5 ∨ x = 6 ∨ x = 7 := by omega
    rcases this with rfl | rfl | rfl | rfl | rfl | rfl | rfl | rfl <;> simp [hx]
theorem maskL_orL (xs : List Int) (h : ascP xs 0 7) : maskL (orL xs) = xs ∧ 0 ≤ orL xs ∧ orL xs ≤ 255 := by
  obtain ⟨m, rfl⟩ := mask_of xs h
  rw [orL_mask]
  exact ⟨rfl, by omega, by have := m.isLt; omega⟩
theorem orL_maskL (m : Int) (h : 0 ≤ m ∧ m ≤ 255) : orL (maskL m) = m := by
  obtain ⟨k, rfl⟩ := Int.eq_ofNat_of_zero_le h.1
  exact orL_mask ⟨k, by omega⟩
theorem pow8 (d : Nat) (h : d < 8) : wrap64 ((2 : Int) ^ d) = 2 ^ d := by
  have : ∀ d : Fin 8, wrap64 ((2 : Int) ^ d.val) = 2 ^ d.val := by decide +kernel
  exact this ⟨d, h⟩
end Go.Proofs.Ytejmfohkobhidaa
