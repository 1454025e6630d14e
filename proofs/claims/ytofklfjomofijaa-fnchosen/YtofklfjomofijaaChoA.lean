/- Masks: the numbers of the bits, and the number of the bits; spec's MaskNodes, NodesMask. -/
import Derived.Test.YtofklfjomofijaaDomG
import Derived.Test.YtofklfjomofijaaDomJ
namespace Go.Proofs.Ytofklfjomofijaa
open Go.ChangeShapes Go.WideShapes Go.ChangeAt Go.RowKit
set_option linter.unusedVariables false

/-- Whether bit k of m is set. -/
def bitOn (m : Int) (k : Nat) : Bool := m / 2 ^ k % 2 == 1
/-- The first k bits of m that are set. -/
def bitsTo (m : Int) (k : Nat) : List Int := ((List.range k).filter fun i => bitOn m i).map fun i : Nat => (i : Int)
/-- MaskNodes. -/
def maskL (m : Int) : List Int := if 0 ≤ m ∧ m ≤ 255 then bitsTo m 8 else []
theorem bitsTo_succ (m : Int) (k : Nat) : bitsTo m (k + 1) = if bitOn m k then bitsTo m k ++ [(k : Int)] else bitsTo m k := by
  unfold bitsTo
  rw [List.range_succ, List.filter_append, List.map_append]
  cases h : bitOn m k <;> simp [h]
theorem bitsTo_len (m : Int) (k : Nat) : (bitsTo m k).length ≤ k := by
  unfold bitsTo
  rw [List.length_map]
  exact Nat.le_trans (List.length_filter_le _ _) (by simp)
theorem mem_bitsTo {m : Int} {k : Nat} {x : Int} : x ∈ bitsTo m k ↔ ∃ i : Nat, i < k ∧ bitOn m i = true ∧ (i : Int) = x := by
  simp [bitsTo, and_assoc]
theorem bitsTo_asc (m : Int) (k : Nat) : (bitsTo m k).Pairwise (· < ·) := by
  unfold bitsTo
  refine List.pairwise_map.2 ((List.pairwise_lt_range.filter _).imp fun {a b} h => by omega)
theorem maskL_asc (m : Int) : ascP (maskL m) 0 7 := by
  rw [ascP_iff]
  unfold maskL
  split
  · refine ⟨bitsTo_asc m 8, fun x hx => ?_⟩
    obtain ⟨i, h1, -, rfl⟩ := mem_bitsTo.1 hx
    omega
  · exact ⟨List.Pairwise.nil, fun x h => by cases h⟩
theorem maskL_len (m : Int) : (maskL m).length ≤ 8 := by
  unfold maskL
  split
  · exact bitsTo_len m 8
  · simp
theorem i64_and1 (n : Int) : bits .and .i64 n 1 = n % 2 := by
  have h1 : (BitVec.ofInt 64 1).toNat = 2 ^ 1 - 1 := by decide
  have key : (BitVec.ofInt 64 n &&& BitVec.ofInt 64 1).toNat = (n % ((2 ^ 64 : Nat) : Int)).toNat % 2 ^ 1 := by
    rw [BitVec.toNat_and, BitVec.toNat_ofInt, h1, Nat.and_two_pow_sub_one_eq_mod]
  show IntKind.i64.wrap ((BitVec.ofInt 64 n &&& BitVec.ofInt 64 1).toNat : Nat) = n % 2
  rw [key, IntKind.wrap_i64]
  omega
set_option maxHeartbeats 2000000 in
theorem specMask_any (m : Int) (w : World) :
    Calls Try.prog 12 #[.int .i64 m] w fun e w' => (∃ o, e = .returned o ∧ w'.ownsRow w.heap.size 3 1 o (maskL m).length (ncells (maskL m))) ∧ Below w.heap.size w w' := by
  by_cases hm : 0 ≤ m ∧ m ≤ 255
  · have e0 : Hid (maskL m = bitsTo m 8) := if_pos hm
    obtain ⟨m0, m1⟩ := hm
    have CI := dHide fun W => l1In_yes m 0 255 m0 m1 W
    go_enter Try.func12, Try.ntmps12
    go_wp2
    go_loopw [3, 4] (fun o x wr => ∃ k : Nat, x = .int .i64 (k : Int) ∧ k ≤ 8 ∧ wr.ownsRow w.heap.size 3 1 o (bitsTo m k).length (ncells (bitsTo m k)) ∧ Below w.heap.size w wr) (fun _ x _ => 8 - (intOf x).toNat)
    case atStart => exact ⟨0, rfl, Nat.zero_le _, World.ownsRow_made w #[] 0 (Nat.le_refl _) (by decide) (by simp), (Below.refl _ _).alloc (Nat.le_refl _) _⟩
    case round =>
      obtain ⟨k, rfl, hk, hown, hb⟩ := hrel
      by_cases hlt : (k : Int) < 8
      · have hB := dHide (bitsTo_succ m k)
        have hlen := bitsTo_len m k
        have hbit : Hid (bitOn m k = (bits .and .i64 (m / 2 ^ k) 1 == 1)) := by rw [i64_and1]; rfl
        generalize bitsTo m k = L at *
        have hlt' := hown.lt
        cases hq : bitOn m k with
        | true =>
          rw [hq] at hbit hB
          have hbit' := (dUnhide hbit).symm
          clear hbit hq
          go_wp2_with fail
          refine (dUnhide CI _).mono ?_
          rintro e w1 ⟨rfl, rfl⟩
          go_wp2_with (at_builtin; refine appN _ rfl _ _ rfl w.heap.size _ L rfl (hown.alloc _) ⟨w1.heap.size, 0, none⟩ 1 1 [(k : Int)] rfl rfl (one_int _ _ _) ?c3 ?c4 ?_)
          case c3 => simp; omega
          case c4 => have := hb.size; simp; omega
          intro v' w2 hown' hgrow
          have hb2 : Below w.heap.size w w2 := (hb.alloc hb.size _).grown hgrow (by have := hb.size; simp; omega) (fun k hk => (hlt' k hk).1)
          have hown2 := own_lenN hown'
          clear hown hown' hgrow hb hlt'
          go_wp2
          go_roundw
          case rel => exact ⟨k + 1, by go_num, by omega, by rw [dUnhide hB]; exact hown2, hb2⟩
          case measure => simp [intOf]; omega
        | false =>
          rw [hq] at hbit hB
          have hbit' := (dUnhide hbit).symm
          clear hbit hq
          go_wp2_with fail
          refine (dUnhide CI _).mono ?_
          rintro e w1 ⟨rfl, rfl⟩
          go_wp2
          go_roundw
          case rel => exact ⟨k + 1, by go_num, by omega, by rw [dUnhide hB]; exact hown, hb⟩
          case measure => simp [intOf]; omega
      · obtain rfl : k = 8 := by omega
        rw [← dUnhide e0] at hown
        clear e0
        go_wp2
        go_ret
        exact ⟨⟨_, rfl, hown⟩, hb⟩
  · have e0 : maskL m = [] := if_neg hm
    rw [e0]
    clear e0
    have CI := dHide fun W => l1In_no m 0 255 (by omega) W
    clear hm
    go_enter Try.func12, Try.ntmps12
    go_wp2
    refine wp_loop_rounds 1 ?_
    rw [rounds_succ]
    go_wp2_with (go_at_call 36; refine (dUnhide CI _).mono ?_; rintro e w' ⟨rfl, rfl⟩)
    go_ret
    exact ⟨⟨_, rfl, World.ownsRow_made w #[] 0 (Nat.le_refl _) (by decide) (by simp)⟩, (Below.refl _ _).alloc (Nat.le_refl _) _⟩
/-- A bit more. -/
def orB (x : Int) (i : Int) : Int := bits .or .i64 x (2 ^ i.toNat)
/-- NodesMask of what is right. -/
def orL (xs : List Int) : Int := xs.foldl orB 0
theorem orL_take (xs : List Int) (k : Nat) (h : k < xs.length) : orL (xs.take (k + 1)) = orB (orL (xs.take k)) xs[k] := by
  rw [orL, List.take_succ_eq_append_getElem h, List.foldl_append]
  rfl
theorem orL_mask : ∀ m : Fin 256, orL (maskL ((m.val : Nat) : Int)) = ((m.val : Nat) : Int) := by decide +kernel
/-- Each ascending list of numbers up to 7 is that of a mask. -/
theorem mask_of (xs : List Int) (h : ascP xs 0 7) : ∃ m : Fin 256, maskL ((m.val : Nat) : Int) = xs := by
  have hall : ∀ b0 b1 b2 b3 b4 b5 b6 b7 : Bool, ∃ m : Fin 256, maskL ((m.val : Nat) : Int) = ([((0 : Int), b0), (1, b1), (2, b2), (3, b3), (4, b4), (5, b5), (6, b6), (7, b7)].filter (fun p => p.2)).map (fun p => p.1) := by
    intro b0 b1 b2 b3 b4 b5 b6 b7
    let g : Bool → Nat → Nat := fun b i => if b then 2 ^ i else 0
    have hm : g b0 0 + g b1 1 + g b2 2 + g b3 3 + g b4 4 + g b5 5 + g b6 6 + g b7 7 < 256 := by cases b0 <;> cases b1 <;> cases b2 <;> cases b3 <;> cases b4 <;> cases b5 <;> cases b6 <;> cases b7 <;> decide
    refine ⟨⟨_, hm⟩, ?_⟩
    revert hm
    revert b0 b1 b2 b3 b4 b5 b6 b7
    decide +kernel
  rw [ascP_iff] at h
  obtain ⟨m, hm⟩ := hall (decide (0 ∈ xs)) (decide (1 ∈ xs)) (decide (2 ∈ xs)) (decide (3 ∈ xs)) (decide (4 ∈ xs)) (decide (5 ∈ xs)) (decide (6 ∈ xs)) (decide (7 ∈ xs))
  refine ⟨m, List.Perm.eq_of_pairwise (le := fun a b : Int => a ≤ b) (fun a b _ _ h1 h2 => by omega) (((ascP_iff _ _ _).1 (maskL_asc _)).1.imp fun {a b} h => by omega) (h.1.imp fun {a b} h => by omega) ?_⟩
  refine (List.perm_ext_iff_of_nodup (((ascP_iff _ _ _).1 (maskL_asc _)).1.imp fun {a b} h => by omega) (h.1.imp fun {a b} h => by omega)).2 fun x => ?_
  rw [hm, List.mem_map]
  constructor
  · rintro ⟨p, hp, rfl⟩
    obtain ⟨hp1, hp2⟩ := List.mem_filter.1 hp
    simp only [List.mem_cons, List.not_mem_nil, or_false] at hp1
    rcases hp1 with rfl | rfl | rfl | rfl | rfl | rfl | rfl | rfl <;> simpa using hp2
  · intro hx
    have hb := h.2 x hx
    refine ⟨(x, true), List.mem_filter.2 ⟨?_, rfl⟩, rfl⟩
    have : x = 0 ∨ x = 1 ∨ x = 2 ∨ x = 3 ∨ x = 4 ∨ x = 5 ∨ x = 6 ∨ x = 7 := by omega
    rcases this with rfl | rfl | rfl | rfl | rfl | rfl | rfl | rfl <;> simp [hx]
theorem maskL_orL (xs : List Int) (h : ascP xs 0 7) : maskL (orL xs) = xs ∧ 0 ≤ orL xs ∧ orL xs ≤ 255 := by
  obtain ⟨m, rfl⟩ := mask_of xs h
  rw [orL_mask]
  exact ⟨rfl, by omega, by have := m.isLt; omega⟩
theorem orL_maskL (m : Int) (h : 0 ≤ m ∧ m ≤ 255) : orL (maskL m) = m := by
  obtain ⟨k, rfl⟩ := Int.eq_ofNat_of_zero_le h.1
  exact orL_mask ⟨k, by omega⟩
theorem pow8 (d : Nat) (h : d < 8) : wrap64 ((2 : Int) ^ d) = 2 ^ d := by
  have : ∀ d : Fin 8, wrap64 ((2 : Int) ^ d.val) = 2 ^ d.val := by decide +kernel
  exact this ⟨d, h⟩
set_option maxHeartbeats 2000000 in
theorem specNodesMask_yes (v : Value) (xs : List Int) (w : World) (hv : Ns w v xs) (ha : ascP xs 0 7) :
    Calls Try.prog 15 #[v] w fun e w' => e = .returned (.int .i64 (orL xs)) ∧ Below w.heap.size w w' := by
  have CA := dHide (l4Asc_any v xs 0 7 w hv)
  obtain ⟨h0, a, cap, rfl, -, hv⟩ := hv
  have HV := dHide hv
  have HA := dHide ha
  clear hv ha
  go_enter Try.func15, Try.ntmps15
  go_wp2_with fail
  refine (dUnhide CA).mono ?_
  rintro e w1 ⟨hr, hdr⟩
  obtain rfl := hr.of_yes (dUnhide HA)
  have hb1 := hdr.below
  have hc1 := dHide hdr.cell
  clear hr hdr CA
  go_wp2
  go_loop [3, 4] (fun o x => ∃ k : Nat, x = .int .i64 (k : Int) ∧ k ≤ xs.length ∧ o = .int .i64 (orL (xs.take k))) (fun _ x => xs.length - (intOf x).toNat)
  case atStart => exact ⟨0, rfl, Nat.zero_le _, rfl⟩
  case round =>
    obtain ⟨k, rfl, hk, rfl⟩ := hrel
    by_cases hlt : (k : Int) < (xs.length : Int)
    · obtain ⟨b, off, rfl, hc⟩ : ∃ b off, a = some ⟨b, off, none⟩ ∧ ∀ i (h : i < xs.length), w.cell? ⟨b, off + i, none⟩ = some (.int .i64 xs[i]) := orN_of_lt (dUnhide HV) (k := k) (by omega)
      have hkl : k < xs.length := by omega
      have e1 := dHide (orL_take xs k hkl)
      obtain ⟨q1, q2, -⟩ := dUnhide HA k hkl
      obtain ⟨d, hd⟩ := Int.eq_ofNat_of_zero_le q1
      have c1 : w1.cell? ⟨b, off + k, none⟩ = some (.int .i64 (d : Int)) := by rw [← hd]; exact (dUnhide hc1 _).trans (hc k hkl)
      have hd7 : (d : Int) ≤ 7 := by omega
      rw [hd] at e1
      generalize orL (xs.take k) = y at *
      clear hc HV HA hd q1 q2 hc1
      have hw : wrap64 ((2 : Int) ^ d) = 2 ^ d := pow8 d (by omega)
      have e2 : Hid (bits .or .i64 y (2 ^ d) = orL (xs.take (k + 1))) := by rw [Hid, dUnhide e1]; rfl
      clear e1
      go_wp2
      go_round
      case rel => exact ⟨k + 1, by go_num, by omega, by rw [← dUnhide e2]⟩
      case measure => simp [intOf]; omega
    · have e1 : xs.take k = xs := List.take_of_length_le (by omega)
      rw [e1]
      clear e1 HV HA
      go_wp2
      go_ret
      exact ⟨rfl, hb1⟩
theorem specNodesMask_no (v : Value) (xs : List Int) (w : World) (hv : Ns w v xs) (ha : ¬ ascP xs 0 7) :
    Calls Try.prog 15 #[v] w fun e w' => e = .returned (.int .i64 (-1)) ∧ Below w.heap.size w w' := by
  have CA := dHide (l4Asc_any v xs 0 7 w hv)
  obtain ⟨h0, a, cap, rfl, -, hv⟩ := hv
  have HA := dHide ha
  clear hv ha
  go_enter Try.func15, Try.ntmps15
  go_wp2_with fail
  refine (dUnhide CA).mono ?_
  rintro e w1 ⟨hr, hdr⟩
  obtain rfl := hr.of_no (dUnhide HA)
  have hb1 := hdr.below
  clear hr hdr CA
  go_wp2
  go_ret
  exact ⟨rfl, hb1⟩
end Go.Proofs.Ytofklfjomofijaa
