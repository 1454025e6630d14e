/- Several texts in one: PlaceA, PlaceB, NumP, NumS, GetP, GetS, TextS, TextG, MarkT, AppB, PlaceC. -/
import Derived.Test.YtjkjmapibcfcdaaGreatRows
import Derived.Handy
import Derived.Outline
import Derived.Deep.RegionWith
import Derived.Test.YtjkjmapibcfcdaaGreatGaA
import Derived.Laws.AppendOwn
import Derived.OwnWalk
import Derived.Lib.ConvBytes
import Derived.Lib.Strings
import Derived.Laws.BytesArg
import Derived.Laws.IdiomStrings
namespace Go.Proofs.YtjkjmapibcfcdaaGreat
open Go.ChangeShapes Go.WideShapes Go.ChangeAt Go.RowKit
set_option linter.unusedVariables false
set_option maxRecDepth 100000
theorem isPlace_yes (a b : Int) (h1 : 1 ≤ a) (w : World) :
  Calls Tryz.prog 110 #[.agg #[.int .i64 a, .int .i64 b]] w fun e w' => e = .returned (.bool true) ∧ w.alloc (.cells #[.int .i64 a, .int .i64 b] 76) = w' := by
 have ha : (a == 0) = false := beq_eq_false_iff_ne.2 (by omega)
 go_enter Tryz.func110, Tryz.ntmps110
 go_wp2
 go_ret
 exact ⟨rfl, rfl⟩
theorem isPlace_no (w : World) :
  Calls Tryz.prog 110 #[.agg #[.int .i64 0, .int .i64 0]] w fun e w' => e = .returned (.bool false) ∧ w.alloc (.cells #[.int .i64 0, .int .i64 0] 76) = w' := by
 go_enter Tryz.func110, Tryz.ntmps110
 go_wp2
 go_ret
 exact ⟨rfl, rfl⟩
theorem checked_yes (a b : Int) (h1 : 1 ≤ a) (h2 : a ≤ 30) (h3 : 1 ≤ b) (h4 : b ≤ 60) (w : World) :
  Calls Tryz.prog 85 #[.agg #[.int .i64 a, .int .i64 b]] w fun e w' => e = .returned (.agg #[.int .i64 a, .int .i64 b]) ∧ (w.alloc (.cells #[.int .i64 a, .int .i64 b] 76)).alloc (.cells #[.int .i64 a, .int .i64 b] 76) = w' := by
 go_enter Tryz.func85, Tryz.ntmps85
 go_wp2
 go_returns
 exact ⟨rfl, rfl⟩
theorem checked_no (a b : Int) (h : a < 1 ∨ 30 < a ∨ b < 1 ∨ 60 < b) (w : World) :
  Calls Tryz.prog 85 #[.agg #[.int .i64 a, .int .i64 b]] w fun e w' => e = .returned (.agg #[.int .i64 0, .int .i64 0]) ∧ (w.alloc (.cells #[.int .i64 a, .int .i64 b] 76)).alloc (.cells #[.int .i64 0, .int .i64 0] 76) = w' := by
 by_cases h1 : a < 1
 ·go_enter Tryz.func85, Tryz.ntmps85
  go_wp2
  go_returns
  exact ⟨rfl, rfl⟩
 ·by_cases h2 : 30 < a
  ·go_enter Tryz.func85, Tryz.ntmps85
   go_wp2
   go_returns
   exact ⟨rfl, rfl⟩
  ·by_cases h3 : b < 1
   ·go_enter Tryz.func85, Tryz.ntmps85
    go_wp2
    go_returns
    exact ⟨rfl, rfl⟩
   ·have h4 : 60 < b := by omega
    clear h
    go_enter Tryz.func85, Tryz.ntmps85
    go_wp2
    go_returns
    exact ⟨rfl, rfl⟩
theorem hide {p : Prop} (h : p) : Hid p := h
theorem unhide {p : Prop} (h : Hid p) : p := h
theorem split_yes (x : Int) (h0 : 0 < x) (h1 : 1 ≤ x / 4294967296) (h2 : x / 4294967296 ≤ 30) (h3 : 1 ≤ x % 4294967296) (h4 : x % 4294967296 ≤ 60) (w : World) :
  Calls Tryz.prog 37 #[.int .i64 x] w fun e w' => e = .returned (.agg #[.int .i64 (x / 4294967296), .int .i64 (x % 4294967296)]) ∧ Below w.heap.size w w' := by
 have hx : x ≤ 9223372036854775807 := by omega
 go_enter Tryz.func37, Tryz.ntmps37
 go_wp2_with (go_at_call 85; refine (checked_yes _ _ h1 h2 h3 h4 _).mono ?_; rintro e w1 ⟨rfl, rfl⟩)
 go_returns
 exact ⟨rfl, by go_grown⟩
theorem split_no_aid (x : Int) (h : ¬ (0 < x ∧ 1 ≤ x / 4294967296 ∧ x / 4294967296 ≤ 30 ∧ 1 ≤ x % 4294967296 ∧ x % 4294967296 ≤ 60)) (l : -9223372036854775808 ≤ x) (u : x ≤ 9223372036854775807) :
  wrap64 (x.tdiv 4294967296) < 1 ∨ 30 < wrap64 (x.tdiv 4294967296) ∨ x.tmod 4294967296 < 1 ∨ 60 < x.tmod 4294967296 := by
 by_cases h0 : 0 < x
 ·rw [Int.tdiv_eq_ediv_of_nonneg (by omega), Int.tmod_eq_emod_of_nonneg (by omega)]
  have : wrap64 (x / 4294967296) = x / 4294967296 := IntWalk.wrap64_in _ (by omega)
  rw [this]
  omega
 ·refine .inr (.inr (.inl ?_))
  obtain ⟨y, rfl⟩ : ∃ y, x = -y := ⟨-x, by omega⟩
  rw [Int.neg_tmod, Int.tmod_eq_emod_of_nonneg (by omega)]
  omega
theorem split_no (x : Int) (l : -9223372036854775808 ≤ x) (u : x ≤ 9223372036854775807) (h : ¬ (0 < x ∧ 1 ≤ x / 4294967296 ∧ x / 4294967296 ≤ 30 ∧ 1 ≤ x % 4294967296 ∧ x % 4294967296 ≤ 60)) (w : World) :
  Calls Tryz.prog 37 #[.int .i64 x] w fun e w' => e = .returned (.agg #[.int .i64 0, .int .i64 0]) ∧ Below w.heap.size w w' := by
 have H := hide (split_no_aid x h l u)
 clear h l u
 go_enter Tryz.func37, Tryz.ntmps37
 go_wp2_with (go_at_call 85; refine (checked_no _ _ (unhide H) _).mono ?_; rintro e w1 ⟨rfl, rfl⟩)
 go_returns
 exact ⟨rfl, by go_grown⟩
def isPl (x : Int) : Prop := 0 < x ∧ 1 ≤ x / 4294967296 ∧ x / 4294967296 ≤ 30 ∧ 1 ≤ x % 4294967296 ∧ x % 4294967296 ≤ 60
theorem specOk_yes (x : Int) (h : isPl x) (w : World) :
  Calls Tryz.prog 26 #[.int .i64 x] w fun e w' => e = .returned (.bool true) ∧ w = w' := by
 obtain ⟨h0, h1, h2, h3, h4⟩ := h
 have hx : x ≤ 9223372036854775807 := by omega
 go_enter Tryz.func26, Tryz.ntmps26
 go_wp2
 go_ret
 exact ⟨rfl, rfl⟩
theorem specOk_no (x : Int) (u : x ≤ 9223372036854775807) (h : ¬ isPl x) (w : World) :
  Calls Tryz.prog 26 #[.int .i64 x] w fun e w' => e = .returned (.bool false) ∧ w = w' := by
 unfold isPl at h
 by_cases h0 : 0 < x
 ·by_cases h1 : 1 ≤ x / 4294967296
  ·by_cases h2 : x / 4294967296 ≤ 30
   ·by_cases h3 : 1 ≤ x % 4294967296
    ·have h4 : ¬ x % 4294967296 ≤ 60 := by omega
     clear h
     go_enter Tryz.func26, Tryz.ntmps26
     go_wp2
     go_ret
     exact ⟨rfl, rfl⟩
    ·clear h
     go_enter Tryz.func26, Tryz.ntmps26
     go_wp2
     go_ret
     exact ⟨rfl, rfl⟩
   ·clear h
    go_enter Tryz.func26, Tryz.ntmps26
    go_wp2
    go_ret
    exact ⟨rfl, rfl⟩
  ·clear h
   go_enter Tryz.func26, Tryz.ntmps26
   go_wp2
   go_ret
   exact ⟨rfl, rfl⟩
 ·clear h
  go_enter Tryz.func26, Tryz.ntmps26
  go_wp2
  go_ret
  exact ⟨rfl, rfl⟩
theorem specEpoch_yes (x : Int) (h : isPl x) (w : World) :
  Calls Tryz.prog 35 #[.int .i64 x] w fun e w' => e = .returned (.int .i64 (x / 4294967296)) ∧ w = w' := by
 have hx := h
 obtain ⟨h0, h1, h2, h3, h4⟩ := hx
 have hx : x ≤ 9223372036854775807 := by omega
 go_enter Tryz.func35, Tryz.ntmps35
 go_wp2_with (go_at_call 26; refine (specOk_yes x h _).mono ?_; rintro e w1 ⟨rfl, rfl⟩)
 go_ret
 exact ⟨rfl, rfl⟩
theorem specEpoch_no (x : Int) (u : x ≤ 9223372036854775807) (h : ¬ isPl x) (w : World) :
  Calls Tryz.prog 35 #[.int .i64 x] w fun e w' => e = .returned (.int .i64 0) ∧ w = w' := by
 go_enter Tryz.func35, Tryz.ntmps35
 go_wp2_with (go_at_call 26; refine (specOk_no x u h _).mono ?_; rintro e w1 ⟨rfl, rfl⟩)
 go_ret
 exact ⟨rfl, rfl⟩
theorem specOff_yes (x : Int) (h : isPl x) (w : World) :
  Calls Tryz.prog 28 #[.int .i64 x] w fun e w' => e = .returned (.int .i64 (x % 4294967296)) ∧ w = w' := by
 have hx := h
 obtain ⟨h0, h1, h2, h3, h4⟩ := hx
 have hx : x ≤ 9223372036854775807 := by omega
 go_enter Tryz.func28, Tryz.ntmps28
 go_wp2_with (go_at_call 26; refine (specOk_yes x h _).mono ?_; rintro e w1 ⟨rfl, rfl⟩)
 go_ret
 exact ⟨rfl, rfl⟩
theorem implOk_yes (x : Int) (h : isPl x) (w : World) :
  Calls Tryz.prog 60 #[.int .i64 x] w fun e w' => e = .returned (.bool true) ∧ Below w.heap.size w w' := by
 obtain ⟨h0, h1, h2, h3, h4⟩ := h
 have H0 := hide h0
 have H3 := hide h3
 have H4 := hide h4
 have H2 := hide h2
 clear h0 h3 h4 h2
 go_enter Tryz.func60, Tryz.ntmps60
 go_wp2_with (first | (go_at_call 37; refine (split_yes x (unhide H0) h1 (unhide H2) (unhide H3) (unhide H4) _).mono ?_; rintro e w1 ⟨rfl, hb⟩) | (go_at_call 110; refine (isPlace_yes _ _ h1 _).mono ?_; rintro e w1 ⟨rfl, rfl⟩))
 go_ret
 exact ⟨rfl, Below.alloc hb hb.size _⟩
theorem implOk_no (x : Int) (l : -9223372036854775808 ≤ x) (u : x ≤ 9223372036854775807) (h : ¬ isPl x) (w : World) :
  Calls Tryz.prog 60 #[.int .i64 x] w fun e w' => e = .returned (.bool false) ∧ Below w.heap.size w w' := by
 go_enter Tryz.func60, Tryz.ntmps60
 go_wp2_with (first | (go_at_call 37; refine (split_no x l u h _).mono ?_; rintro e w1 ⟨rfl, hb⟩) | (go_at_call 110; refine (isPlace_no _).mono ?_; rintro e w1 ⟨rfl, rfl⟩))
 go_ret
 exact ⟨rfl, Below.alloc hb hb.size _⟩
def numF : Nat → Nat → List UInt8
 | 0, _ => []
 | n + 1, x => if x < 128 then [UInt8.ofNat x] else UInt8.ofNat (x % 128 + 128) :: numF n (x / 128)
def numB (x : Nat) : List UInt8 := numF 9 x
theorem numF_small {n x : Nat} (h : x < 128) : numF (n + 1) x = [UInt8.ofNat x] := by simp [numF, h]
theorem numF_big {n x : Nat} (h : ¬ x < 128) : numF (n + 1) x = UInt8.ofNat (x % 128 + 128) :: numF n (x / 128) := by simp [numF, h]
def NumInv (x m : Nat) (l : List UInt8) : Prop := l ++ numF (9 - l.length) m = numB x ∧ l.length ≤ 8 ∧ m < 128 ^ (9 - l.length)
theorem NumInv.step {x m : Nat} {l : List UInt8} (h : NumInv x m l) (hm : ¬ m < 128) : NumInv x (m / 128) (l ++ [UInt8.ofNat (m % 128 + 128)]) := by
 obtain ⟨h1, h2, h3⟩ := h
 have h8 : l.length ≤ 7 := by
  rcases Nat.lt_or_ge l.length 8 with h | h
  ·omega
  ·have : 9 - l.length = 1 := by omega
   rw [this] at h3
   omega
 have e : 9 - l.length = (9 - (l.length + 1)) + 1 := by omega
 refine ⟨?_, by simp; omega, ?_⟩
 ·rw [← h1, e, numF_big hm]
  simp
 ·rw [e, Nat.pow_succ] at h3
  rw [List.length_append, List.length_singleton]
  omega
theorem NumInv.done {x m : Nat} {l : List UInt8} (h : NumInv x m l) (hm : m < 128) : l ++ [UInt8.ofNat m] = numB x := by
 obtain ⟨h1, h2, h3⟩ := h
 have e : 9 - l.length = (8 - l.length) + 1 := by omega
 rw [← h1, e, numF_small hm]
def getF : Nat → Nat → Nat → Nat → List UInt8 → Option (Nat × Nat)
 | 0, _, _, _, _ => none
 | _ + 1, _, _, _, [] => none
 | n + 1, k, u, x, d :: r => if d.toNat < 128 then (if d.toNat = 0 ∧ 0 < k then none else some (x + d.toNat % 128 * u, k + 1)) else getF n (k + 1) (u * 128) (x + d.toNat % 128 * u) r
def getB (l : List UInt8) : Option (Nat × Nat) := getF 9 0 1 0 l
def GetInv (l : List UInt8) (at0 k x : Nat) : Prop := getF (9 - k) k (128 ^ k) x (l.drop (at0 + k)) = getB (l.drop at0) ∧ k ≤ 9 ∧ x < 128 ^ k
theorem pow_step (k x d : Nat) (h : x < 128 ^ k) : x + d % 128 * 128 ^ k < 128 ^ (k + 1) := by
 have h1 : d % 128 * 128 ^ k ≤ 127 * 128 ^ k := Nat.mul_le_mul_right _ (by omega)
 rw [Nat.pow_succ]
 omega
theorem GetInv.more {l : List UInt8} {at0 k x : Nat} (h : GetInv l at0 k x) (hk : k < 9) (hl : at0 + k < l.length) (hd : ¬ l[at0 + k].toNat < 128) : GetInv l at0 (k + 1) (x + l[at0 + k].toNat % 128 * 128 ^ k) := by
 obtain ⟨h1, h2, h3⟩ := h
 refine ⟨?_, by omega, pow_step k x _ h3⟩
 rw [← h1, show 9 - k = (9 - (k + 1)) + 1 by omega, List.drop_eq_getElem_cons hl]
 simp only [getF, hd, if_false]
 rw [← Nat.pow_succ, Nat.add_assoc]
theorem GetInv.none {l : List UInt8} {at0 k x : Nat} (h : GetInv l at0 k x) (hk : 9 ≤ k ∨ l.length ≤ at0 + k) : getB (l.drop at0) = Option.none := by
 obtain ⟨h1, h2, h3⟩ := h
 rw [← h1]
 rcases hk with hk | hk
 ·rw [show 9 - k = 0 by omega]; rfl
 ·rw [List.drop_eq_nil_of_le hk]
  cases 9 - k <;> rfl
def gtextB (l : List UInt8) (at0 : Nat) : Option (List UInt8 × Nat) := match getB (l.drop at0) with
 | none => none
 | some (n, k) => if n + (at0 + k) ≤ l.length then some ((l.drop (at0 + k)).take n, at0 + k + n) else none
theorem take_cells {w : World} {b off p n : Nat} {bs : List UInt8} (hc : ∀ i (h : i < bs.length), w.cell? ⟨b, off + i, none⟩ = some (.int .u8 (bs[i].toNat : Int))) (h : p + n ≤ bs.length) :
  ∀ j (hj : j < ((bs.drop p).take n).length), w.cell? ((⟨b, off + p, none⟩ : Addr).add j) = some (.int .u8 (((bs.drop p).take n)[j].toNat : Int)) := by
 intro j hj
 have hl : ((bs.drop p).take n).length = n := by simp; omega
 have e : (⟨b, off + p, none⟩ : Addr).add j = ⟨b, off + (p + j), none⟩ := by unfold Addr.add; split <;> simp_all <;> omega
 rw [e, hc (p + j) (by omega)]
 simp
theorem conv_cut {w : World} {b off p n cap : Nat} {bs : List UInt8} (hc : ∀ i (h : i < bs.length), w.cell? ⟨b, off + i, none⟩ = some (.int .u8 (bs[i].toNat : Int))) (h : p + n ≤ bs.length) :
  (convert 22 9 (.slice (some ⟨b, off + p, none⟩) n cap)).run Tryz.prog w = .ok (.string ⟨((bs.drop p).take n).toArray⟩) w := by
 have hl : ((bs.drop p).take n).length = n := by simp; omega
 have := run_convert_bytes_back (P := Tryz.prog) w 22 9 5 ⟨b, off + p, none⟩ cap ((bs.drop p).take n) Tryz.underlying22 Tryz.underlying5 Tryz.underlying9 (take_cells hc h)
 rwa [hl] at this
theorem conv_none {w : World} (b off : Nat) (cap : Nat) : (convert 22 9 (.slice (some ⟨b, off, none⟩) 0 cap)).run Tryz.prog w = .ok (.string ⟨#[]⟩) w := by
 have := run_convert_bytes_back (P := Tryz.prog) w 22 9 5 ⟨b, off, none⟩ cap [] Tryz.underlying22 Tryz.underlying5 Tryz.underlying9 (fun j hj => by simp at hj)
 exact this
theorem info8a : (Tryz.prog.info? 5).map (fun i => (i.zero, i.size, i.bytes)) = some (some (.int .u8 0), 1, 1) := by kernel_rfl
theorem Drawn.grown {bk : Nat} {w0 w w' : World} {row : Option Nat} (h : Drawn bk w0 w) (hg : w.grownBy w' row) (hr : ∀ k, row = some k → w0.heap.size ≤ k) : Drawn bk w0 w' :=
 ⟨hg.os.trans h.os, hg.tape.trans h.tape, hg.output.trans h.output, Nat.le_trans h.size hg.size, fun k hk hn => (hg.block k (Nat.lt_of_lt_of_le hk h.size) (fun e => by have := hr k e.symm; omega)).trans (h.block k hk hn)⟩
theorem Drawn.row {bk : Nat} {w w' : World} (h : Drawn bk w w') : w.grownBy w' (some bk) := ⟨h.os, h.tape, h.output, h.size, fun k hk hn => h.block k hk (by rintro rfl; exact hn rfl)⟩
theorem Cur.grown {bk : Nat} {w w' : World} {row : Option Nat} (h : Cur w bk) (hg : w.grownBy w' row) (hr : ∀ k, row = some k → bk < k) : Cur w' bk := by
 obtain ⟨a, len, cap, i, hh, hr8, hn, hi, c0, c1, c2, f1, f2⟩ := h
 have lt := dCell_lt c0
 have hblk : w'.heap[bk]? = w.heap[bk]? := hg.block bk lt (fun e => by have := hr bk e.symm; omega)
 have hcell : ∀ o, w'.cell? ⟨bk, o, none⟩ = w.cell? ⟨bk, o, none⟩ := fun o => World.cell?_of_block (w := w) (w' := w') (a := ⟨bk, o, none⟩) hblk
 have hfr : ∀ o, w'.frozen? ⟨bk, o, none⟩ = w.frozen? ⟨bk, o, none⟩ := fun o => World.frozen?_of_block (w := w) (w' := w') (a := ⟨bk, o, none⟩) hblk
 refine ⟨a, len, cap, i, hh, ⟨hr8.1, ?_⟩, hn, hi, (hcell 0).trans c0, (hcell 1).trans c1, (hcell 2).trans c2, (hfr 1).trans f1, (hfr 2).trans f2⟩
 rcases hr8.2 with h0 | ⟨b, off, rfl, hc⟩
 ·exact .inl h0
 ·rcases Nat.eq_zero_or_pos len with h0 | h0
  ·exact .inl h0
  ·refine .inr ⟨b, off, rfl, fun j hj => ?_⟩
   obtain ⟨v, v1, v2, v3⟩ := hc j hj
   refine ⟨v, v1, v2, hg.cell v3 ?_⟩
   intro e
   have h1 := hr b e.symm
   have h2 := hn b off rfl h0
   omega
theorem field_epoch (a b : Int) (w : World) : (Instr.field 76 (.agg #[.int .i64 a, .int .i64 b]) 0).run Tryz.prog w = .ok (.int .i64 a) w := by kernel_rfl
theorem field_off (a b : Int) (w : World) : (Instr.field 76 (.agg #[.int .i64 a, .int .i64 b]) 1).run Tryz.prog w = .ok (.int .i64 b) w := by kernel_rfl
theorem implEpoch_yes (x : Int) (h : isPl x) (w : World) :
  Calls Tryz.prog 10 #[.int .i64 x] w fun e w' => e = .returned (.int .i64 (x / 4294967296)) ∧ Below w.heap.size w w' := by
 obtain ⟨h0, h1, h2, h3, h4⟩ := h
 have hfe := field_epoch
 go_enter Tryz.func10, Tryz.ntmps10
 go_wp2_with (go_at_call 37; refine (split_yes x h0 h1 h2 h3 h4 _).mono ?_; rintro e w1 ⟨rfl, hb⟩)
 go_ret
 exact ⟨rfl, hb⟩
theorem implEpoch_no (x : Int) (l : -9223372036854775808 ≤ x) (u : x ≤ 9223372036854775807) (h : ¬ isPl x) (w : World) :
  Calls Tryz.prog 10 #[.int .i64 x] w fun e w' => e = .returned (.int .i64 0) ∧ Below w.heap.size w w' := by
 have hfe := field_epoch
 go_enter Tryz.func10, Tryz.ntmps10
 go_wp2_with (go_at_call 37; refine (split_no x l u h _).mono ?_; rintro e w1 ⟨rfl, hb⟩)
 go_ret
 exact ⟨rfl, hb⟩
theorem implOff_yes (x : Int) (h : isPl x) (w : World) :
  Calls Tryz.prog 21 #[.int .i64 x] w fun e w' => e = .returned (.int .i64 (x % 4294967296)) ∧ Below w.heap.size w w' := by
 obtain ⟨h0, h1, h2, h3, h4⟩ := h
 have hfo := field_off
 go_enter Tryz.func21, Tryz.ntmps21
 go_wp2_with (go_at_call 37; refine (split_yes x h0 h1 h2 h3 h4 _).mono ?_; rintro e w1 ⟨rfl, hb⟩)
 go_ret
 exact ⟨rfl, hb⟩
theorem implOff_no (x : Int) (l : -9223372036854775808 ≤ x) (u : x ≤ 9223372036854775807) (h : ¬ isPl x) (w : World) :
  Calls Tryz.prog 21 #[.int .i64 x] w fun e w' => e = .returned (.int .i64 0) ∧ Below w.heap.size w w' := by
 have hfo := field_off
 go_enter Tryz.func21, Tryz.ntmps21
 go_wp2_with (go_at_call 37; refine (split_no x l u h _).mono ?_; rintro e w1 ⟨rfl, hb⟩)
 go_ret
 exact ⟨rfl, hb⟩
end Go.Proofs.YtjkjmapibcfcdaaGreat
