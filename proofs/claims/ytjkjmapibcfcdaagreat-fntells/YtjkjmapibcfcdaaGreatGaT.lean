/- Several texts in one: NumP, NumS, GetP, GetS, TextS, TextG, MarkT, PutA, AppB, EntB, StB, StC, StD, EntO, OpenE. -/
import Derived.Test.YtjkjmapibcfcdaaGreatGaA
import Derived.Laws.AppendOwn
import Derived.OwnWalk
import Derived.Lib.ConvBytes
import Derived.Lib.Strings
import Derived.Laws.BytesArg
import Derived.Laws.IdiomStrings
import Derived.Test.YtjkjmapibcfcdaaGreatGbE
import Derived.Deep.RegionHeld3
import Derived.Deep.DeepCutAuto
import Derived.Test.YtjkjmapibcfcdaaGreatGaD
namespace Go.Proofs.YtjkjmapibcfcdaaGreat
open Go.ChangeShapes Go.WideShapes Go.ChangeAt Go.RowKit
set_option linter.unusedSimpArgs false
set_option linter.unusedVariables false
set_option maxRecDepth 100000
def numF : Nat → Nat → List UInt8
  | 0, _ => []
  | n + 1, x => if x < 128 then [UInt8.ofNat x] else UInt8.ofNat (x % 128 + 128) :: numF n (x / 128)
def numB (x : Nat) : List UInt8 := numF 9 x
theorem numF_small {n x : Nat} (h : x < 128) : numF (n + 1) x = [UInt8.ofNat x] := by simp [numF, h]
theorem numF_big {n x : Nat} (h : ¬ x < 128) : numF (n + 1) x = UInt8.ofNat (x % 128 + 128) :: numF n (x / 128) := by simp [numF, h]
def NumInv (x m : Nat) (l : List UInt8) : Prop := l ++ numF (9 - l.length) m = numB x ∧ l.length ≤ 8 ∧ m < 128 ^ (9 - l.length)
theorem NumInv.start {x : Nat} (h : x ≤ 9223372036854775807) : NumInv x x [] := ⟨rfl, by simp, by have : 128 ^ (9 - ([] : List UInt8).length) = 9223372036854775808 := by decide
                                                                                                  omega⟩
theorem NumInv.step {x m : Nat} {l : List UInt8} (h : NumInv x m l) (hm : ¬ m < 128) : NumInv x (m / 128) (l ++ [UInt8.ofNat (m % 128 + 128)]) := by
  obtain ⟨h1, h2, h3⟩ := h
  have h8 : l.length ≤ 7 := by
    rcases Nat.lt_or_ge l.length 8 with h | h
    · omega
    · have : 9 - l.length = 1 := by omega
      rw [this] at h3
      omega
  have e : 9 - l.length = (9 - (l.length + 1)) + 1 := by omega
  refine ⟨?_, by simp; omega, ?_⟩
  · rw [← h1, e, numF_big hm]
    simp
  · rw [e, Nat.pow_succ] at h3
    rw [List.length_append, List.length_singleton]
    omega
theorem NumInv.done {x m : Nat} {l : List UInt8} (h : NumInv x m l) (hm : m < 128) : l ++ [UInt8.ofNat m] = numB x := by
  obtain ⟨h1, h2, h3⟩ := h
  have e : 9 - l.length = (8 - l.length) + 1 := by omega
  rw [← h1, e, numF_small hm]
def getF : Nat → Nat → Nat → Nat → List UInt8 → Option (Nat × Nat)
 | 0, _, _, _, _ => none
 | _ + 1, _, _, _, [] => none
 | n + 1, k, u, x, d :: r => if d.toNat < 128 then (if d.toNat = 0 ∧ 0 < k then none else some (x + d.toNat % 128 * u, k + 1)) else getF n (k + 1) (u * 128) (x + d.toNat % 128 * u) r
def getB (l : List UInt8) : Option (Nat × Nat) := getF 9 0 1 0 l
def GetInv (l : List UInt8) (at0 k x : Nat) : Prop := getF (9 - k) k (128 ^ k) x (l.drop (at0 + k)) = getB (l.drop at0) ∧ k ≤ 9 ∧ x < 128 ^ k
theorem GetInv.start (l : List UInt8) (at0 : Nat) : GetInv l at0 0 0 := ⟨rfl, by omega, by simp⟩
theorem pow_step (k x d : Nat) (h : x < 128 ^ k) : x + d % 128 * 128 ^ k < 128 ^ (k + 1) := by
 have h1 : d % 128 * 128 ^ k ≤ 127 * 128 ^ k := Nat.mul_le_mul_right _ (by omega)
 rw [Nat.pow_succ]
 omega
theorem GetInv.more {l : List UInt8} {at0 k x : Nat} (h : GetInv l at0 k x) (hk : k < 9) (hl : at0 + k < l.length) (hd : ¬ l[at0 + k].toNat < 128) : GetInv l at0 (k + 1) (x + l[at0 + k].toNat % 128 * 128 ^ k) := by
 obtain ⟨h1, h2, h3⟩ := h
 refine ⟨?_, by omega, pow_step k x _ h3⟩
 rw [← h1, show 9 - k = (9 - (k + 1)) + 1 by omega, List.drop_eq_getElem_cons hl]
 simp only [getF, hd, if_false]
 rw [← Nat.pow_succ, Nat.add_assoc]
theorem GetInv.none {l : List UInt8} {at0 k x : Nat} (h : GetInv l at0 k x) (hk : 9 ≤ k ∨ l.length ≤ at0 + k) : getB (l.drop at0) = Option.none := by
 obtain ⟨h1, h2, h3⟩ := h
 rw [← h1]
 rcases hk with hk | hk
 ·rw [show 9 - k = 0 by omega]; rfl
 ·rw [List.drop_eq_nil_of_le hk]
  cases 9 - k <;> rfl
def gtextB (l : List UInt8) (at0 : Nat) : Option (List UInt8 × Nat) := match getB (l.drop at0) with
 | none => none
 | some (n, k) => if n + (at0 + k) ≤ l.length then some ((l.drop (at0 + k)).take n, at0 + k + n) else none
theorem take_cells {w : World} {b off p n : Nat} {bs : List UInt8} (hc : ∀ i (h : i < bs.length), w.cell? ⟨b, off + i, none⟩ = some (.int .u8 (bs[i].toNat : Int))) (h : p + n ≤ bs.length) :
  ∀ j (hj : j < ((bs.drop p).take n).length), w.cell? ((⟨b, off + p, none⟩ : Addr).add j) = some (.int .u8 (((bs.drop p).take n)[j].toNat : Int)) := by
 intro j hj
 have hl : ((bs.drop p).take n).length = n := by simp; omega
 have e : (⟨b, off + p, none⟩ : Addr).add j = ⟨b, off + (p + j), none⟩ := by unfold Addr.add; split <;> simp_all <;> omega
 rw [e, hc (p + j) (by omega)]
 simp
theorem conv_cut {w : World} {b off p n cap : Nat} {bs : List UInt8} (hc : ∀ i (h : i < bs.length), w.cell? ⟨b, off + i, none⟩ = some (.int .u8 (bs[i].toNat : Int))) (h : p + n ≤ bs.length) :
  (convert 22 9 (.slice (some ⟨b, off + p, none⟩) n cap)).run Tryz.prog w = .ok (.string ⟨((bs.drop p).take n).toArray⟩) w := by
 have hl : ((bs.drop p).take n).length = n := by simp; omega
 have := run_convert_bytes_back (P := Tryz.prog) w 22 9 5 ⟨b, off + p, none⟩ cap ((bs.drop p).take n) Tryz.underlying22 Tryz.underlying5 Tryz.underlying9 (take_cells hc h)
 rwa [hl] at this
theorem conv_none {w : World} (b off : Nat) (cap : Nat) : (convert 22 9 (.slice (some ⟨b, off, none⟩) 0 cap)).run Tryz.prog w = .ok (.string ⟨#[]⟩) w := by
 have := run_convert_bytes_back (P := Tryz.prog) w 22 9 5 ⟨b, off, none⟩ cap [] Tryz.underlying22 Tryz.underlying5 Tryz.underlying9 (fun j hj => by simp at hj)
 exact this
theorem info8a : (Tryz.prog.info? 5).map (fun i => (i.zero, i.size, i.bytes)) = some (some (.int .u8 0), 1, 1) := by kernel_rfl
theorem Drawn.grown {bk : Nat} {w0 w w' : World} {row : Option Nat} (h : Drawn bk w0 w) (hg : w.grownBy w' row) (hr : ∀ k, row = some k → w0.heap.size ≤ k) : Drawn bk w0 w' :=
 ⟨hg.os.trans h.os, hg.tape.trans h.tape, hg.output.trans h.output, Nat.le_trans h.size hg.size, fun k hk hn => (hg.block k (Nat.lt_of_lt_of_le hk h.size) (fun e => by have := hr k e.symm; omega)).trans (h.block k hk hn)⟩
theorem Drawn.row {bk : Nat} {w w' : World} (h : Drawn bk w w') : w.grownBy w' (some bk) := ⟨h.os, h.tape, h.output, h.size, fun k hk hn => h.block k hk (by rintro rfl; exact hn rfl)⟩
theorem Cur.grown {bk : Nat} {w w' : World} {row : Option Nat} (h : Cur w bk) (hg : w.grownBy w' row) (hr : ∀ k, row = some k → bk < k) : Cur w' bk := by
 obtain ⟨a, len, cap, i, hh, hr8, hn, hi, c0, c1, c2, f1, f2⟩ := h
 have lt := dCell_lt c0
 have hblk : w'.heap[bk]? = w.heap[bk]? := hg.block bk lt (fun e => by have := hr bk e.symm; omega)
 have hcell : ∀ o, w'.cell? ⟨bk, o, none⟩ = w.cell? ⟨bk, o, none⟩ := fun o => World.cell?_of_block (w := w) (w' := w') (a := ⟨bk, o, none⟩) hblk
 have hfr : ∀ o, w'.frozen? ⟨bk, o, none⟩ = w.frozen? ⟨bk, o, none⟩ := fun o => World.frozen?_of_block (w := w) (w' := w') (a := ⟨bk, o, none⟩) hblk
 refine ⟨a, len, cap, i, hh, ⟨hr8.1, ?_⟩, hn, hi, (hcell 0).trans c0, (hcell 1).trans c1, (hcell 2).trans c2, (hfr 1).trans f1, (hfr 2).trans f2⟩
 rcases hr8.2 with h0 | ⟨b, off, rfl, hc⟩
 ·exact .inl h0
 ·rcases Nat.eq_zero_or_pos len with h0 | h0
  ·exact .inl h0
  ·refine .inr ⟨b, off, rfl, fun j hj => ?_⟩
   obtain ⟨v, v1, v2, v3⟩ := hc j hj
   refine ⟨v, v1, v2, hg.cell v3 ?_⟩
   intro e
   have h1 := hr b e.symm
   have h2 := hn b off rfl h0
   omega
theorem bytes_loop_len (b : ByteArray) (i : Nat) (r : List UInt8) : (ByteArray.toList.loop b i r).length = (b.size - i) + r.length := by
 induction h : b.size - i generalizing i r with
 | zero =>
  rw [ByteArray.toList.loop]
  have : ¬ i < b.size := by omega
  simp [this]
 | succ n ih =>
  rw [ByteArray.toList.loop]
  have : i < b.size := by omega
  simp [this]
  rw [ih (i+1) _ (by omega)]
  simp
  omega
theorem bytes_ne (d : ByteArray) (h : d.size ≠ 0) : d.toList.isEmpty = false := by
 have e : d.toList.length = d.size := by rw [ByteArray.toList, bytes_loop_len]; simp
 cases hd : d.toList with
 | nil => rw [hd] at e; simp at e; omega
 | cons a l => rfl
theorem bytes_nil (d : ByteArray) (h : d.size = 0) : d = ⟨#[]⟩ := by
 obtain ⟨a⟩ := d
 have : a.size = 0 := h
 congr 1
 exact Array.eq_empty_of_size_eq_zero this
theorem specEntOk_yes (e : Ent) (h : entP e) (w : World) :
  Calls Tryz.prog 81 #[e.val] w fun r w' => r = .returned (.bool true) ∧ Below w.heap.size w w' := by
 obtain ⟨x, v, h0, d⟩ := e
 obtain ⟨hp, v0, v1, hv, hd, hh⟩ := h
 simp only at hp v0 v1 hv hd hh
 rcases Int.lt_or_le 0 v with hv0 | hv0
 ·have hv' := hv hv0
  cases h0 with
  | false => exact specEntOk_w1 x v d hp hv0 v1 hv' (by omega) w
  | true =>
   obtain rfl := bytes_nil d (hh rfl).2
   exact specEntOk_w2 x v hp hv0 v1 hv' w
 ·obtain rfl : v = 0 := by omega
  cases h0 with
  | false => exact specEntOk_w0f x d hp (by omega) w
  | true => exact absurd (hh rfl).1 (by omega)
theorem specEntOk_no (e : Ent) (hf : e.fits) (h : ¬ entP e) (w : World) :
  Calls Tryz.prog 81 #[e.val] w fun r w' => r = .returned (.bool false) ∧ Below w.heap.size w w' := by
 obtain ⟨x, v, h0, d⟩ := e
 obtain ⟨f1, f2, f3, f4, f5⟩ := hf
 simp only at f1 f2 f3 f4 f5
 unfold entP at h
 simp only at h
 by_cases hp : isPl x
 ·by_cases hr : v < 0 ∨ 30 < v
  ·exact specEntOk_no2 x v h0 d hp hr w
  ·have r0 : 0 ≤ v := by omega
   have r1 : v ≤ 30 := by omega
   by_cases hd : (40 : Int) < (d.size : Int)
   ·rcases Int.lt_or_le 0 v with hv0 | hv0
    ·by_cases hv : v ≤ x / 4294967296
     ·exact specEntOk_no3 x v h0 d hp hv0 r1 hv w
     ·exact specEntOk_no5 x v h0 d hp hv0 r1 (by omega) hd w
    ·obtain rfl : v = 0 := by omega
     exact specEntOk_no4 x h0 d hp hd w
   ·rcases Int.lt_or_le 0 v with hv0 | hv0
    ·by_cases hv : v ≤ x / 4294967296
     ·exact specEntOk_no3 x v h0 d hp hv0 r1 hv w
     ·cases h0 with
      | false => exact absurd ⟨hp, r0, r1, fun _ => by omega, by omega, fun h => by cases h⟩ h
      | true =>
       refine specEntOk_w3 x v d hp hv0 r1 (by omega) (by omega) (bytes_ne d fun h1 => ?_) w
       exact h ⟨hp, r0, r1, fun _ => by omega, by omega, fun _ => ⟨hv0, h1⟩⟩
    ·obtain rfl : v = 0 := by omega
     cases h0 with
     | false => exact absurd ⟨hp, r0, r1, fun h => by omega, by omega, fun h => by cases h⟩ h
     | true => exact specEntOk_w0t x d hp (by omega) w
 ·exact specEntOk_no1 x v h0 d f2 hp w
theorem Below.row {w w' : World} (h : Below w.heap.size w w') (row : Option Nat) : w.grownBy w' row := ⟨h.os, h.tape, h.output, h.size, fun k hk _ => h.block k hk⟩
theorem specEntOk_any (e : Ent) (hf : e.fits) (w : World) : Calls Tryz.prog 81 #[e.val] w fun r w' => RetB (entP e) r ∧ Below w.heap.size w w' := by
 by_cases h : entP e
 ·exact (specEntOk_yes e h w).mono fun r w' ⟨h1, h2⟩ => ⟨h1 ▸ RetB.yes h, h2⟩
 ·exact (specEntOk_no e hf h w).mono fun r w' ⟨h1, h2⟩ => ⟨h1 ▸ RetB.no h, h2⟩
def Rs (w : World) (v : Value) (s : St) : Prop := ∃ kv lv, v = .agg #[kv, lv, .int .i64 s.lock] ∧ Rw 4 Ent.cl w kv s.kept ∧ Rw 4 Ent.cl w lv s.late
theorem Rs.below {w w' : World} {v : Value} {s : St} (h : Rs w v s) (hb : Below w.heap.size w w') : Rs w' v s := by
 obtain ⟨kv, lv, h1, h2, h3⟩ := h
 exact ⟨kv, lv, h1, h2.below hb, h3.below hb⟩
abbrev ApE (w : World) (base : Nat) (v : Value) (es : List Ent) : Prop := ApR 36 4 Ent.cl w base v es
def OwS (w : World) (base : Nat) (v : Value) (s : St) : Prop := ∃ kv lv, v = .agg #[kv, lv, .int .i64 s.lock] ∧ ApE w base kv s.kept ∧ ApE w base lv s.late ∧ (touch kv = none ∨ touch kv ≠ touch lv)
theorem OwS.rs {w : World} {base : Nat} {v : Value} {s : St} (h : OwS w base v s) : Rs w v s := by
 obtain ⟨kv, lv, h1, h2, h3, -⟩ := h
 exact ⟨kv, lv, h1, (ApR.own elemE h2).rw, (ApR.own elemE h3).rw⟩
theorem OwS.below {w w' : World} {base : Nat} {v : Value} {s : St} (h : OwS w base v s) (hb : Below w.heap.size w w') : OwS w' base v s := by
 obtain ⟨kv, lv, h1, h2, h3, h4⟩ := h
 exact ⟨kv, lv, h1, h2.below hb, h3.below hb, h4⟩
theorem OwS.mono {w : World} {base base' : Nat} {v : Value} {s : St} (h : OwS w base v s) (hb : base' ≤ base) : OwS w base' v s := by
 obtain ⟨kv, lv, h1, h2, h3, h4⟩ := h
 exact ⟨kv, lv, h1, h2.mono hb, h3.mono hb, h4⟩
variable {H : Type} {enc : TypeId × Value → H} {W : World} {r : Reach} {b0 base : Nat} {sp : Nat → Bool} {held : Bool} {v : Value} {d : DataW H} {p : List MemPlace}
variable {H : Type} {enc : TypeId × Value → H} {W : World} {r : Reach} {b0 base : Nat} {sp : Nat → Bool} {held : Bool} {v : Value} {d : DataW H} {p : List MemPlace}
end Go.Proofs.YtjkjmapibcfcdaaGreat
