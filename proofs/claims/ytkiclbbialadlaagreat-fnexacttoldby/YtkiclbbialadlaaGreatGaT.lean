/- Several texts in one: NumP, NumS, GetP, GetS, TextS, TextG, MarkT, PutA, AppB, EntB, StB, StC, StepP, RetQ, InQ. -/
import Derived.Test.YtkiclbbialadlaaGreatGaA
import Derived.Laws.AppendOwn
import Derived.OwnWalk
import Derived.Lib.ConvBytes
import Derived.Lib.Strings
import Derived.Laws.BytesArg
import Derived.Laws.IdiomStrings
import Derived.Test.YtkiclbbialadlaaGreatGbP
import Derived.Deep.RegionHeld3
import Derived.WalkKit
import Derived.Test.YtkiclbbialadlaaGreatGaC
namespace Go.Proofs.YtkiclbbialadlaaGreat
open Go.ChangeShapes Go.WideShapes Go.ChangeAt Go.RowKit
set_option linter.unusedVariables false
set_option maxRecDepth 100000
def numF : Nat → Nat → List UInt8
  | 0, _ => []
  | n + 1, x => if x < 128 then [UInt8.ofNat x] else UInt8.ofNat (x % 128 + 128) :: numF n (x / 128)
def numB (x : Nat) : List UInt8 := numF 9 x
theorem numF_small {n x : Nat} (h : x < 128) : numF (n + 1) x = [UInt8.ofNat x] := by simp [numF, h]
theorem numF_big {n x : Nat} (h : ¬ x < 128) : numF (n + 1) x = UInt8.ofNat (x % 128 + 128) :: numF n (x / 128) := by simp [numF, h]
def NumInv (x m : Nat) (l : List UInt8) : Prop := l ++ numF (9 - l.length) m = numB x ∧ l.length ≤ 8 ∧ m < 128 ^ (9 - l.length)
theorem NumInv.start {x : Nat} (h : x ≤ 9223372036854775807) : NumInv x x [] := ⟨rfl, by simp, by have : 128 ^ (9 - ([] : List UInt8).length) = 9223372036854775808 := by decide
                                                                                                  omega⟩
theorem NumInv.step {x m : Nat} {l : List UInt8} (h : NumInv x m l) (hm : ¬ m < 128) : NumInv x (m / 128) (l ++ [UInt8.ofNat (m % 128 + 128)]) := by
  obtain ⟨h1, h2, h3⟩ := h
  have h8 : l.length ≤ 7 := by
    rcases Nat.lt_or_ge l.length 8 with h | h
    · omega
    · have : 9 - l.length = 1 := by omega
      rw [this] at h3
      omega
  have e : 9 - l.length = (9 - (l.length + 1)) + 1 := by omega
  refine ⟨?_, by simp; omega, ?_⟩
  · rw [← h1, e, numF_big hm]
    simp
  · rw [e, Nat.pow_succ] at h3
    rw [List.length_append, List.length_singleton]
    omega
theorem NumInv.done {x m : Nat} {l : List UInt8} (h : NumInv x m l) (hm : m < 128) : l ++ [UInt8.ofNat m] = numB x := by
  obtain ⟨h1, h2, h3⟩ := h
  have e : 9 - l.length = (8 - l.length) + 1 := by omega
  rw [← h1, e, numF_small hm]
def getF : Nat → Nat → Nat → Nat → List UInt8 → Option (Nat × Nat)
 | 0, _, _, _, _ => none
 | _ + 1, _, _, _, [] => none
 | n + 1, k, u, x, d :: r => if d.toNat < 128 then (if d.toNat = 0 ∧ 0 < k then none else some (x + d.toNat % 128 * u, k + 1)) else getF n (k + 1) (u * 128) (x + d.toNat % 128 * u) r
def getB (l : List UInt8) : Option (Nat × Nat) := getF 9 0 1 0 l
def GetInv (l : List UInt8) (at0 k x : Nat) : Prop := getF (9 - k) k (128 ^ k) x (l.drop (at0 + k)) = getB (l.drop at0) ∧ k ≤ 9 ∧ x < 128 ^ k
theorem GetInv.start (l : List UInt8) (at0 : Nat) : GetInv l at0 0 0 := ⟨rfl, by omega, by simp⟩
theorem pow_step (k x d : Nat) (h : x < 128 ^ k) : x + d % 128 * 128 ^ k < 128 ^ (k + 1) := by
 have h1 : d % 128 * 128 ^ k ≤ 127 * 128 ^ k := Nat.mul_le_mul_right _ (by omega)
 rw [Nat.pow_succ]
 omega
theorem GetInv.more {l : List UInt8} {at0 k x : Nat} (h : GetInv l at0 k x) (hk : k < 9) (hl : at0 + k < l.length) (hd : ¬ l[at0 + k].toNat < 128) : GetInv l at0 (k + 1) (x + l[at0 + k].toNat % 128 * 128 ^ k) := by
 obtain ⟨h1, h2, h3⟩ := h
 refine ⟨?_, by omega, pow_step k x _ h3⟩
 rw [← h1, show 9 - k = (9 - (k + 1)) + 1 by omega, List.drop_eq_getElem_cons hl]
 simp only [getF, hd, if_false]
 rw [← Nat.pow_succ, Nat.add_assoc]
theorem GetInv.none {l : List UInt8} {at0 k x : Nat} (h : GetInv l at0 k x) (hk : 9 ≤ k ∨ l.length ≤ at0 + k) : getB (l.drop at0) = Option.none := by
 obtain ⟨h1, h2, h3⟩ := h
 rw [← h1]
 rcases hk with hk | hk
 ·rw [show 9 - k = 0 by omega]; rfl
 ·rw [List.drop_eq_nil_of_le hk]
  cases 9 - k <;> rfl
def gtextB (l : List UInt8) (at0 : Nat) : Option (List UInt8 × Nat) := match getB (l.drop at0) with
 | none => none
 | some (n, k) => if n + (at0 + k) ≤ l.length then some ((l.drop (at0 + k)).take n, at0 + k + n) else none
def dig1 (k : Nat) : ByteArray := ⟨#[UInt8.ofNat (48 + k % 10)]⟩
def digs (k : Nat) (out : ByteArray) : ByteArray := if h : k = 0 then out else digs (k / 10) (dig1 k ++ out)
termination_by k
decreasing_by omega
def markT (k : Nat) : ByteArray := (⟨#[109]⟩ : ByteArray) ++ digs k ⟨#[]⟩
theorem digs_zero (out : ByteArray) : digs 0 out = out := by rw [digs]; simp
theorem digs_step (k : Nat) (out : ByteArray) (h : k ≠ 0) : digs k out = digs (k / 10) (dig1 k ++ out) := by rw [digs]; simp [h]
theorem dig_size (k : Nat) (s : ByteArray) : (dig1 k ++ s).size = s.size + 1 := by
 rw [ByteArray.size_append]
 show 1 + s.size = _
 omega
theorem conv_one (w : World) (d : Nat) (h : d < 256) : (convert 161 9 (.slice (some ⟨w.heap.size, 0, none⟩) 1 1)).run Tryz.prog (w.alloc (.cells #[.int .u8 (d : Int)] 5)) = .ok (.string ⟨#[UInt8.ofNat d]⟩) (w.alloc (.cells #[.int .u8 (d : Int)] 5)) := by
 have := run_convert_bytes_back (P := Tryz.prog) (w.alloc (.cells #[.int .u8 (d : Int)] 5)) 161 9 5 ⟨w.heap.size, 0, none⟩ 1 [UInt8.ofNat d] Tryz.underlying161 Tryz.underlying5 Tryz.underlying9 (fun j hj => by
  obtain rfl : j = 0 := by simp at hj; omega
  have e : ((UInt8.ofNat d).toNat : Int) = (d : Int) := by simp; omega
  simp [Addr.add]
  omega)
 simpa using this
set_option maxHeartbeats 2000000 in
theorem markText_any (k : Nat) (hk : k ≤ 4294967296) (hp : 0 < k) (w : World) :
  Calls Tryz.prog 54 #[.int .i64 (k : Int)] w fun e w' => e = .returned (.string (markT k)) ∧ Below w.heap.size w w' := by
 have hd : decide ((k : Int) ≤ 0) = false := decide_eq_false (by omega)
 have HM : Hid (markT k = (⟨#[109]⟩ : ByteArray) ++ digs k ⟨#[]⟩) := rfl
 generalize markT k = M at *
 go_enter Tryz.func54, Tryz.ntmps54
 go_wp2
 go_loopw [0, 3] (fun x o wr => ∃ (q : Nat) (s : ByteArray), x = .int .i64 (q : Int) ∧ o = .string s ∧ s.size + q ≤ 4294967296 ∧ Hid (digs q s = digs k ⟨#[]⟩) ∧ Below w.heap.size w wr) (fun x _ _ => (intOf x).toNat)
 case atStart => exact ⟨k, ⟨#[]⟩, rfl, rfl, (by show 0 + k ≤ _; omega), rfl, Below.refl _ _⟩
 case round =>
  obtain ⟨q, s, rfl, rfl, hq, hs, hb⟩ := hrel
  by_cases h0 : (0 : Int) < (q : Int)
  ·have hcv := conv_one wr (48 + q % 10) (by omega)
   have e0 : ((48 + q % 10 : Nat) : Int) = 48 + (q : Int) % 10 := by omega
   rw [e0] at hcv
   have e1 : Hid (digs (q / 10) (dig1 q ++ s) = digs k ⟨#[]⟩) := by rw [Hid, ← dU hs, digs_step q s (by omega)]
   clear hs e0
   have e3 : Hid ((⟨#[UInt8.ofNat (48 + q % 10)]⟩ : ByteArray) = dig1 q) := rfl
   generalize UInt8.ofNat (48 + q % 10) = d8 at hcv e3
   have hz1 : (1 : Int) + (s.size : Int) ≤ 4294967297 := by omega
   go_wp2
   go_roundw
   case rel => exact ⟨q / 10, dig1 q ++ s, by go_num, by rw [← dU e3], by rw [dig_size]; omega, e1, hb.alloc hb.size _⟩
   case measure => simp [intOf]; omega
  ·have h1 : q = 0 := by omega
   have e1 := dU hs
   rw [h1, digs_zero] at e1
   have e2 := dU HM
   rw [← e1] at e2
   have E2 := dH e2
   clear hs e1 HM e2 h1
   have hz1 : (1 : Int) + (s.size : Int) ≤ 4294967297 := by omega
   go_wp2
   go_ret
   exact ⟨by rw [dU E2]; rfl, hb⟩
theorem Drawn.grown {bk : Nat} {w0 w w' : World} {row : Option Nat} (h : Drawn bk w0 w) (hg : w.grownBy w' row) (hr : ∀ k, row = some k → w0.heap.size ≤ k) : Drawn bk w0 w' :=
 ⟨hg.os.trans h.os, hg.tape.trans h.tape, hg.output.trans h.output, Nat.le_trans h.size hg.size, fun k hk hn => (hg.block k (Nat.lt_of_lt_of_le hk h.size) (fun e => by have := hr k e.symm; omega)).trans (h.block k hk hn)⟩
theorem Drawn.row {bk : Nat} {w w' : World} (h : Drawn bk w w') : w.grownBy w' (some bk) := ⟨h.os, h.tape, h.output, h.size, fun k hk hn => h.block k hk (by rintro rfl; exact hn rfl)⟩
theorem Cur.grown {bk : Nat} {w w' : World} {row : Option Nat} (h : Cur w bk) (hg : w.grownBy w' row) (hr : ∀ k, row = some k → bk < k) : Cur w' bk := by
 obtain ⟨a, len, cap, i, hh, hr8, hn, hi, c0, c1, c2, f1, f2⟩ := h
 have lt := dCell_lt c0
 have hblk : w'.heap[bk]? = w.heap[bk]? := hg.block bk lt (fun e => by have := hr bk e.symm; omega)
 have hcell : ∀ o, w'.cell? ⟨bk, o, none⟩ = w.cell? ⟨bk, o, none⟩ := fun o => World.cell?_of_block (w := w) (w' := w') (a := ⟨bk, o, none⟩) hblk
 have hfr : ∀ o, w'.frozen? ⟨bk, o, none⟩ = w.frozen? ⟨bk, o, none⟩ := fun o => World.frozen?_of_block (w := w) (w' := w') (a := ⟨bk, o, none⟩) hblk
 refine ⟨a, len, cap, i, hh, ⟨hr8.1, ?_⟩, hn, hi, (hcell 0).trans c0, (hcell 1).trans c1, (hcell 2).trans c2, (hfr 1).trans f1, (hfr 2).trans f2⟩
 rcases hr8.2 with h0 | ⟨b, off, rfl, hc⟩
 ·exact .inl h0
 ·rcases Nat.eq_zero_or_pos len with h0 | h0
  ·exact .inl h0
  ·refine .inr ⟨b, off, rfl, fun j hj => ?_⟩
   obtain ⟨v, v1, v2, v3⟩ := hc j hj
   refine ⟨v, v1, v2, hg.cell v3 ?_⟩
   intro e
   have h1 := hr b e.symm
   have h2 := hn b off rfl h0
   omega
theorem bytes_loop_len (b : ByteArray) (i : Nat) (r : List UInt8) : (ByteArray.toList.loop b i r).length = (b.size - i) + r.length := by
 induction h : b.size - i generalizing i r with
 | zero =>
  rw [ByteArray.toList.loop]
  have : ¬ i < b.size := by omega
  simp [this]
 | succ n ih =>
  rw [ByteArray.toList.loop]
  have : i < b.size := by omega
  simp [this]
  rw [ih (i+1) _ (by omega)]
  simp
  omega
theorem bytes_ne (d : ByteArray) (h : d.size ≠ 0) : d.toList.isEmpty = false := by
 have e : d.toList.length = d.size := by rw [ByteArray.toList, bytes_loop_len]; simp
 cases hd : d.toList with
 | nil => rw [hd] at e; simp at e; omega
 | cons a l => rfl
theorem bytes_nil (d : ByteArray) (h : d.size = 0) : d = ⟨#[]⟩ := by
 obtain ⟨a⟩ := d
 have : a.size = 0 := h
 congr 1
 exact Array.eq_empty_of_size_eq_zero this
theorem specEntOk_yes (e : Ent) (h : entP e) (w : World) :
  Calls Tryz.prog 161 #[e.val] w fun r w' => r = .returned (.bool true) ∧ Below w.heap.size w w' := by
 obtain ⟨x, v, h0, d⟩ := e
 obtain ⟨hp, v0, v1, hv, hd, hh⟩ := h
 simp only at hp v0 v1 hv hd hh
 rcases Int.lt_or_le 0 v with hv0 | hv0
 ·have hv' := hv hv0
  cases h0 with
  | false => exact specEntOk_w1 x v d hp hv0 v1 hv' (by omega) w
  | true =>
   obtain rfl := bytes_nil d (hh rfl).2
   exact specEntOk_w2 x v hp hv0 v1 hv' w
 ·obtain rfl : v = 0 := by omega
  cases h0 with
  | false => exact specEntOk_w0f x d hp (by omega) w
  | true => exact absurd (hh rfl).1 (by omega)
theorem specEntOk_no (e : Ent) (hf : e.fits) (h : ¬ entP e) (w : World) :
  Calls Tryz.prog 161 #[e.val] w fun r w' => r = .returned (.bool false) ∧ Below w.heap.size w w' := by
 obtain ⟨x, v, h0, d⟩ := e
 obtain ⟨f1, f2, f3, f4, f5⟩ := hf
 simp only at f1 f2 f3 f4 f5
 unfold entP at h
 simp only at h
 by_cases hp : isPl x
 ·by_cases hr : v < 0 ∨ 30 < v
  ·exact specEntOk_no2 x v h0 d hp hr w
  ·have r0 : 0 ≤ v := by omega
   have r1 : v ≤ 30 := by omega
   by_cases hd : (40 : Int) < (d.size : Int)
   ·rcases Int.lt_or_le 0 v with hv0 | hv0
    ·by_cases hv : v ≤ x / 4294967296
     ·exact specEntOk_no3 x v h0 d hp hv0 r1 hv w
     ·exact specEntOk_no5 x v h0 d hp hv0 r1 (by omega) hd w
    ·obtain rfl : v = 0 := by omega
     exact specEntOk_no4 x h0 d hp hd w
   ·rcases Int.lt_or_le 0 v with hv0 | hv0
    ·by_cases hv : v ≤ x / 4294967296
     ·exact specEntOk_no3 x v h0 d hp hv0 r1 hv w
     ·cases h0 with
      | false => exact absurd ⟨hp, r0, r1, fun _ => by omega, by omega, fun h => by cases h⟩ h
      | true =>
       refine specEntOk_w3 x v d hp hv0 r1 (by omega) (by omega) (bytes_ne d fun h1 => ?_) w
       exact h ⟨hp, r0, r1, fun _ => by omega, by omega, fun _ => ⟨hv0, h1⟩⟩
    ·obtain rfl : v = 0 := by omega
     cases h0 with
     | false => exact absurd ⟨hp, r0, r1, fun h => by omega, by omega, fun h => by cases h⟩ h
     | true => exact specEntOk_w0t x d hp (by omega) w
 ·exact specEntOk_no1 x v h0 d f2 hp w
theorem Below.row {w w' : World} (h : Below w.heap.size w w') (row : Option Nat) : w.grownBy w' row := ⟨h.os, h.tape, h.output, h.size, fun k hk _ => h.block k hk⟩
theorem specEntOk_any (e : Ent) (hf : e.fits) (w : World) : Calls Tryz.prog 161 #[e.val] w fun r w' => RetB (entP e) r ∧ Below w.heap.size w w' := by
 by_cases h : entP e
 ·exact (specEntOk_yes e h w).mono fun r w' ⟨h1, h2⟩ => ⟨h1 ▸ RetB.yes h, h2⟩
 ·exact (specEntOk_no e hf h w).mono fun r w' ⟨h1, h2⟩ => ⟨h1 ▸ RetB.no h, h2⟩
set_option maxHeartbeats 2000000 in
theorem l6List_any (v : Value) (es : List Ent) (n : Nat) (w : World) (hv : Rw 4 Ent.cl w v es) (hf : fitE es) :
  Calls Tryz.prog 159 #[v, .int .i64 (n : Int)] w fun e w' => RetB (listP es n) e ∧ Below w.heap.size w w' := by
 have HV := dH fun W (hb : Below w.heap.size w W) => hv.below hb
 have HF := dH hf
 obtain ⟨h0, a, cap, rfl, -, -⟩ := hv
 clear hf
 by_cases hn : (n : Int) < (es.length : Int)
 ·have hno : Hid (¬ listP es n) := fun h => by have := h.1; omega
  clear HV HF
  go_enter Tryz.func159, Tryz.ntmps159
  go_wp2
  go_ret
  exact ⟨RetB.no (dU hno), Below.refl _ _⟩
 ·go_enter Tryz.func159, Tryz.ntmps159
  go_wp2
  go_loopw [5] (fun x wr => ∃ k : Nat, x = .int .i64 (k : Int) ∧ k ≤ es.length ∧ Hid (∀ i (h : i < es.length), i < k → entP es[i]) ∧ Below w.heap.size w wr) (fun x _ => es.length - (intOf x).toNat)
  case atStart => exact ⟨0, rfl, Nat.zero_le _, (fun i h h' => by omega), Below.refl _ _⟩
  case round =>
   obtain ⟨k, rfl, hk, hinv, hb⟩ := hrel
   by_cases hlt : (k : Int) < (es.length : Int)
   ·have hkl : k < es.length := by omega
    obtain ⟨b, off, rfl, hc⟩ := (dU HV wr hb).ent hkl
    obtain ⟨k0, k1, k2, k3⟩ := hc k hkl
    have CE := dH (specEntOk_any es[k] (dU HF _ (List.getElem_mem hkl)) wr)
    have hst : Hid (entP es[k] → ∀ i (h : i < es.length), i < k + 1 → entP es[i]) := fun he i h h' => by
     rcases Nat.lt_or_ge i k with hlt' | hge
     ·exact dU hinv i h hlt'
     ·obtain rfl : i = k := by omega
      exact he
    have hno : Hid (¬ entP es[k] → ¬ listP es n) := fun he h => he (h.2 _ (List.getElem_mem hkl))
    generalize es[k] = e at *
    obtain ⟨x, wv, ho, d⟩ := e
    unfold Ent.val at CE
    simp only at *
    clear hc hinv
    go_wp2_with fail
    refine (dU CE).mono ?_
    rintro r w1 ⟨⟨bb, rfl, hbb⟩, b1⟩
    have hb1 := bT hb b1
    clear b1 CE k0 k1 k2 k3 hb
    cases bb
    ·have R := dH (dU hno fun h => by have := hbb.2 h; cases this)
     clear hbb
     go_wp2
     go_ret
     exact ⟨RetB.no (dU R), hb1⟩
    ·have R := dH (dU hst (hbb.1 rfl))
     clear hbb
     go_wp2
     go_roundw
     case rel => exact ⟨k + 1, by go_num, by omega, R, hb1⟩
     case measure => simp [intOf]; omega
   ·have hyes : Hid (listP es n) := ⟨by omega, fun e he => by
     obtain ⟨i, hi, rfl⟩ := List.getElem_of_mem he
     exact dU hinv i hi (by omega)⟩
    clear hinv HV HF
    go_wp2
    go_ret
    exact ⟨RetB.yes (dU hyes), hb⟩
set_option maxHeartbeats 2000000 in
theorem l6Asc_any (v : Value) (es : List Ent) (w : World) (hv : Rw 4 Ent.cl w v es) :
  Calls Tryz.prog 160 #[v] w fun e w' => RetB (ascE es) e ∧ Drew w w' := by
 have HV := dH hv
 obtain ⟨h0, a, cap, rfl, -, -⟩ := hv
 go_enter Tryz.func160, Tryz.ntmps160
 go_wp2
 go_loopw [3] (fun x wr => ∃ k : Nat, x = .int .i64 ((k + 1 : Nat) : Int) ∧ (k ≤ es.length) ∧ Hid (∀ i (h : i + 1 < es.length), i < k → es[i].pl < es[i + 1].pl) ∧ Drew w wr) (fun x _ => es.length + 1 - (intOf x).toNat)
 case atStart => exact ⟨0, rfl, Nat.zero_le _, (fun i h h' => by omega), Drew.refl _⟩
 case round =>
  obtain ⟨k, rfl, hk, hinv, hdr⟩ := hrel
  by_cases hlt : ((k + 1 : Nat) : Int) < (es.length : Int)
  ·have hkl : k + 1 < es.length := by omega
   obtain ⟨b, off, rfl, hc⟩ := (dU HV).ent hkl
   have k0 : wr.cell? ⟨b, off + k * 4, none⟩ = some (.int .i64 es[k].pl) := (hdr.cell _).trans (hc k (by omega)).1
   have k1 : wr.cell? ⟨b, off + (k + 1) * 4, none⟩ = some (.int .i64 es[k + 1].pl) := (hdr.cell _).trans (hc (k + 1) hkl).1
   have hst : Hid (es[k].pl < es[k + 1].pl → ∀ i (h : i + 1 < es.length), i < k + 1 → es[i].pl < es[i + 1].pl) := fun he i h h' => by
    rcases Nat.lt_or_ge i k with hlt' | hge
    ·exact dU hinv i h hlt'
    ·obtain rfl : i = k := by omega
     exact he
   have hno : Hid (¬ es[k].pl < es[k + 1].pl → ¬ ascE es) := fun he h => he (h k hkl)
   generalize es[k].pl = x at *
   generalize es[k + 1].pl = y at *
   have t1 : (0 : Int) ≤ (k : Int) := by omega
   have t2 : (k : Int) < (es.length : Int) := by omega
   have t3 : IntKind.i64.wrap (((k + 1 : Nat) : Int) - 1) = (k : Int) := by rw [IntKind.wrap_i64]; omega
   have t4 : IntKind.i64.wrap ((k : Int) + 1 - 1) = (k : Int) := by rw [IntKind.wrap_i64]; omega
   clear hc hinv HV
   by_cases hxy : y ≤ x
   ·have hd : decide (y ≤ x) = true := decide_eq_true hxy
    have R := dH (dU hno (by omega))
    go_wp2
    go_quiet (fail)
    go_wp2
    go_ret
    exact ⟨RetB.no (dU R), hdr.drewN _⟩
   ·have hd : decide (y ≤ x) = false := decide_eq_false hxy
    have R := dH (dU hst (by omega))
    go_wp2
    go_quiet (fail)
    go_wp2
    go_roundw
    case rel => exact ⟨k + 1, by go_num, by omega, R, hdr.drewN _⟩
    case measure => simp [intOf]; omega
  ·have hyes : Hid (ascE es) := fun i h => dU hinv i h (by omega)
   clear hinv HV
   go_wp2
   go_ret
   exact ⟨RetB.yes (dU hyes), hdr⟩
def fitS (s : St) : Prop := fitE s.kept ∧ fitE s.late ∧ -9223372036854775808 ≤ s.lock ∧ s.lock ≤ 9223372036854775807
def Rs (w : World) (v : Value) (s : St) : Prop := ∃ kv lv, v = .agg #[kv, lv, .int .i64 s.lock] ∧ Rw 4 Ent.cl w kv s.kept ∧ Rw 4 Ent.cl w lv s.late
theorem Rs.below {w w' : World} {v : Value} {s : St} (h : Rs w v s) (hb : Below w.heap.size w w') : Rs w' v s := by
 obtain ⟨kv, lv, h1, h2, h3⟩ := h
 exact ⟨kv, lv, h1, h2.below hb, h3.below hb⟩
set_option maxHeartbeats 2000000 in
theorem specStoreOk_any (v : Value) (s : St) (w : World) (hv : Rs w v s) (hf : fitS s) :
  Calls Tryz.prog 106 #[v] w fun e w' => RetB (stP s) e ∧ Below w.heap.size w w' := by
 obtain ⟨kv, lv, rfl, hk, hl⟩ := hv
 obtain ⟨f1, f2, f3, f4⟩ := hf
 have C1 := dH fun W (hb : Below w.heap.size w W) => l6List_any kv s.kept 200 W (hk.below hb) f1
 have C2 := dH fun W (hb : Below w.heap.size w W) => l6List_any lv s.late 20 W (hl.below hb) f2
 have C3 := dH fun W (hb : Below w.heap.size w W) => l6Asc_any kv s.kept W (hk.below hb)
 obtain ⟨-, ka, kc, rfl, -, -⟩ := hk
 obtain ⟨-, la, lc, rfl, -, -⟩ := hl
 have SD : Hid (stP s ↔ listP s.kept 200 ∧ listP s.late 20 ∧ ascE s.kept ∧ 0 ≤ s.lock ∧ s.lock ≤ 30) := Iff.rfl
 generalize stP s = P at *
 generalize s.lock = sl at *
 have X0 := Bx.new w [.slice ka s.kept.length kc, .slice la s.late.length lc, .int .i64 sl] 125
 have B0 : Below w.heap.size w (w.alloc (.cells #[.slice ka s.kept.length kc, .slice la s.late.length lc, .int .i64 sl] 125)) := (Below.refl _ _).alloc (Nat.le_refl _) _
 have HX0 := dH X0
 clear X0
 go_enter Tryz.func106, Tryz.ntmps106
 go_wp2_with fail
 refine (dU C1 _ B0).mono ?_
 rintro e w1 ⟨⟨b1, rfl, h1⟩, bl1⟩
 have B1 := bT B0 bl1
 have HX1 := dH ((dU HX0).below bl1)
 have k0 := dU HX1 0 _ rfl
 have k1 := dU HX1 1 _ rfl
 have k2 := dU HX1 2 _ rfl
 clear B0 bl1 HX0 C1
 cases b1
 ·have R : RetB P (.returned (.bool false)) := RetB.no fun h => by have := h1.2 ((dU SD).1 h).1; cases this
  clear h1
  go_wp2
  go_ret
  exact ⟨R, B1⟩
 have H1 := dH (h1.1 rfl)
 clear h1
 go_wp2_with fail
 refine (dU C2 _ B1).mono ?_
 rintro e w2 ⟨⟨b2, rfl, h2⟩, bl2⟩
 have B2 := bT B1 bl2
 have HX2 := dH ((dU HX1).below bl2)
 clear k0 k1 k2
 have k0 := dU HX2 0 _ rfl
 have k1 := dU HX2 1 _ rfl
 have k2 := dU HX2 2 _ rfl
 clear B1 bl2 HX1 C2
 cases b2
 ·have R : RetB P (.returned (.bool false)) := RetB.no fun h => by have := h2.2 ((dU SD).1 h).2.1; cases this
  clear h2
  go_wp2
  go_ret
  exact ⟨R, B2⟩
 have H2 := dH (h2.1 rfl)
 clear h2
 go_wp2_with fail
 refine (dU C3 _ B2).mono ?_
 rintro e w3 ⟨⟨b3, rfl, h3⟩, dr3⟩
 have B3 := bT B2 dr3.below
 have HX3 := dH ((dU HX2).below dr3.below)
 clear k0 k1 k2
 have k0 := dU HX3 0 _ rfl
 have k1 := dU HX3 1 _ rfl
 have k2 := dU HX3 2 _ rfl
 clear B2 dr3 HX2 C3
 cases b3
 ·have R : RetB P (.returned (.bool false)) := RetB.no fun h => by have := h3.2 ((dU SD).1 h).2.2.1; cases this
  clear h3
  go_wp2
  go_ret
  exact ⟨R, B3⟩
 have H3 := dH (h3.1 rfl)
 clear h3
 by_cases hs : 0 ≤ sl ∧ sl ≤ 30
 ·have C4 := dH fun W => l1In_yes sl 0 30 hs.1 hs.2 W
  have R : RetB P (.returned (.bool true)) := RetB.yes ((dU SD).2 ⟨dU H1, dU H2, dU H3, hs⟩)
  clear hs
  go_wp2_with fail
  refine (dU C4 _).mono ?_
  rintro e w4 ⟨rfl, rfl⟩
  go_wp2
  go_ret
  exact ⟨R, B3⟩
 ·have C4 := dH fun W => l1In_no sl 0 30 (by omega) W
  have R : RetB P (.returned (.bool false)) := RetB.no fun h => hs ((dU SD).1 h).2.2.2
  clear hs
  go_wp2_with fail
  refine (dU C4 _).mono ?_
  rintro e w4 ⟨rfl, rfl⟩
  go_wp2
  go_ret
  exact ⟨R, B3⟩
section
variable {T TS : TypeId} {zs : List Value} {w : World} {ops : Array Oper} {o : Oper} {a : Act} {Q : Exit → Act → World → Prop} {K : Act → World → Prop} {F : Prop}
end
theorem retB_yes {F : Nat} {args : Array Value} {w : World} {p : Prop} (h : Calls Tryz.prog F args w fun e w' => RetB p e ∧ Below w.heap.size w w') (hp : p) : Calls Tryz.prog F args w fun e w' => e = .returned (.bool true) ∧ Below w.heap.size w w' := h.mono fun e w' ⟨h1, h2⟩ => ⟨h1.of_yes hp, h2⟩
theorem retB_no {F : Nat} {args : Array Value} {w : World} {p : Prop} (h : Calls Tryz.prog F args w fun e w' => RetB p e ∧ Below w.heap.size w w') (hp : ¬ p) : Calls Tryz.prog F args w fun e w' => e = .returned (.bool false) ∧ Below w.heap.size w w' := h.mono fun e w' ⟨h1, h2⟩ => ⟨h1.of_no hp, h2⟩
theorem l1In_any (x a b : Int) (W : World) : Calls Tryz.prog 56 #[.int .i64 x, .int .i64 a, .int .i64 b] W fun e w' => RetB (a ≤ x ∧ x ≤ b) e ∧ w' = W := by
 by_cases h : a ≤ x ∧ x ≤ b
 ·exact (l1In_yes x a b h.1 h.2 W).mono fun e w' ⟨h1, h2⟩ => ⟨h1 ▸ RetB.yes h, by first | exact h2 | exact h2.symm⟩
 ·exact (l1In_no x a b (by omega) W).mono fun e w' ⟨h1, h2⟩ => ⟨h1 ▸ RetB.no h, by first | exact h2 | exact h2.symm⟩
end Go.Proofs.YtkiclbbialadlaaGreat
