/- Several texts in one: InP, EntA, EntC, NumP, NumS, GetP, GetS, TextS, PutA, EntB, RetP, ImpCa, TextG, MarkT, IntsP, OpenA, DomA, DomB, DomC, OpenB, InQ, BthP, DrwA, BsT. -/
import Derived.Test.YtodfgehicpejgaaGreatDoorGk185
import Derived.Test.YtodfgehicpejgaaGreatDoorGk179
import Derived.Laws.AppendOwn
import Derived.OwnWalk
import Derived.Lib.ConvBytes
import Derived.Lib.Strings
import Derived.Laws.BytesArg
import Derived.Laws.IdiomStrings
import Derived.Deep.RegionHeld3
import Derived.WalkKit
import Derived.ProofKit
import Derived.OpenShut
import Derived.ShutString
import Derived.Lib.SmallJoins
import Derived.Laws.MakeOwn
namespace Go.Proofs.YtodfgehicpejgaaGreatDoor
open Go.ChangeMaps (open_string shut_string)
open Go.ChangeShapes Go.WideShapes Go.ChangeAt Go.RowKit
set_option linter.unusedSimpArgs false
set_option linter.unusedVariables false
set_option maxRecDepth 100000
theorem l1In_yes (x lo hi : Int) (h1 : lo ≤ x) (h2 : x ≤ hi) (w : World) :
  Calls Tryz.prog 18 #[.int .i64 x, .int .i64 lo, .int .i64 hi] w fun e w' => e = .returned (.bool true) ∧ w' = w := by
 go_enter Tryz.func18, Tryz.ntmps18
 go_wp2
 go_ret
 exact ⟨rfl, rfl⟩
theorem l1In_no (x lo hi : Int) (h : x < lo ∨ hi < x) (w : World) :
  Calls Tryz.prog 18 #[.int .i64 x, .int .i64 lo, .int .i64 hi] w fun e w' => e = .returned (.bool false) ∧ w' = w := by
 by_cases h1 : x < lo
 ·go_enter Tryz.func18, Tryz.ntmps18
  go_wp2
  go_ret
  exact ⟨rfl, rfl⟩
 ·have h2 : decide (x ≤ hi) = false := decide_eq_false (by omega)
  clear h
  go_enter Tryz.func18, Tryz.ntmps18
  go_wp2
  go_ret
  exact ⟨rfl, rfl⟩
structure Ent where
 pl : Int
 wave : Int
 hole : Bool
 data : ByteArray
def Ent.val (e : Ent) : Value := .agg #[.int .i64 e.pl, .int .i64 e.wave, .bool e.hole, .string e.data]
def Ent.fits (e : Ent) : Prop := -9223372036854775808 ≤ e.pl ∧ e.pl ≤ 9223372036854775807 ∧ -9223372036854775808 ≤ e.wave ∧ e.wave ≤ 9223372036854775807 ∧ e.data.size ≤ 9223372036854775807
def entP (e : Ent) : Prop := isPl e.pl ∧ 0 ≤ e.wave ∧ e.wave ≤ 30 ∧ (0 < e.wave → e.pl / 4294967296 < e.wave) ∧ e.data.size ≤ 40 ∧ (e.hole = true → 0 < e.wave ∧ e.data.size = 0)
def better (a b : Ent) : Ent := if a.wave < b.wave then b else a
def numF : Nat → Nat → List UInt8
  | 0, _ => []
  | n + 1, x => if x < 128 then [UInt8.ofNat x] else UInt8.ofNat (x % 128 + 128) :: numF n (x / 128)
def numB (x : Nat) : List UInt8 := numF 9 x
theorem numF_small {n x : Nat} (h : x < 128) : numF (n + 1) x = [UInt8.ofNat x] := by simp [numF, h]
theorem numF_big {n x : Nat} (h : ¬ x < 128) : numF (n + 1) x = UInt8.ofNat (x % 128 + 128) :: numF n (x / 128) := by simp [numF, h]
def NumInv (x m : Nat) (l : List UInt8) : Prop := l ++ numF (9 - l.length) m = numB x ∧ l.length ≤ 8 ∧ m < 128 ^ (9 - l.length)
theorem NumInv.start {x : Nat} (h : x ≤ 9223372036854775807) : NumInv x x [] := ⟨rfl, by simp, by have : 128 ^ (9 - ([] : List UInt8).length) = 9223372036854775808 := by decide
                                                                                                  omega⟩
theorem NumInv.step {x m : Nat} {l : List UInt8} (h : NumInv x m l) (hm : ¬ m < 128) : NumInv x (m / 128) (l ++ [UInt8.ofNat (m % 128 + 128)]) := by
  obtain ⟨h1, h2, h3⟩ := h
  have h8 : l.length ≤ 7 := by
    rcases Nat.lt_or_ge l.length 8 with h | h
    · omega
    · have : 9 - l.length = 1 := by omega
      rw [this] at h3
      omega
  have e : 9 - l.length = (9 - (l.length + 1)) + 1 := by omega
  refine ⟨?_, by simp; omega, ?_⟩
  · rw [← h1, e, numF_big hm]
    simp
  · rw [e, Nat.pow_succ] at h3
    rw [List.length_append, List.length_singleton]
    omega
theorem NumInv.done {x m : Nat} {l : List UInt8} (h : NumInv x m l) (hm : m < 128) : l ++ [UInt8.ofNat m] = numB x := by
  obtain ⟨h1, h2, h3⟩ := h
  have e : 9 - l.length = (8 - l.length) + 1 := by omega
  rw [← h1, e, numF_small hm]
def getF : Nat → Nat → Nat → Nat → List UInt8 → Option (Nat × Nat)
 | 0, _, _, _, _ => none
 | _ + 1, _, _, _, [] => none
 | n + 1, k, u, x, d :: r => if d.toNat < 128 then (if d.toNat = 0 ∧ 0 < k then none else some (x + d.toNat % 128 * u, k + 1)) else getF n (k + 1) (u * 128) (x + d.toNat % 128 * u) r
def getB (l : List UInt8) : Option (Nat × Nat) := getF 9 0 1 0 l
def GetInv (l : List UInt8) (at0 k x : Nat) : Prop := getF (9 - k) k (128 ^ k) x (l.drop (at0 + k)) = getB (l.drop at0) ∧ k ≤ 9 ∧ x < 128 ^ k
theorem GetInv.start (l : List UInt8) (at0 : Nat) : GetInv l at0 0 0 := ⟨rfl, by omega, by simp⟩
theorem pow_step (k x d : Nat) (h : x < 128 ^ k) : x + d % 128 * 128 ^ k < 128 ^ (k + 1) := by
 have h1 : d % 128 * 128 ^ k ≤ 127 * 128 ^ k := Nat.mul_le_mul_right _ (by omega)
 rw [Nat.pow_succ]
 omega
theorem GetInv.more {l : List UInt8} {at0 k x : Nat} (h : GetInv l at0 k x) (hk : k < 9) (hl : at0 + k < l.length) (hd : ¬ l[at0 + k].toNat < 128) : GetInv l at0 (k + 1) (x + l[at0 + k].toNat % 128 * 128 ^ k) := by
 obtain ⟨h1, h2, h3⟩ := h
 refine ⟨?_, by omega, pow_step k x _ h3⟩
 rw [← h1, show 9 - k = (9 - (k + 1)) + 1 by omega, List.drop_eq_getElem_cons hl]
 simp only [getF, hd, if_false]
 rw [← Nat.pow_succ, Nat.add_assoc]
theorem GetInv.stop {l : List UInt8} {at0 k x : Nat} (h : GetInv l at0 k x) (hk : k < 9) (hl : at0 + k < l.length) (hd : l[at0 + k].toNat < 128) :
  getB (l.drop at0) = if l[at0 + k].toNat = 0 ∧ 0 < k then none else some (x + l[at0 + k].toNat % 128 * 128 ^ k, k + 1) := by
 obtain ⟨h1, h2, h3⟩ := h
 rw [← h1, show 9 - k = (9 - (k + 1)) + 1 by omega, List.drop_eq_getElem_cons hl]
 simp only [getF, hd, if_true]
theorem GetInv.none {l : List UInt8} {at0 k x : Nat} (h : GetInv l at0 k x) (hk : 9 ≤ k ∨ l.length ≤ at0 + k) : getB (l.drop at0) = Option.none := by
 obtain ⟨h1, h2, h3⟩ := h
 rw [← h1]
 rcases hk with hk | hk
 ·rw [show 9 - k = 0 by omega]; rfl
 ·rw [List.drop_eq_nil_of_le hk]
  cases 9 - k <;> rfl
theorem bytes_loop_len (b : ByteArray) (i : Nat) (r : List UInt8) : (ByteArray.toList.loop b i r).length = (b.size - i) + r.length := by
 induction h : b.size - i generalizing i r with
 | zero =>
  rw [ByteArray.toList.loop]
  have : ¬ i < b.size := by omega
  simp [this]
 | succ n ih =>
  rw [ByteArray.toList.loop]
  have : i < b.size := by omega
  simp [this]
  rw [ih (i+1) _ (by omega)]
  simp
  omega
theorem bytes_ne (d : ByteArray) (h : d.size ≠ 0) : d.toList.isEmpty = false := by
 have e : d.toList.length = d.size := by rw [ByteArray.toList, bytes_loop_len]; simp
 cases hd : d.toList with
 | nil => rw [hd] at e; simp at e; omega
 | cons a l => rfl
theorem bytes_nil (d : ByteArray) (h : d.size = 0) : d = ⟨#[]⟩ := by
 obtain ⟨a⟩ := d
 have : a.size = 0 := h
 congr 1
 exact Array.eq_empty_of_size_eq_zero this
theorem Below.row {w w' : World} (h : Below w.heap.size w w') (row : Option Nat) : w.grownBy w' row := ⟨h.os, h.tape, h.output, h.size, fun k hk _ => h.block k hk⟩
def RetB (p : Prop) (e : Ending) : Prop := ∃ b : Bool, e = .returned (.bool b) ∧ (b = true ↔ p)
theorem RetB.yes {p : Prop} (h : p) : RetB p (.returned (.bool true)) := ⟨true, rfl, fun _ => h, fun _ => rfl⟩
theorem RetB.no {p : Prop} (h : ¬ p) : RetB p (.returned (.bool false)) := ⟨false, rfl, (fun h => by cases h), fun h' => absurd h' h⟩
def Drew (w w' : World) : Prop := ∃ n, w' = w.drewN n
theorem Drew.refl (w : World) : Drew w w := ⟨0, rfl⟩
theorem Drew.drewN {w w' : World} (h : Drew w w') (n : Nat) : Drew w (w'.drewN n) := by
 obtain ⟨m, rfl⟩ := h
 exact ⟨_, World.drewN_drewN _ _ _⟩
theorem Drew.cell {w w' : World} (h : Drew w w') (a : Addr) : w'.cell? a = w.cell? a := by
 obtain ⟨m, rfl⟩ := h
 simp
theorem Drew.below {w w' : World} (h : Drew w w') : Below w.heap.size w w' := by
 obtain ⟨m, rfl⟩ := h
 exact below_drewN (Below.refl _ _) _
theorem RetB.of_yes {p : Prop} {e : Ending} (h : RetB p e) (hp : p) : e = .returned (.bool true) := by
 obtain ⟨b, rfl, hb⟩ := h
 rw [hb.2 hp]
theorem RetB.of_no {p : Prop} {e : Ending} (h : RetB p e) (hp : ¬ p) : e = .returned (.bool false) := by
 obtain ⟨b, rfl, hb⟩ := h
 cases b
 ·rfl
 ·exact absurd (hb.1 rfl) hp
set_option maxHeartbeats 1000000 in
theorem waveOk_zero (x : Int) (h : Bool) (d : ByteArray) (w : World) :
  Calls Tryz.prog 283 #[.agg #[.int .i64 x, .int .i64 0, .bool h, .string d]] w fun e w' => e = .returned (.bool true) ∧ Below w.heap.size w w' := by
 go_enter Tryz.func283, Tryz.ntmps283
 go_wp2
 go_quiet (fail)
 go_wp2
 go_ret
 exact ⟨rfl, below_drewN ((Below.refl _ _).alloc (Nat.le_refl _) _) _⟩
set_option maxHeartbeats 1000000 in
theorem waveOk_above (x v : Int) (h : Bool) (d : ByteArray) (hp : isPl x) (v0 : v ≠ 0) (hv : x / 4294967296 < v) (w : World) :
  Calls Tryz.prog 283 #[.agg #[.int .i64 x, .int .i64 v, .bool h, .string d]] w fun e w' => e = .returned (.bool (decide (v ≤ 30))) ∧ Below w.heap.size w w' := by
 have C := dH (implEpoch_yes x hp)
 have hv0 : (v == 0) = false := beq_eq_false_iff_ne.2 v0
 clear hp v0
 go_enter Tryz.func283, Tryz.ntmps283
 go_wp2
 have F0 := Four.new w (.int .i64 x) (.int .i64 v) (.bool h) (.string d) 156
 have hw0 : Below w.heap.size w (w.alloc (.cells #[.int .i64 x, .int .i64 v, .bool h, .string d] 156)) := (Below.refl _ _).alloc (Nat.le_refl _) _
 generalize w.alloc (Obj.cells #[.int .i64 x, .int .i64 v, .bool h, .string d] 156) = w0 at *
 have HF := dH F0
 obtain ⟨c0, c1, c2, c3⟩ := F0
 go_region_held3 (fun W => W.cell? ⟨w.heap.size, 0, none⟩ = some (.int .i64 x) ∧ W.cell? ⟨w.heap.size, 1, none⟩ = some (.int .i64 v)) (go_keep)
  (first
   | (go_at_call 161; refine (dU C _).mono ?_; rintro e w1 ⟨rfl, b1⟩; obtain ⟨k0, k1, k2, k3⟩ := (dU HF).kept (bT (Below.refl _ _).drew b1); have hb1 := bT hw0 (bT (Below.refl _ _).drew b1)))
 go_wp2
 go_ret
 exact ⟨rfl, hb1⟩
set_option maxHeartbeats 1000000 in
theorem dataOk_data (x v : Int) (d : ByteArray) (w : World) :
  Calls Tryz.prog 284 #[.agg #[.int .i64 x, .int .i64 v, .bool false, .string d]] w fun e w' => e = .returned (.bool (decide ((d.size : Int) ≤ 40))) ∧ Below w.heap.size w w' := by
 go_enter Tryz.func284, Tryz.ntmps284
 go_wp2
 go_ret
 exact ⟨rfl, (Below.refl _ _).alloc (Nat.le_refl _) _⟩
set_option maxHeartbeats 1000000 in
theorem dataOk_hole0 (x v : Int) (d : ByteArray) (hv : ¬ 0 < v) (w : World) :
  Calls Tryz.prog 284 #[.agg #[.int .i64 x, .int .i64 v, .bool true, .string d]] w fun e w' => e = .returned (.bool false) ∧ Below w.heap.size w w' := by
 go_enter Tryz.func284, Tryz.ntmps284
 go_wp2
 go_ret
 exact ⟨rfl, (Below.refl _ _).alloc (Nat.le_refl _) _⟩
set_option maxHeartbeats 1000000 in
theorem dataOk_hole1 (x v : Int) (hv : 0 < v) (w : World) :
  Calls Tryz.prog 284 #[.agg #[.int .i64 x, .int .i64 v, .bool true, .string ⟨#[]⟩]] w fun e w' => e = .returned (.bool true) ∧ Below w.heap.size w w' := by
 go_enter Tryz.func284, Tryz.ntmps284
 go_wp2
 go_ret
 exact ⟨rfl, (Below.refl _ _).alloc (Nat.le_refl _) _⟩
set_option maxHeartbeats 1000000 in
theorem dataOk_hole2 (x v : Int) (d : ByteArray) (hv : 0 < v) (he : d.toList.isEmpty = false) (w : World) :
  Calls Tryz.prog 284 #[.agg #[.int .i64 x, .int .i64 v, .bool true, .string d]] w fun e w' => e = .returned (.bool false) ∧ Below w.heap.size w w' := by
 go_enter Tryz.func284, Tryz.ntmps284
 go_wp2
 go_ret
 exact ⟨rfl, (Below.refl _ _).alloc (Nat.le_refl _) _⟩
def gtextB (l : List UInt8) (at0 : Nat) : Option (List UInt8 × Nat) := match getB (l.drop at0) with
 | none => none
 | some (n, k) => if n + (at0 + k) ≤ l.length then some ((l.drop (at0 + k)).take n, at0 + k + n) else none
def dig1 (k : Nat) : ByteArray := ⟨#[UInt8.ofNat (48 + k % 10)]⟩
def digs (k : Nat) (out : ByteArray) : ByteArray := if h : k = 0 then out else digs (k / 10) (dig1 k ++ out)
termination_by k
decreasing_by omega
def markT (k : Nat) : ByteArray := (⟨#[109]⟩ : ByteArray) ++ digs k ⟨#[]⟩
def Ns (w : World) (v : Value) (bs : List Int) : Prop :=
 bs.length ≤ 9223372036854775807 ∧ ∃ a cap, v = .slice a bs.length cap ∧ (bs.length ≤ cap ∧ cap ≤ 9223372036854775807) ∧ (bs = [] ∨ ∃ b off, a = some ⟨b, off, none⟩ ∧ ∀ i (h : i < bs.length), w.cell? ⟨b, off + i, none⟩ = some (.int .i64 bs[i]))
def OwnN (w : World) (base : Nat) (v : Value) (bs : List Int) : Prop :=
 bs.length ≤ 9223372036854775807 ∧ ∃ a cap, v = .slice a bs.length cap ∧ (bs.length ≤ cap ∧ cap ≤ 9223372036854775807) ∧ (bs = [] ∨ ∃ b off, a = some ⟨b, off, none⟩ ∧ base ≤ b ∧ ∀ i (h : i < bs.length), w.cell? ⟨b, off + i, none⟩ = some (.int .i64 bs[i]) ∧ w.frozen? ⟨b, off + i, none⟩ = false)
theorem orN_of_lt {bs : List Int} {P : Prop} {k : Nat} (h : bs = [] ∨ P) (hk : k < bs.length) : P := by
 rcases h with rfl | h
 ·simp at hk
 ·exact h
theorem OwnN.bs {w : World} {base : Nat} {v : Value} {bs : List Int} (h : OwnN w base v bs) : Ns w v bs := by
 obtain ⟨h0, a, cap, rfl, hcap, h⟩ := h
 refine ⟨h0, a, cap, rfl, hcap, ?_⟩
 rcases h with h | ⟨b, off, rfl, -, hc⟩
 ·exact .inl h
 ·exact .inr ⟨b, off, rfl, fun i hi => (hc i hi).1⟩
theorem Ns.below {w w' : World} {v : Value} {bs : List Int} (h : Ns w v bs) (hb : Below w.heap.size w w') : Ns w' v bs := by
 obtain ⟨h0, a, cap, rfl, hcap, h⟩ := h
 refine ⟨h0, a, cap, rfl, hcap, ?_⟩
 rcases h with h | ⟨b, off, rfl, hc⟩
 ·exact .inl h
 ·exact .inr ⟨b, off, rfl, fun i hi => (hb.cell (p := ⟨b, off + i, none⟩) (dCell_lt (hc i hi))).trans (hc i hi)⟩
theorem OwnN.below {w w' : World} {base : Nat} {v : Value} {bs : List Int} (h : OwnN w base v bs) (hb : Below w.heap.size w w') : OwnN w' base v bs := by
 obtain ⟨h0, a, cap, rfl, hcap, h⟩ := h
 refine ⟨h0, a, cap, rfl, hcap, ?_⟩
 rcases h with h | ⟨b, off, rfl, hbb, hc⟩
 ·exact .inl h
 ·exact .inr ⟨b, off, rfl, hbb, fun i hi => ⟨(hb.cell (p := ⟨b, off + i, none⟩) (dCell_lt (hc i hi).1)).trans (hc i hi).1, (hb.frozen (p := ⟨b, off + i, none⟩) (dCell_lt (hc i hi).1)).trans (hc i hi).2⟩⟩
theorem OwnN.mono {w : World} {base base' : Nat} {v : Value} {bs : List Int} (h : OwnN w base v bs) (hb : base' ≤ base) : OwnN w base' v bs := by
 obtain ⟨h0, a, cap, rfl, hcap, h⟩ := h
 refine ⟨h0, a, cap, rfl, hcap, ?_⟩
 rcases h with h | ⟨b, off, rfl, hbb, hc⟩
 ·exact .inl h
 ·exact .inr ⟨b, off, rfl, by omega, hc⟩
theorem Ns.drawn {bk : Nat} {w w' : World} {v : Value} {bs : List Int} (h : Ns w v bs) (hd : Drawn bk w w') (hne : bs = [] ∨ bO v ≠ bk) : Ns w' v bs := by
 obtain ⟨h0, a, cap, rfl, hcap, h⟩ := h
 refine ⟨h0, a, cap, rfl, hcap, ?_⟩
 rcases h with h | ⟨b, off, rfl, hc⟩
 ·exact .inl h
 ·rcases hne with h | hne
  ·exact .inl h
  ·exact .inr ⟨b, off, rfl, fun i hi => hd.cell (hc i hi) hne⟩
def ncells (bs : List Int) : List Value := bs.map fun c => Value.int .i64 c
theorem ownN_of_row {w : World} {base : Nat} {v : Value} {n : Nat} {bs : List Int} (h : w.ownsRow base 3 1 v n (ncells bs)) : OwnN w base v bs := by
 have hl : bs.length = n := by have := h.1; simpa [ncells] using this
 subst hl
 rcases h.2 with ⟨rfl, hn⟩ | ⟨g, cap, cur, rfl, hb, hg, hnc, hcm, hsz, ht⟩
 ·have : bs = [] := List.length_eq_zero_iff.1 hn
  subst this
  exact ⟨by simp, none, 0, rfl, by simp, .inl rfl⟩
 ·have hm : maxLen = 9223372036854775807 := rfl
  refine ⟨by omega, some ⟨g, 0, none⟩, cap, rfl, by omega, .inr ⟨g, 0, rfl, hb, fun i hi => ?_⟩⟩
  have hcur : cur.toList[i]? = some (Value.int .i64 bs[i]) := by
   have e : (cur.toList.take (bs.length * 1))[i]? = (ncells bs)[i]? := by rw [ht]
   rw [List.getElem?_take] at e
   rw [if_pos (by omega)] at e
   rw [e]
   simp [ncells, hi]
  refine ⟨?_, ?_⟩
  ·simp only [World.cell?, hg]
   simpa using hcur
  ·simp [World.frozen?, hg]
theorem OwnN.far {w : World} {base : Nat} {v : Value} {xs : List Int} (h : OwnN w base v xs) {b o : Nat} (hb : b < base) (u : Value) : OwnN (w.setCell ⟨b, o, none⟩ u) base v xs := by
 obtain ⟨h0, a, cap, rfl, hcap, h⟩ := h
 refine ⟨h0, a, cap, rfl, hcap, ?_⟩
 rcases h with h | ⟨g, off, rfl, hg, hc⟩
 ·exact .inl h
 ·exact .inr ⟨g, off, rfl, hg, fun i hi => ⟨sO (hc i hi).1 (.inl (by omega)), (World.frozen?_setCell _ _ _ _).trans (hc i hi).2⟩⟩
variable {H : Type} {enc : TypeId × Value → H} {W : World} {r : Reach} {b0 base : Nat} {sp : Nat → Bool} {held : Bool} {v : Value} {d : DataW H} {p : List MemPlace}
theorem open_Bytes (hv : Value.okWide Tryz.prog W r b0 22 v) (h : DataW.Trod enc Tryz.prog W base (fun _ => true) held 22 v d p) : ∃ bs : List UInt8, Bs W v bs := by
 obtain ⟨a0, len0, cap0, rfl⟩ := okWide_slice Tryz.underlying22 hv
 obtain ⟨z0, w0⟩ : ∃ zs, IsRow .u8 W a0 len0 cap0 zs := by
  obtain ⟨fuel, hf⟩ := h
  rcases open_ints Tryz.underlying22 Tryz.underlying5 (by kernel_rfl) hf with ⟨hcs, _⟩ | ⟨x, l, c, zs, hcs, _, hl, hm, hz, _, hcell, hwz⟩
  ·simp [Value.cells] at hcs
   obtain ⟨rfl, rfl, rfl⟩ := hcs
   exact ⟨[], .inl ⟨rfl, rfl, rfl, rfl⟩⟩
  ·simp [Value.cells] at hcs
   obtain ⟨rfl, rfl, rfl⟩ := hcs
   exact ⟨zs, .inr ⟨_, rfl, hl, hm, by simpa using hz, hcell, hwz⟩⟩
 obtain ⟨bs, -, h⟩ := bs_of_row w0
 exact ⟨bs, h⟩
def ascP (xs : List Int) (lo hi : Int) : Prop := ∀ i (h : i < xs.length), lo ≤ xs[i] ∧ xs[i] ≤ hi ∧ ∀ (h' : 0 < i), xs[i - 1]'(by omega) < xs[i]
def cfgP (ds : List Int) (cop : Int) : Prop := (1 ≤ ds.length ∧ ds.length ≤ 8) ∧ (1 ≤ cop ∧ cop ≤ 4) ∧ ∀ i (h : i < ds.length), 0 ≤ ds[i] ∧ ds[i] ≤ 7
set_option maxHeartbeats 2000000 in
theorem specCfg_any (sv : Value) (ds : List Int) (cop : Int) (w : World) (hv : Ns w sv ds) :
  Calls Tryz.prog 7 #[.agg #[sv, .int .i64 cop]] w fun e w' => RetB (cfgP ds cop) e ∧ Below w.heap.size w w' := by
 obtain ⟨h0, a, cap, rfl, -, hv⟩ := hv
 have HV := dH hv
 clear hv
 have hb0 : ∀ o, Below w.heap.size w (w.alloc o) := fun o => (Below.refl _ _).alloc (Nat.le_refl _) o
 by_cases h1 : 1 ≤ ds.length ∧ ds.length ≤ 8
 ·have CL := dH fun W => l1In_yes (ds.length : Int) 1 8 (by omega) (by omega) W
  by_cases h2 : 1 ≤ cop ∧ cop ≤ 4
  ·have CC := dH fun W => l1In_yes cop 1 4 (by omega) (by omega) W
   have hl := h1.2
   go_enter Tryz.func7, Tryz.ntmps7
   go_wp2_with (first | (go_at_call_of 18 cop; refine (dU CC _).mono ?_; rintro e w' ⟨rfl, rfl⟩) | (go_at_call 18; refine (dU CL _).mono ?_; rintro e w' ⟨rfl, rfl⟩))
   go_loopw [3] (fun x wr => ∃ k : Nat, x = .int .i64 (k : Int) ∧ k ≤ ds.length ∧ Hid (∀ i (h : i < ds.length), i < k → 0 ≤ ds[i] ∧ ds[i] ≤ 7) ∧ wr.cell? ⟨w.heap.size, 0, none⟩ = some (.slice a ds.length cap) ∧ Below w.heap.size w wr) (fun x _ => ds.length - (intOf x).toNat)
   case atStart => exact ⟨0, rfl, Nat.zero_le _, fun i h h' => by omega, by simp, hb0 _⟩
   case round =>
    obtain ⟨k, rfl, hk, hinv, hbx, hb⟩ := hrel
    by_cases hlt : (k : Int) < (ds.length : Int)
    ·obtain ⟨b, off, rfl, hc⟩ : ∃ b off, a = some ⟨b, off, none⟩ ∧ ∀ i (h : i < ds.length), w.cell? ⟨b, off + i, none⟩ = some (.int .i64 ds[i]) := orN_of_lt (dU HV) (k := k) (by omega)
     have hkl : k < ds.length := by omega
     have c1 : wr.cell? ⟨b, off + k, none⟩ = some (.int .i64 ds[k]) := (hb.cell (p := ⟨b, off + k, none⟩) (dCell_lt (hc k hkl))).trans (hc k hkl)
     obtain ⟨x, hx⟩ : ∃ x, ds[k] = x := ⟨_, rfl⟩
     have HX := dH hx
     rw [hx] at c1
     clear hx hc
     by_cases hin : x < 0 ∨ 7 < x
     ·have CI := dH fun W => l1In_no x 0 7 hin W
      have hno : Hid (¬ cfgP ds cop) := fun h => by
       have := h.2.2 k hkl
       rw [dU HX] at this
       omega
      clear hin hinv HX HV
      go_wp2_with (go_at_call 18; refine (dU CI _).mono ?_; rintro e w' ⟨rfl, rfl⟩)
      go_ret
      exact ⟨RetB.no (dU hno), hb⟩
     ·have CI := dH fun W => l1In_yes x 0 7 (by omega) (by omega) W
      have hst : Hid (∀ i (h : i < ds.length), i < k + 1 → 0 ≤ ds[i] ∧ ds[i] ≤ 7) := fun i h h' => by
       rcases Nat.lt_or_ge i k with hlt' | hge
       ·exact dU hinv i h hlt'
       ·obtain rfl : i = k := by omega
        rw [dU HX]
        omega
      clear hin hinv HX HV
      go_wp2_with (go_at_call 18; refine (dU CI _).mono ?_; rintro e w' ⟨rfl, rfl⟩)
      go_roundw
      case rel => exact ⟨k + 1, by go_num, by omega, hst, hbx, hb⟩
      case measure => simp [intOf]; omega
    ·have hyes : Hid (cfgP ds cop) := ⟨h1, h2, fun i h => dU hinv i h (by omega)⟩
     clear hinv HV
     go_wp2
     go_ret
     exact ⟨RetB.yes (dU hyes), hb⟩
  ·have CC := dH fun W => l1In_no cop 1 4 (by omega) W
   have hno : Hid (¬ cfgP ds cop) := fun h => h2 h.2.1
   clear h2 HV
   go_enter Tryz.func7, Tryz.ntmps7
   go_wp2_with (first | (go_at_call_of 18 cop; refine (dU CC _).mono ?_; rintro e w' ⟨rfl, rfl⟩) | (go_at_call 18; refine (dU CL _).mono ?_; rintro e w' ⟨rfl, rfl⟩))
   go_ret
   exact ⟨RetB.no (dU hno), hb0 _⟩
 ·have CL := dH fun W => l1In_no (ds.length : Int) 1 8 (by omega) W
  have hno : Hid (¬ cfgP ds cop) := fun h => h1 h.1
  clear h1 HV
  go_enter Tryz.func7, Tryz.ntmps7
  go_wp2_with (go_at_call 18; refine (dU CL _).mono ?_; rintro e w' ⟨rfl, rfl⟩)
  go_ret
  exact ⟨RetB.no (dU hno), hb0 _⟩
def nodesP (ds : List Int) (cop : Int) (xs : List Int) : Prop := cfgP ds cop ∧ ascP xs 0 ((ds.length : Int) - 1)
theorem infoI : (Tryz.prog.info? 3).map (fun i => (i.zero, i.size, i.bytes)) = some (some (.int .i64 0), 1, 8) := by kernel_rfl
theorem ncells_one (l : List Int) : ∀ u ∈ ncells l, u.oneCell' = true := by
 intro u hu
 simp only [ncells, List.mem_map] at hu
 obtain ⟨c, -, rfl⟩ := hu
 rfl
theorem one_int (w : World) (c : Int) (T : TypeId) : ∀ j u, (ncells [c])[j]? = some u → (w.alloc (.cells #[.int .i64 c] T)).cell? ((⟨w.heap.size, 0, none⟩ : Addr).add j) = some u := by
 intro j u hj
 match j, hj with
 | 0, hj => simp [ncells] at hj; subst hj; simp [Addr.add]
variable {H : Type} {enc : TypeId × Value → H} {W : World} {r : Reach} {b0 base : Nat} {sp : Nat → Bool} {held : Bool} {v : Value} {d : DataW H} {p : List MemPlace}
def allInt (xs : List Int) : Prop := ∀ x ∈ xs, -9223372036854775808 ≤ x ∧ x ≤ 9223372036854775807
theorem Bs.row8 {w : World} {a : Option Addr} {n cap : Nat} {bs : List UInt8} (h : Bs w (.slice a n cap) bs) : Row8 w a n := by
 obtain ⟨h0, a', cap', e, -, h⟩ := h
 cases e
 refine ⟨h0, ?_⟩
 rcases h with h | ⟨b, off, rfl, hc⟩
 ·exact .inl (by rw [h]; rfl)
 ·exact .inr ⟨b, off, rfl, fun i hi => ⟨_, by omega, by have := bs[i].toNat_lt; omega, hc i hi⟩⟩
end Go.Proofs.YtodfgehicpejgaaGreatDoor
