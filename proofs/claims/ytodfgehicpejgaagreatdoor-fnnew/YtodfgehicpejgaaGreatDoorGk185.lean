/- Several texts in one: DrawA, PlaceA, PlaceB, PlaceC. -/
import Derived.Test.YtodfgehicpejgaaGreatDoorRows
import Derived.Handy
import Derived.Outline
import Derived.Deep.RegionWith
import Derived.Deep.QuietTactic
import Derived.BigQuiet
import Derived.WalkSmall
import Derived.Laws.Bits128
import Derived.Deep.RegionHeld3
namespace Go.Proofs.YtodfgehicpejgaaGreatDoor
open Go.ChangeShapes Go.WideShapes Go.ChangeAt Go.RowKit
set_option linter.unusedVariables false
theorem sA {α : Type} (l : List α) (i : Nat) (a : α) : l.toArray.setIfInBounds i a = (l.set i a).toArray := by simp
theorem sB {α : Type} (x : α) (l : List α) (a : α) : (x :: l).set 0 a = a :: l := rfl
theorem sC {α : Type} (x : α) (l : List α) (n : Nat) (a : α) : (x :: l).set (n + 1) a = x :: l.set n a := rfl
section
variable {P : Program} {md : Region.Mode} {l : List Oper} {Q : Exit → Act → World → Prop} {S : World → Prop} {fuel : Nat} {listed : Array Bool} {a : Act} {w : World}
def tkC (md : Region.Mode) (l : List Oper) (listed : Array Bool) (i : Nat) : Bool := Region.noSelect l.toArray && (Region.free md l.toArray listed i && (Region.ready md l.toArray listed).contains i)
theorem tkA {i : Nat} (h : tkC md l listed i = true) : Region.noSelect l.toArray = true ∧ Region.free md l.toArray listed i = true ∧ (Region.ready md l.toArray listed).contains i = true := by
 unfold tkC at h
 simp only [Bool.and_eq_true] at h
 exact h
theorem tY (i : Nat) {oi : Oper} {v : Value} (hi : l[i]? = some oi) (hk : tkC md l listed i = true) (hy : YieldsIf P l.toArray S oi v a) (hS : S w)
  (h : wpAnyH P md l.toArray (NoPanic Q) S fuel (listed.setIfInBounds i true) (a.put oi.dst v) w) : wpAnyH P md l.toArray (NoPanic Q) S (fuel + 1) listed a w :=
 wpAnyH_take (by simpa using hi) (tkA hk).1 (tkA hk).2.1 (tkA hk).2.2 (fun _ _ _ h => h) hy hS h
theorem rC {i : Nat} {o : Oper} {rs : List Nat} (ho : l[i]? = some o)
  (h : ∀ K' : Act → World → Prop, Shut (∀ a w, S w → (S w → wpAnyH P md l.toArray Q S fuel (listed.setIfInBounds i true) a w) → K' a w) → if Region.wanted o (yielded l.toArray a.tmps) = true then Oper.wp P o a w K' Q else K' (a.put o.dst undef) w)
  (hs : AllReadyH P md l.toArray Q S fuel listed a w rs) : AllReadyH P md l.toArray Q S fuel listed a w (i :: rs) := AllReadyH.cons (by simpa using ho) h hs
end
theorem dH {p : Prop} (h : p) : Hid p := h
theorem dU {p : Prop} (h : Hid p) : p := h
theorem dCell_lt {w : World} {b o : Nat} {v : Value} (h : w.cell? ⟨b, o, none⟩ = some v) : b < w.heap.size := by
 rcases Nat.lt_or_ge b w.heap.size with h1 | h1
 ·exact h1
 ·have : w.heap[b]? = none := by simp [h1]
  simp [World.cell?, this] at h
def Row8 (w : World) (a : Option Addr) (len : Nat) : Prop :=
 len ≤ 9223372036854775807 ∧ (len = 0 ∨ ∃ b off, a = some ⟨b, off, none⟩ ∧ ∀ i : Nat, i < len → ∃ v : Int, 0 ≤ v ∧ v ≤ 255 ∧ w.cell? ⟨b, off + i, none⟩ = some (.int .u8 v))
def Cur (w : World) (bk : Nat) : Prop :=
 ∃ (a : Option Addr) (len cap i : Nat) (h : Int), Row8 w a len ∧ (∀ b off, a = some ⟨b, off, none⟩ → 0 < len → b < bk) ∧ i ≤ len ∧
  w.cell? ⟨bk, 0, none⟩ = some (.slice a len cap) ∧ w.cell? ⟨bk, 1, none⟩ = some (.int .i64 i) ∧ w.cell? ⟨bk, 2, none⟩ = some (.int .i64 h) ∧
  w.frozen? ⟨bk, 1, none⟩ = false ∧ w.frozen? ⟨bk, 2, none⟩ = false
structure Drawn (bk : Nat) (w w' : World) : Prop where
 os : w'.os = w.os
 tape : w'.tape = w.tape
 output : w'.output = w.output
 size : w.heap.size ≤ w'.heap.size
 block : ∀ k, k < w.heap.size → k ≠ bk → w'.heap[k]? = w.heap[k]?
theorem Drawn.refl (bk : Nat) (w : World) : Drawn bk w w := ⟨rfl, rfl, rfl, Nat.le_refl _, fun _ _ _ => rfl⟩
theorem Drawn.trans {bk : Nat} {a b c : World} (h : Drawn bk a b) (k : Drawn bk b c) : Drawn bk a c :=
 ⟨k.os.trans h.os, k.tape.trans h.tape, k.output.trans h.output, Nat.le_trans h.size k.size, fun j hj hn => (k.block j (Nat.lt_of_lt_of_le hj h.size) hn).trans (h.block j hj hn)⟩
theorem Drawn.of_below {bk : Nat} {w w' : World} (h : Below w.heap.size w w') : Drawn bk w w' := ⟨h.os, h.tape, h.output, h.size, fun k hk _ => h.block k hk⟩
theorem Drawn.drew {bk : Nat} {a w : World} (h : Drawn bk a w) : Drawn bk a w.drew := ⟨h.os, h.tape, h.output, h.size, h.block⟩
theorem Drawn.drewN {bk : Nat} {a w : World} (h : Drawn bk a w) (n : Nat) : Drawn bk a (w.drewN n) :=
 h.trans (Drawn.of_below (below_drewN (Below.refl _ _) n))
theorem Drawn.setCell {bk : Nat} {a w : World} (h : Drawn bk a w) (o : Nat) (u : Value) : Drawn bk a (w.setCell ⟨bk, o, none⟩ u) := by
 refine h.trans ⟨rfl, rfl, rfl, by simp, fun k hk hn => Below.heap_setCell w ⟨bk, o, none⟩ u k hn⟩
theorem Drawn.below {bk B : Nat} {w0 w w' : World} (h : Drawn bk w w') (hb : Below B w0 w) (hB : B ≤ w.heap.size) (hk : B ≤ bk) : Below B w0 w' :=
 ⟨h.os.trans hb.os, h.tape.trans hb.tape, h.output.trans hb.output, Nat.le_trans hb.size h.size, fun k hk' => (h.block k (by omega) (by omega)).trans (hb.block k hk')⟩
theorem Drawn.cell {bk : Nat} {w w' : World} (h : Drawn bk w w') {b o : Nat} {v : Value} (hc : w.cell? ⟨b, o, none⟩ = some v) (hb : b ≠ bk) : w'.cell? ⟨b, o, none⟩ = some v :=
 (World.cell?_of_block (w := w) (w' := w') (a := ⟨b, o, none⟩) (h.block b (dCell_lt hc) hb)).trans hc
theorem Drawn.frozen {bk : Nat} {w w' : World} (h : Drawn bk w w') {b o : Nat} (hb : b ≠ bk) (hl : b < w.heap.size) : w'.frozen? ⟨b, o, none⟩ = w.frozen? ⟨b, o, none⟩ :=
 World.frozen?_of_block (w := w) (w' := w') (a := ⟨b, o, none⟩) (h.block b hl hb)
theorem Row8.drawn {bk : Nat} {w w' : World} {a : Option Addr} {len : Nat} (h : Row8 w a len) (hd : Drawn bk w w') (hn : ∀ b off, a = some ⟨b, off, none⟩ → 0 < len → b ≠ bk) : Row8 w' a len := by
 refine ⟨h.1, ?_⟩
 rcases h.2 with h0 | ⟨b, off, rfl, hc⟩
 ·exact .inl h0
 ·rcases Nat.eq_zero_or_pos len with h0 | h0
  ·exact .inl h0
  ·refine .inr ⟨b, off, rfl, fun i hi => ?_⟩
   obtain ⟨v, h1, h2, h3⟩ := hc i hi
   exact ⟨v, h1, h2, hd.cell h3 (hn b off rfl h0)⟩
theorem Cur.below {bk : Nat} {w w' : World} (h : Cur w bk) (hb : Below w.heap.size w w') : Cur w' bk := by
 obtain ⟨a, len, cap, i, h, hr, hn, hi, c0, c1, c2, f1, f2⟩ := h
 have lt := dCell_lt c0
 refine ⟨a, len, cap, i, h, ?_, hn, hi, (hb.cell (p := ⟨bk, 0, none⟩) lt).trans c0, (hb.cell (p := ⟨bk, 1, none⟩) lt).trans c1, (hb.cell (p := ⟨bk, 2, none⟩) lt).trans c2, (hb.frozen (p := ⟨bk, 1, none⟩) lt).trans f1, (hb.frozen (p := ⟨bk, 2, none⟩) lt).trans f2⟩
 refine ⟨hr.1, ?_⟩
 rcases hr.2 with h0 | ⟨b, off, rfl, hc⟩
 ·exact .inl h0
 ·refine .inr ⟨b, off, rfl, fun i hi => ?_⟩
  obtain ⟨v, h1, h2, h3⟩ := hc i hi
  exact ⟨v, h1, h2, (hb.cell (p := ⟨b, off + i, none⟩) (dCell_lt h3)).trans h3⟩
theorem Cur.lt {bk : Nat} {w : World} (h : Cur w bk) : bk < w.heap.size := by
 obtain ⟨a, len, cap, i, h, hr, hn, hi, c0, -⟩ := h
 exact dCell_lt c0
theorem i64_and255 (n : Int) : bits .and .i64 n 255 = n % 256 := by
 have h255 : (BitVec.ofInt 64 255).toNat = 2 ^ 8 - 1 := by decide
 have key : (BitVec.ofInt 64 n &&& BitVec.ofInt 64 255).toNat = (n % ((2 ^ 64 : Nat) : Int)).toNat % 2 ^ 8 := by
  rw [BitVec.toNat_and, BitVec.toNat_ofInt, h255, Nat.and_two_pow_sub_one_eq_mod]
 show IntKind.i64.wrap ((BitVec.ofInt 64 n &&& BitVec.ofInt 64 255).toNat : Nat) = n % 256
 rw [key, IntKind.wrap_i64]
 omega
theorem and255_bd (n : Int) : 0 ≤ bits .and .i64 n 255 ∧ bits .and .i64 n 255 ≤ 255 := by rw [i64_and255]; omega
theorem sO {w : World} {b o b' o' : Nat} {u v : Value} (h : w.cell? ⟨b, o, none⟩ = some v) (hne : b ≠ b' ∨ o ≠ o') : (w.setCell ⟨b', o', none⟩ u).cell? ⟨b, o, none⟩ = some v :=
 (World.cell?_setCell_other _ _ _ _ (by intro e; injection e; omega)).trans h
theorem Cur.drewN {bk : Nat} {w : World} (h : Cur w bk) (n : Nat) : Cur (w.drewN n) bk := h.below (below_drewN (Below.refl _ _) n)
theorem Cur.set2 {bk : Nat} {w : World} (h : Cur w bk) (x : Int) : Cur (w.setCell ⟨bk, 2, none⟩ (.int .i64 x)) bk := by
 obtain ⟨a, len, cap, i, h, hr, hn, hi, c0, c1, c2, f1, f2⟩ := h
 exact ⟨a, len, cap, i, x, hr.drawn ((Drawn.refl bk w).setCell 2 _) (fun b off e h0 => by have := hn b off e h0; omega), hn, hi, sO c0 (by omega), sO c1 (by omega), World.cell?_setCell_same _ _ _ c2, (World.frozen?_setCell _ _ _ _).trans f1, (World.frozen?_setCell _ _ _ _).trans f2⟩
theorem Cur.set1 {bk : Nat} {w : World} (h : Cur w bk) (k : Nat) {x : Int} (hx : x = k) (hk : ∀ a len cap, w.cell? ⟨bk, 0, none⟩ = some (.slice a len cap) → k ≤ len) : Cur (w.setCell ⟨bk, 1, none⟩ (.int .i64 x)) bk := by
 subst hx
 obtain ⟨a, len, cap, i, h, hr, hn, hi, c0, c1, c2, f1, f2⟩ := h
 exact ⟨a, len, cap, k, h, hr.drawn ((Drawn.refl bk w).setCell 1 _) (fun b off e h0 => by have := hn b off e h0; omega), hn, hk _ _ _ c0, sO c0 (by omega), World.cell?_setCell_same _ _ _ c1, sO c2 (by omega), (World.frozen?_setCell _ _ _ _).trans f1, (World.frozen?_setCell _ _ _ _).trans f2⟩
set_option maxHeartbeats 1000000 in
theorem l1Byte_any (bk : Nat) (w : World) (hc : Cur w bk) :
  Calls Tryz.prog 94 #[.pointer (some ⟨bk, 0, none⟩)] w fun e w' => (∃ x : Int, 0 ≤ x ∧ x ≤ 255 ∧ e = .returned (.int .i64 x)) ∧ Cur w' bk ∧ Drawn bk w w' := by
 have HC := dH hc
 obtain ⟨a, len, cap, i, h, hr, hn, hi, c0, c1, c2, f1, f2⟩ := hc
 by_cases hlt : (i : Int) < (len : Int)
 ·obtain ⟨b, off, rfl, hv⟩ : ∃ b off, a = some ⟨b, off, none⟩ ∧ ∀ i : Nat, i < len → ∃ v : Int, 0 ≤ v ∧ v ≤ 255 ∧ w.cell? ⟨b, off + i, none⟩ = some (.int .u8 v) := by
   rcases hr.2 with h0 | h0
   ·omega
   ·exact h0
  obtain ⟨v, hv0, hv1, hv2⟩ := hv i (by omega)
  have hb : b ≠ bk := by have := hn b off rfl (by omega); omega
  have hv3 : ∀ x, (w.setCell ⟨bk, 2, none⟩ x).cell? ⟨b, off + i, none⟩ = some (.int .u8 v) := fun x => sO hv2 (.inl hb)
  have hlen := hr.1
  clear hr hn hv
  go_enter Tryz.func94, Tryz.ntmps94
  go_wp2
  go_quiet (fail)
  go_wp2
  go_quiet (fail)
  go_wp2
  go_quiet (fail)
  go_wp2
  go_ret
  have hk : ∀ n x a' len' cap', ((w.setCell ⟨bk, 2, none⟩ x).drewN n).cell? ⟨bk, 0, none⟩ = some (.slice a' len' cap') → i + 1 ≤ len' := fun n x a' len' cap' e => by
   have e' : (w.setCell ⟨bk, 2, none⟩ x).cell? ⟨bk, 0, none⟩ = some (.slice a' len' cap') := by simpa using e
   rw [sO c0 (by omega)] at e'
   simp at e'
   omega
  exact ⟨⟨_, (and255_bd _).1, (and255_bd _).2, rfl⟩, (((dU HC).set2 _).drewN _).set1 (i + 1) (by omega) (hk _ _), (((Drawn.refl bk w).setCell 2 _).drewN _).setCell 1 _⟩
 ·clear hr hn
  go_enter Tryz.func94, Tryz.ntmps94
  go_wp2
  go_quiet (fail)
  go_wp2
  go_quiet (fail)
  go_wp2
  go_ret
  exact ⟨⟨_, (and255_bd _).1, (and255_bd _).2, rfl⟩, (((dU HC).set2 _).drewN _).drewN _, (((Drawn.refl bk w).setCell 2 _).drewN _).drewN _⟩
set_option maxHeartbeats 1000000 in
theorem l1Below_any (bk : Nat) (n : Nat) (h1 : 1 ≤ n) (h2 : n ≤ 4611686018427387904) (w : World) (hc : Cur w bk) :
  Calls Tryz.prog 35 #[.pointer (some ⟨bk, 0, none⟩), .int .i64 n] w fun e w' => (∃ x : Nat, x < n ∧ e = .returned (.int .i64 (x : Int))) ∧ Cur w' bk ∧ Drawn bk w w' := by
 have n0 : ¬ ((n : Int) ≤ 0) := by omega
 by_cases hn : (n : Int) ≤ 256
 ·go_enter Tryz.func35, Tryz.ntmps35
  go_wp2_with (go_at_call 94; refine (l1Byte_any _ _ hc).mono ?_; rintro e w1 ⟨⟨x, x0, x1, rfl⟩, hc1, hd1⟩)
  go_ret
  refine ⟨⟨(x % n).toNat, ?_, ?_⟩, hc1, hd1⟩
  ·have := Int.emod_lt_of_pos x (show (0 : Int) < n by omega)
   have := Int.emod_nonneg x (show (n : Int) ≠ 0 by omega)
   omega
  ·rw [Int.toNat_of_nonneg (Int.emod_nonneg x (by omega))]; rfl
 ·go_enter Tryz.func35, Tryz.ntmps35
  go_wp2_with fail
  refine (l1Byte_any _ _ hc).mono ?_
  rintro e w1 ⟨⟨x, x0, x1, rfl⟩, hc1, hd1⟩
  go_wp2_with fail
  refine (l1Byte_any _ _ hc1).mono ?_
  rintro e w2 ⟨⟨y, y0, y1, rfl⟩, hc2, hd2⟩
  go_wp2_with fail
  refine (l1Byte_any _ _ hc2).mono ?_
  rintro e w3 ⟨⟨z, z0, z1, rfl⟩, hc3, hd3⟩
  go_wp2_with fail
  refine (l1Byte_any _ _ hc3).mono ?_
  rintro e w4 ⟨⟨u, u0, u1, rfl⟩, hc4, hd4⟩
  go_wp2
  go_ret
  refine ⟨⟨((x * 16777216 + y * 65536 + z * 256 + u) % n).toNat, ?_, ?_⟩, hc4, ((hd1.trans hd2).trans hd3).trans hd4⟩
  ·have := Int.emod_lt_of_pos (x * 16777216 + y * 65536 + z * 256 + u) (show (0 : Int) < n by omega)
   have := Int.emod_nonneg (x * 16777216 + y * 65536 + z * 256 + u) (show (n : Int) ≠ 0 by omega)
   omega
  ·rw [Int.toNat_of_nonneg (Int.emod_nonneg _ (by omega))]; rfl
theorem Row8.below {w w' : World} {a : Option Addr} {len : Nat} (hr : Row8 w a len) (hb : Below w.heap.size w w') : Row8 w' a len := by
 refine ⟨hr.1, ?_⟩
 rcases hr.2 with h0 | ⟨b, off, rfl, hc⟩
 ·exact .inl h0
 ·refine .inr ⟨b, off, rfl, fun i hi => ?_⟩
  obtain ⟨v, h1, h2, h3⟩ := hc i hi
  exact ⟨v, h1, h2, (hb.cell (p := ⟨b, off + i, none⟩) (dCell_lt h3)).trans h3⟩
set_option maxHeartbeats 1000000 in
theorem l1New_any (a : Option Addr) (len cap : Nat) (w : World) (hr : Row8 w a len) :
  Calls Tryz.prog 15 #[.slice a len cap] w fun e w' => ∃ bk, e = .returned (.pointer (some ⟨bk, 0, none⟩)) ∧ w.heap.size ≤ bk ∧ Cur w' bk ∧ Below w.heap.size w w' := by
 have HR := dH hr
 have hlen := hr.1
 clear hr
 go_enter Tryz.func15, Tryz.ntmps15
 go_wp2
 go_loop [3, 4] (fun x v => ∃ (k : Nat) (H : Int), v = .int .i64 (k : Int) ∧ x = .int .i64 H ∧ k ≤ len ∧ k ≤ 4000) (fun _ v => len - (intOf v).toNat)
 case atStart => exact ⟨0, _, rfl, rfl, by omega, by omega⟩
 case round =>
  obtain ⟨k, H, rfl, rfl, hk, hk4⟩ := hrel
  have fin : Hid (∀ h : Int, Cur (w.alloc (.cells #[.slice a len cap, .int .i64 0, .int .i64 h] 75)) w.heap.size) := fun h => by
   have hb : Below w.heap.size w (w.alloc (.cells #[.slice a len cap, .int .i64 0, .int .i64 h] 75)) := (Below.refl _ _).alloc (Nat.le_refl _) _
   refine ⟨a, len, cap, 0, h, Row8.below HR hb, ?_, by omega, by simp [go_sem], by simp [go_sem], by simp [go_sem], by simp [go_sem], by simp [go_sem]⟩
   rintro b off rfl h0
   rcases (dU HR).2 with h1 | ⟨b', off', e, hc⟩
   ·omega
   ·obtain ⟨v, -, -, hv⟩ := hc 0 h0
    injection e with e
    injection e with e1 e2
    have := dCell_lt hv
    omega
  by_cases hlt : (k : Int) < (len : Int)
  ·by_cases h4 : (k : Int) < 4000
   ·obtain ⟨b, off, rfl, hv⟩ : ∃ b off, a = some ⟨b, off, none⟩ ∧ ∀ i : Nat, i < len → ∃ v : Int, 0 ≤ v ∧ v ≤ 255 ∧ w.cell? ⟨b, off + i, none⟩ = some (.int .u8 v) := by
     rcases (dU HR).2 with h0 | h0
     ·omega
     ·exact h0
    obtain ⟨v, hv0, hv1, hv2⟩ := hv k (by omega)
    clear hv fin
    go_wp2
    go_round
    case rel => exact ⟨k + 1, _, by go_num, rfl, by omega, by omega⟩
    case measure => simp [intOf]; omega
   ·go_wp2
    go_ret
    exact ⟨_, rfl, Nat.le_refl _, dU fin _, (Below.refl _ _).alloc (Nat.le_refl _) _⟩
  ·go_wp2
   go_ret
   exact ⟨_, rfl, Nat.le_refl _, dU fin _, (Below.refl _ _).alloc (Nat.le_refl _) _⟩
theorem number_in (a b : Int) (h1 : 0 ≤ a) (h2 : a ≤ 30) (h3 : 0 ≤ b) (h4 : b ≤ 60) (w : World) :
  Calls Tryz.prog 187 #[.agg #[.int .i64 a, .int .i64 b]] w fun e w' => e = .returned (.int .i64 (a * 4294967296 + b)) ∧ w.alloc (.cells #[.int .i64 a, .int .i64 b] 219) = w' := by
 go_enter Tryz.func187, Tryz.ntmps187
 go_wp2
 go_ret
 exact ⟨rfl, rfl⟩
theorem isPlace_yes (a b : Int) (h1 : 1 ≤ a) (w : World) :
  Calls Tryz.prog 188 #[.agg #[.int .i64 a, .int .i64 b]] w fun e w' => e = .returned (.bool true) ∧ w.alloc (.cells #[.int .i64 a, .int .i64 b] 219) = w' := by
 have ha : (a == 0) = false := beq_eq_false_iff_ne.2 (by omega)
 go_enter Tryz.func188, Tryz.ntmps188
 go_wp2
 go_ret
 exact ⟨rfl, rfl⟩
theorem isPlace_no (w : World) :
  Calls Tryz.prog 188 #[.agg #[.int .i64 0, .int .i64 0]] w fun e w' => e = .returned (.bool false) ∧ w.alloc (.cells #[.int .i64 0, .int .i64 0] 219) = w' := by
 go_enter Tryz.func188, Tryz.ntmps188
 go_wp2
 go_ret
 exact ⟨rfl, rfl⟩
theorem checked_yes (a b : Int) (h1 : 1 ≤ a) (h2 : a ≤ 30) (h3 : 1 ≤ b) (h4 : b ≤ 60) (w : World) :
  Calls Tryz.prog 186 #[.agg #[.int .i64 a, .int .i64 b]] w fun e w' => e = .returned (.agg #[.int .i64 a, .int .i64 b]) ∧ (w.alloc (.cells #[.int .i64 a, .int .i64 b] 219)).alloc (.cells #[.int .i64 a, .int .i64 b] 219) = w' := by
 go_enter Tryz.func186, Tryz.ntmps186
 go_wp2
 go_returns
 exact ⟨rfl, rfl⟩
theorem checked_no (a b : Int) (h : a < 1 ∨ 30 < a ∨ b < 1 ∨ 60 < b) (w : World) :
  Calls Tryz.prog 186 #[.agg #[.int .i64 a, .int .i64 b]] w fun e w' => e = .returned (.agg #[.int .i64 0, .int .i64 0]) ∧ (w.alloc (.cells #[.int .i64 a, .int .i64 b] 219)).alloc (.cells #[.int .i64 0, .int .i64 0] 219) = w' := by
 by_cases h1 : a < 1
 ·go_enter Tryz.func186, Tryz.ntmps186
  go_wp2
  go_returns
  exact ⟨rfl, rfl⟩
 ·by_cases h2 : 30 < a
  ·go_enter Tryz.func186, Tryz.ntmps186
   go_wp2
   go_returns
   exact ⟨rfl, rfl⟩
  ·by_cases h3 : b < 1
   ·go_enter Tryz.func186, Tryz.ntmps186
    go_wp2
    go_returns
    exact ⟨rfl, rfl⟩
   ·have h4 : 60 < b := by omega
    clear h
    go_enter Tryz.func186, Tryz.ntmps186
    go_wp2
    go_returns
    exact ⟨rfl, rfl⟩
theorem hide {p : Prop} (h : p) : Hid p := h
theorem unhide {p : Prop} (h : Hid p) : p := h
set_option maxHeartbeats 1000000 in
theorem implMake_yes (a b : Int) (h1 : 1 ≤ a) (h2 : a ≤ 30) (h3 : 1 ≤ b) (h4 : b ≤ 60) (w : World) :
  Calls Tryz.prog 104 #[.int .i64 a, .int .i64 b] w fun e w' => e = .returned (.tuple #[.int .i64 (a * 4294967296 + b), .bool true]) ∧ Below w.heap.size w w' := by
 go_enter Tryz.func104, Tryz.ntmps104
 go_wp2_with (go_at_call 186; refine (checked_yes a b h1 h2 h3 h4 _).mono ?_; rintro e w1 ⟨rfl, rfl⟩)
 go_region_with (first | (go_at_call 187; refine (number_in a b (by omega) h2 (by omega) h4 _).mono ?_; rintro e w' ⟨rfl, rfl⟩) | (go_at_call 188; refine (isPlace_yes a b h1 _).mono ?_; rintro e w' ⟨rfl, rfl⟩))
 all_goals
  go_wp2
  go_ret2
  exact ⟨rfl, by go_grown⟩
theorem split_yes (x : Int) (h0 : 0 < x) (h1 : 1 ≤ x / 4294967296) (h2 : x / 4294967296 ≤ 30) (h3 : 1 ≤ x % 4294967296) (h4 : x % 4294967296 ≤ 60) (w : World) :
  Calls Tryz.prog 243 #[.int .i64 x] w fun e w' => e = .returned (.agg #[.int .i64 (x / 4294967296), .int .i64 (x % 4294967296)]) ∧ Below w.heap.size w w' := by
 have hx : x ≤ 9223372036854775807 := by omega
 go_enter Tryz.func243, Tryz.ntmps243
 go_wp2_with (go_at_call 186; refine (checked_yes _ _ h1 h2 h3 h4 _).mono ?_; rintro e w1 ⟨rfl, rfl⟩)
 go_returns
 exact ⟨rfl, by go_grown⟩
theorem split_no_aid (x : Int) (h : ¬ (0 < x ∧ 1 ≤ x / 4294967296 ∧ x / 4294967296 ≤ 30 ∧ 1 ≤ x % 4294967296 ∧ x % 4294967296 ≤ 60)) (l : -9223372036854775808 ≤ x) (u : x ≤ 9223372036854775807) :
  wrap64 (x.tdiv 4294967296) < 1 ∨ 30 < wrap64 (x.tdiv 4294967296) ∨ x.tmod 4294967296 < 1 ∨ 60 < x.tmod 4294967296 := by
 by_cases h0 : 0 < x
 ·rw [Int.tdiv_eq_ediv_of_nonneg (by omega), Int.tmod_eq_emod_of_nonneg (by omega)]
  have : wrap64 (x / 4294967296) = x / 4294967296 := IntWalk.wrap64_in _ (by omega)
  rw [this]
  omega
 ·refine .inr (.inr (.inl ?_))
  obtain ⟨y, rfl⟩ : ∃ y, x = -y := ⟨-x, by omega⟩
  rw [Int.neg_tmod, Int.tmod_eq_emod_of_nonneg (by omega)]
  omega
theorem split_no (x : Int) (l : -9223372036854775808 ≤ x) (u : x ≤ 9223372036854775807) (h : ¬ (0 < x ∧ 1 ≤ x / 4294967296 ∧ x / 4294967296 ≤ 30 ∧ 1 ≤ x % 4294967296 ∧ x % 4294967296 ≤ 60)) (w : World) :
  Calls Tryz.prog 243 #[.int .i64 x] w fun e w' => e = .returned (.agg #[.int .i64 0, .int .i64 0]) ∧ Below w.heap.size w w' := by
 have H := hide (split_no_aid x h l u)
 clear h l u
 go_enter Tryz.func243, Tryz.ntmps243
 go_wp2_with (go_at_call 186; refine (checked_no _ _ (unhide H) _).mono ?_; rintro e w1 ⟨rfl, rfl⟩)
 go_returns
 exact ⟨rfl, by go_grown⟩
def isPl (x : Int) : Prop := 0 < x ∧ 1 ≤ x / 4294967296 ∧ x / 4294967296 ≤ 30 ∧ 1 ≤ x % 4294967296 ∧ x % 4294967296 ≤ 60
theorem implOk_yes (x : Int) (h : isPl x) (w : World) :
  Calls Tryz.prog 225 #[.int .i64 x] w fun e w' => e = .returned (.bool true) ∧ Below w.heap.size w w' := by
 obtain ⟨h0, h1, h2, h3, h4⟩ := h
 have H0 := hide h0
 have H3 := hide h3
 have H4 := hide h4
 have H2 := hide h2
 clear h0 h3 h4 h2
 go_enter Tryz.func225, Tryz.ntmps225
 go_wp2_with (first | (go_at_call 243; refine (split_yes x (unhide H0) h1 (unhide H2) (unhide H3) (unhide H4) _).mono ?_; rintro e w1 ⟨rfl, hb⟩) | (go_at_call 188; refine (isPlace_yes _ _ h1 _).mono ?_; rintro e w1 ⟨rfl, rfl⟩))
 go_ret
 exact ⟨rfl, Below.alloc hb hb.size _⟩
theorem implOk_no (x : Int) (l : -9223372036854775808 ≤ x) (u : x ≤ 9223372036854775807) (h : ¬ isPl x) (w : World) :
  Calls Tryz.prog 225 #[.int .i64 x] w fun e w' => e = .returned (.bool false) ∧ Below w.heap.size w w' := by
 go_enter Tryz.func225, Tryz.ntmps225
 go_wp2_with (first | (go_at_call 243; refine (split_no x l u h _).mono ?_; rintro e w1 ⟨rfl, hb⟩) | (go_at_call 188; refine (isPlace_no _).mono ?_; rintro e w1 ⟨rfl, rfl⟩))
 go_ret
 exact ⟨rfl, Below.alloc hb hb.size _⟩
theorem field_epoch (a b : Int) (w : World) : (Instr.field 219 (.agg #[.int .i64 a, .int .i64 b]) 0).run Tryz.prog w = .ok (.int .i64 a) w := by kernel_rfl
theorem field_off (a b : Int) (w : World) : (Instr.field 219 (.agg #[.int .i64 a, .int .i64 b]) 1).run Tryz.prog w = .ok (.int .i64 b) w := by kernel_rfl
theorem implEpoch_yes (x : Int) (h : isPl x) (w : World) :
  Calls Tryz.prog 161 #[.int .i64 x] w fun e w' => e = .returned (.int .i64 (x / 4294967296)) ∧ Below w.heap.size w w' := by
 obtain ⟨h0, h1, h2, h3, h4⟩ := h
 have hfe := field_epoch
 go_enter Tryz.func161, Tryz.ntmps161
 go_wp2_with (go_at_call 243; refine (split_yes x h0 h1 h2 h3 h4 _).mono ?_; rintro e w1 ⟨rfl, hb⟩)
 go_ret
 exact ⟨rfl, hb⟩
theorem implEpoch_no (x : Int) (l : -9223372036854775808 ≤ x) (u : x ≤ 9223372036854775807) (h : ¬ isPl x) (w : World) :
  Calls Tryz.prog 161 #[.int .i64 x] w fun e w' => e = .returned (.int .i64 0) ∧ Below w.heap.size w w' := by
 have hfe := field_epoch
 go_enter Tryz.func161, Tryz.ntmps161
 go_wp2_with (go_at_call 243; refine (split_no x l u h _).mono ?_; rintro e w1 ⟨rfl, hb⟩)
 go_ret
 exact ⟨rfl, hb⟩
theorem implOff_yes (x : Int) (h : isPl x) (w : World) :
  Calls Tryz.prog 290 #[.int .i64 x] w fun e w' => e = .returned (.int .i64 (x % 4294967296)) ∧ Below w.heap.size w w' := by
 obtain ⟨h0, h1, h2, h3, h4⟩ := h
 have hfo := field_off
 go_enter Tryz.func290, Tryz.ntmps290
 go_wp2_with (go_at_call 243; refine (split_yes x h0 h1 h2 h3 h4 _).mono ?_; rintro e w1 ⟨rfl, hb⟩)
 go_ret
 exact ⟨rfl, hb⟩
theorem implOff_no (x : Int) (l : -9223372036854775808 ≤ x) (u : x ≤ 9223372036854775807) (h : ¬ isPl x) (w : World) :
  Calls Tryz.prog 290 #[.int .i64 x] w fun e w' => e = .returned (.int .i64 0) ∧ Below w.heap.size w w' := by
 have hfo := field_off
 go_enter Tryz.func290, Tryz.ntmps290
 go_wp2_with (go_at_call 243; refine (split_no x l u h _).mono ?_; rintro e w1 ⟨rfl, hb⟩)
 go_ret
 exact ⟨rfl, hb⟩
end Go.Proofs.YtodfgehicpejgaaGreatDoor
