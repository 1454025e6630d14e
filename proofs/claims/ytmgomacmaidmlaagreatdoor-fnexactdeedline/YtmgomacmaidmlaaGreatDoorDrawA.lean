/- The cursor of a draw: what l1New makes, what l1Byte leaves; each draw writes into the cursor's own block alone. -/
import Derived.Test.YtmgomacmaidmlaaGreatDoorRows
import Derived.Handy
import Derived.Outline
import Derived.Deep.RegionWith
import Derived.Deep.QuietTactic
import Derived.BigQuiet
import Derived.WalkSmall
import Derived.Laws.Bits128
namespace Go.Proofs.YtmgomacmaidmlaaGreatDoor
open Go.ChangeShapes Go.WideShapes Go.ChangeAt Go.RowKit
set_option linter.unusedVariables false

theorem dHide {p : Prop} (h : p) : Hid p := h
theorem dUnhide {p : Prop} (h : Hid p) : p := h
theorem dCell_lt {w : World} {b o : Nat} {v : Value} (h : w.cell? ⟨b, o, none⟩ = some v) : b < w.heap.size := by
  rcases Nat.lt_or_ge b w.heap.size with h1 | h1
  · exact h1
  · have : w.heap[b]? = none := by simp [h1]
    simp [World.cell?, this] at h
/-- Bytes that can be read: 'len' of them at a. -/
def Row8 (w : World) (a : Option Addr) (len : Nat) : Prop :=
  len ≤ 9223372036854775807 ∧ (len = 0 ∨ ∃ b off, a = some ⟨b, off, none⟩ ∧ ∀ i : Nat, i < len → ∃ v : Int, 0 ≤ v ∧ v ≤ 255 ∧ w.cell? ⟨b, off + i, none⟩ = some (.int .u8 v))
/-- The cursor in block bk. -/
def Cur (w : World) (bk : Nat) : Prop :=
  ∃ (a : Option Addr) (len cap i : Nat) (h : Int), Row8 w a len ∧ (∀ b off, a = some ⟨b, off, none⟩ → 0 < len → b < bk) ∧ i ≤ len ∧
    w.cell? ⟨bk, 0, none⟩ = some (.slice a len cap) ∧ w.cell? ⟨bk, 1, none⟩ = some (.int .i64 i) ∧ w.cell? ⟨bk, 2, none⟩ = some (.int .i64 h) ∧
    w.frozen? ⟨bk, 1, none⟩ = false ∧ w.frozen? ⟨bk, 2, none⟩ = false
/-- Of what was there, nothing but block bk has turned. -/
structure Drawn (bk : Nat) (w w' : World) : Prop where
  os : w'.os = w.os
  tape : w'.tape = w.tape
  output : w'.output = w.output
  size : w.heap.size ≤ w'.heap.size
  block : ∀ k, k < w.heap.size → k ≠ bk → w'.heap[k]? = w.heap[k]?
theorem Drawn.refl (bk : Nat) (w : World) : Drawn bk w w := ⟨rfl, rfl, rfl, Nat.le_refl _, fun _ _ _ => rfl⟩
theorem Drawn.trans {bk : Nat} {a b c : World} (h : Drawn bk a b) (k : Drawn bk b c) : Drawn bk a c :=
  ⟨k.os.trans h.os, k.tape.trans h.tape, k.output.trans h.output, Nat.le_trans h.size k.size, fun j hj hn => (k.block j (Nat.lt_of_lt_of_le hj h.size) hn).trans (h.block j hj hn)⟩
theorem Drawn.of_below {bk : Nat} {w w' : World} (h : Below w.heap.size w w') : Drawn bk w w' := ⟨h.os, h.tape, h.output, h.size, fun k hk _ => h.block k hk⟩
theorem Drawn.drew {bk : Nat} {a w : World} (h : Drawn bk a w) : Drawn bk a w.drew := ⟨h.os, h.tape, h.output, h.size, h.block⟩
theorem Drawn.drewN {bk : Nat} {a w : World} (h : Drawn bk a w) (n : Nat) : Drawn bk a (w.drewN n) :=
  h.trans (Drawn.of_below (below_drewN (Below.refl _ _) n))
theorem Drawn.setCell {bk : Nat} {a w : World} (h : Drawn bk a w) (o : Nat) (u : Value) : Drawn bk a (w.setCell ⟨bk, o, none⟩ u) := by
  refine h.trans ⟨rfl, rfl, rfl, by simp, fun k hk hn => Below.heap_setCell w ⟨bk, o, none⟩ u k hn⟩
theorem Drawn.below {bk B : Nat} {w0 w w' : World} (h : Drawn bk w w') (hb : Below B w0 w) (hB : B ≤ w.heap.size) (hk : B ≤ bk) : Below B w0 w' :=
  ⟨h.os.trans hb.os, h.tape.trans hb.tape, h.output.trans hb.output, Nat.le_trans hb.size h.size, fun k hk' => (h.block k (by omega) (by omega)).trans (hb.block k hk')⟩
theorem Drawn.cell {bk : Nat} {w w' : World} (h : Drawn bk w w') {b o : Nat} {v : Value} (hc : w.cell? ⟨b, o, none⟩ = some v) (hb : b ≠ bk) : w'.cell? ⟨b, o, none⟩ = some v :=
  (World.cell?_of_block (w := w) (w' := w') (a := ⟨b, o, none⟩) (h.block b (dCell_lt hc) hb)).trans hc
theorem Drawn.frozen {bk : Nat} {w w' : World} (h : Drawn bk w w') {b o : Nat} (hb : b ≠ bk) (hl : b < w.heap.size) : w'.frozen? ⟨b, o, none⟩ = w.frozen? ⟨b, o, none⟩ :=
  World.frozen?_of_block (w := w) (w' := w') (a := ⟨b, o, none⟩) (h.block b hl hb)
theorem Row8.drawn {bk : Nat} {w w' : World} {a : Option Addr} {len : Nat} (h : Row8 w a len) (hd : Drawn bk w w') (hn : ∀ b off, a = some ⟨b, off, none⟩ → 0 < len → b ≠ bk) : Row8 w' a len := by
  refine ⟨h.1, ?_⟩
  rcases h.2 with h0 | ⟨b, off, rfl, hc⟩
  · exact .inl h0
  · rcases Nat.eq_zero_or_pos len with h0 | h0
    · exact .inl h0
    · refine .inr ⟨b, off, rfl, fun i hi => ?_⟩
      obtain ⟨v, h1, h2, h3⟩ := hc i hi
      exact ⟨v, h1, h2, hd.cell h3 (hn b off rfl h0)⟩
/-- New blocks leave the cursor as it is. -/
theorem Cur.below {bk : Nat} {w w' : World} (h : Cur w bk) (hb : Below w.heap.size w w') : Cur w' bk := by
  obtain ⟨a, len, cap, i, h, hr, hn, hi, c0, c1, c2, f1, f2⟩ := h
  have lt := dCell_lt c0
  refine ⟨a, len, cap, i, h, ?_, hn, hi, (hb.cell (p := ⟨bk, 0, none⟩) lt).trans c0, (hb.cell (p := ⟨bk, 1, none⟩) lt).trans c1, (hb.cell (p := ⟨bk, 2, none⟩) lt).trans c2, (hb.frozen (p := ⟨bk, 1, none⟩) lt).trans f1, (hb.frozen (p := ⟨bk, 2, none⟩) lt).trans f2⟩
  refine ⟨hr.1, ?_⟩
  rcases hr.2 with h0 | ⟨b, off, rfl, hc⟩
  · exact .inl h0
  · refine .inr ⟨b, off, rfl, fun i hi => ?_⟩
    obtain ⟨v, h1, h2, h3⟩ := hc i hi
    exact ⟨v, h1, h2, (hb.cell (p := ⟨b, off + i, none⟩) (dCell_lt h3)).trans h3⟩
theorem Cur.lt {bk : Nat} {w : World} (h : Cur w bk) : bk < w.heap.size := by
  obtain ⟨a, len, cap, i, h, hr, hn, hi, c0, -⟩ := h
  exact dCell_lt c0
theorem i64_and255 (n : Int) : bits .and .i64 n 255 = n % 256 := by
  have h255 : (BitVec.ofInt 64 255).toNat = 2 ^ 8 - 1 := by decide
  have key : (BitVec.ofInt 64 n &&& BitVec.ofInt 64 255).toNat = (n % ((2 ^ 64 : Nat) : Int)).toNat % 2 ^ 8 := by
    rw [BitVec.toNat_and, BitVec.toNat_ofInt, h255, Nat.and_two_pow_sub_one_eq_mod]
  show IntKind.i64.wrap ((BitVec.ofInt 64 n &&& BitVec.ofInt 64 255).toNat : Nat) = n % 256
  rw [key, IntKind.wrap_i64]
  omega

theorem and255_bd (n : Int) : 0 ≤ bits .and .i64 n 255 ∧ bits .and .i64 n 255 ≤ 255 := by rw [i64_and255]; omega
theorem set_other {w : World} {b o b' o' : Nat} {u v : Value} (h : w.cell? ⟨b, o, none⟩ = some v) (hne : b ≠ b' ∨ o ≠ o') : (w.setCell ⟨b', o', none⟩ u).cell? ⟨b, o, none⟩ = some v :=
  (World.cell?_setCell_other _ _ _ _ (by intro e; injection e; omega)).trans h
theorem Cur.drewN {bk : Nat} {w : World} (h : Cur w bk) (n : Nat) : Cur (w.drewN n) bk := h.below (below_drewN (Below.refl _ _) n)
theorem Cur.set2 {bk : Nat} {w : World} (h : Cur w bk) (x : Int) : Cur (w.setCell ⟨bk, 2, none⟩ (.int .i64 x)) bk := by
  obtain ⟨a, len, cap, i, h, hr, hn, hi, c0, c1, c2, f1, f2⟩ := h
  exact ⟨a, len, cap, i, x, hr.drawn ((Drawn.refl bk w).setCell 2 _) (fun b off e h0 => by have := hn b off e h0; omega), hn, hi, set_other c0 (by omega), set_other c1 (by omega), World.cell?_setCell_same _ _ _ c2, (World.frozen?_setCell _ _ _ _).trans f1, (World.frozen?_setCell _ _ _ _).trans f2⟩
theorem Cur.set1 {bk : Nat} {w : World} (h : Cur w bk) (k : Nat) {x : Int} (hx : x = k) (hk : ∀ a len cap, w.cell? ⟨bk, 0, none⟩ = some (.slice a len cap) → k ≤ len) : Cur (w.setCell ⟨bk, 1, none⟩ (.int .i64 x)) bk := by
  subst hx
  obtain ⟨a, len, cap, i, h, hr, hn, hi, c0, c1, c2, f1, f2⟩ := h
  exact ⟨a, len, cap, k, h, hr.drawn ((Drawn.refl bk w).setCell 1 _) (fun b off e h0 => by have := hn b off e h0; omega), hn, hk _ _ _ c0, set_other c0 (by omega), World.cell?_setCell_same _ _ _ c1, set_other c2 (by omega), (World.frozen?_setCell _ _ _ _).trans f1, (World.frozen?_setCell _ _ _ _).trans f2⟩

theorem Row8.below {w w' : World} {a : Option Addr} {len : Nat} (hr : Row8 w a len) (hb : Below w.heap.size w w') : Row8 w' a len := by
  refine ⟨hr.1, ?_⟩
  rcases hr.2 with h0 | ⟨b, off, rfl, hc⟩
  · exact .inl h0
  · refine .inr ⟨b, off, rfl, fun i hi => ?_⟩
    obtain ⟨v, h1, h2, h3⟩ := hc i hi
    exact ⟨v, h1, h2, (hb.cell (p := ⟨b, off + i, none⟩) (dCell_lt h3)).trans h3⟩
end Go.Proofs.YtmgomacmaidmlaaGreatDoor
