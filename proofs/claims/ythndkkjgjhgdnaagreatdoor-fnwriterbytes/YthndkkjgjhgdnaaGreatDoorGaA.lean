/- Several texts in one: DrawA, BytesP, RowB, BytesX, IntsP, FourP, BoxP, RetP, RwP, SitP, AppR, ApP, SitB. -/
import Derived.Test.YthndkkjgjhgdnaaGreatDoorRows
import Derived.Handy
import Derived.Outline
import Derived.Deep.RegionWith
import Derived.Deep.QuietTactic
import Derived.BigQuiet
import Derived.WalkSmall
import Derived.Laws.Bits128
import Derived.Laws.AppendOwn
import Derived.Laws.OwnMore
import Derived.OwnWalk
import Derived.ArgAppend
import Derived.Maps.RangeWalk
namespace Go.Proofs.YthndkkjgjhgdnaaGreatDoor
open Go.ChangeShapes Go.WideShapes Go.ChangeAt Go.RowKit
set_option linter.unusedVariables false

theorem dHide {p : Prop} (h : p) : Hid p := h
theorem dUnhide {p : Prop} (h : Hid p) : p := h
theorem dCell_lt {w : World} {b o : Nat} {v : Value} (h : w.cell? ⟨b, o, none⟩ = some v) : b < w.heap.size := by
  rcases Nat.lt_or_ge b w.heap.size with h1 | h1
  · exact h1
  · have : w.heap[b]? = none := by simp [h1]
    simp [World.cell?, this] at h
/-- Bytes that can be read: 'len' of them at a. -/
def Row8 (w : World) (a : Option Addr) (len : Nat) : Prop :=
  len ≤ 9223372036854775807 ∧ (len = 0 ∨ ∃ b off, a = some ⟨b, off, none⟩ ∧ ∀ i : Nat, i < len → ∃ v : Int, 0 ≤ v ∧ v ≤ 255 ∧ w.cell? ⟨b, off + i, none⟩ = some (.int .u8 v))
/-- The cursor in block bk. -/
def Cur (w : World) (bk : Nat) : Prop :=
  ∃ (a : Option Addr) (len cap i : Nat) (h : Int), Row8 w a len ∧ (∀ b off, a = some ⟨b, off, none⟩ → 0 < len → b < bk) ∧ i ≤ len ∧
    w.cell? ⟨bk, 0, none⟩ = some (.slice a len cap) ∧ w.cell? ⟨bk, 1, none⟩ = some (.int .i64 i) ∧ w.cell? ⟨bk, 2, none⟩ = some (.int .i64 h) ∧
    w.frozen? ⟨bk, 1, none⟩ = false ∧ w.frozen? ⟨bk, 2, none⟩ = false
/-- Of what was there, nothing but block bk has turned. -/
structure Drawn (bk : Nat) (w w' : World) : Prop where
  os : w'.os = w.os
  tape : w'.tape = w.tape
  output : w'.output = w.output
  size : w.heap.size ≤ w'.heap.size
  block : ∀ k, k < w.heap.size → k ≠ bk → w'.heap[k]? = w.heap[k]?
theorem Drawn.refl (bk : Nat) (w : World) : Drawn bk w w := ⟨rfl, rfl, rfl, Nat.le_refl _, fun _ _ _ => rfl⟩
theorem Drawn.trans {bk : Nat} {a b c : World} (h : Drawn bk a b) (k : Drawn bk b c) : Drawn bk a c :=
  ⟨k.os.trans h.os, k.tape.trans h.tape, k.output.trans h.output, Nat.le_trans h.size k.size, fun j hj hn => (k.block j (Nat.lt_of_lt_of_le hj h.size) hn).trans (h.block j hj hn)⟩
theorem Drawn.of_below {bk : Nat} {w w' : World} (h : Below w.heap.size w w') : Drawn bk w w' := ⟨h.os, h.tape, h.output, h.size, fun k hk _ => h.block k hk⟩
theorem Drawn.drew {bk : Nat} {a w : World} (h : Drawn bk a w) : Drawn bk a w.drew := ⟨h.os, h.tape, h.output, h.size, h.block⟩
theorem Drawn.drewN {bk : Nat} {a w : World} (h : Drawn bk a w) (n : Nat) : Drawn bk a (w.drewN n) :=
  h.trans (Drawn.of_below (below_drewN (Below.refl _ _) n))
theorem Drawn.setCell {bk : Nat} {a w : World} (h : Drawn bk a w) (o : Nat) (u : Value) : Drawn bk a (w.setCell ⟨bk, o, none⟩ u) := by
  refine h.trans ⟨rfl, rfl, rfl, by simp, fun k hk hn => Below.heap_setCell w ⟨bk, o, none⟩ u k hn⟩
theorem Drawn.below {bk B : Nat} {w0 w w' : World} (h : Drawn bk w w') (hb : Below B w0 w) (hB : B ≤ w.heap.size) (hk : B ≤ bk) : Below B w0 w' :=
  ⟨h.os.trans hb.os, h.tape.trans hb.tape, h.output.trans hb.output, Nat.le_trans hb.size h.size, fun k hk' => (h.block k (by omega) (by omega)).trans (hb.block k hk')⟩
theorem Drawn.cell {bk : Nat} {w w' : World} (h : Drawn bk w w') {b o : Nat} {v : Value} (hc : w.cell? ⟨b, o, none⟩ = some v) (hb : b ≠ bk) : w'.cell? ⟨b, o, none⟩ = some v :=
  (World.cell?_of_block (w := w) (w' := w') (a := ⟨b, o, none⟩) (h.block b (dCell_lt hc) hb)).trans hc
theorem Drawn.frozen {bk : Nat} {w w' : World} (h : Drawn bk w w') {b o : Nat} (hb : b ≠ bk) (hl : b < w.heap.size) : w'.frozen? ⟨b, o, none⟩ = w.frozen? ⟨b, o, none⟩ :=
  World.frozen?_of_block (w := w) (w' := w') (a := ⟨b, o, none⟩) (h.block b hl hb)
theorem Row8.drawn {bk : Nat} {w w' : World} {a : Option Addr} {len : Nat} (h : Row8 w a len) (hd : Drawn bk w w') (hn : ∀ b off, a = some ⟨b, off, none⟩ → 0 < len → b ≠ bk) : Row8 w' a len := by
  refine ⟨h.1, ?_⟩
  rcases h.2 with h0 | ⟨b, off, rfl, hc⟩
  · exact .inl h0
  · rcases Nat.eq_zero_or_pos len with h0 | h0
    · exact .inl h0
    · refine .inr ⟨b, off, rfl, fun i hi => ?_⟩
      obtain ⟨v, h1, h2, h3⟩ := hc i hi
      exact ⟨v, h1, h2, hd.cell h3 (hn b off rfl h0)⟩
/-- New blocks leave the cursor as it is. -/
theorem Cur.below {bk : Nat} {w w' : World} (h : Cur w bk) (hb : Below w.heap.size w w') : Cur w' bk := by
  obtain ⟨a, len, cap, i, h, hr, hn, hi, c0, c1, c2, f1, f2⟩ := h
  have lt := dCell_lt c0
  refine ⟨a, len, cap, i, h, ?_, hn, hi, (hb.cell (p := ⟨bk, 0, none⟩) lt).trans c0, (hb.cell (p := ⟨bk, 1, none⟩) lt).trans c1, (hb.cell (p := ⟨bk, 2, none⟩) lt).trans c2, (hb.frozen (p := ⟨bk, 1, none⟩) lt).trans f1, (hb.frozen (p := ⟨bk, 2, none⟩) lt).trans f2⟩
  refine ⟨hr.1, ?_⟩
  rcases hr.2 with h0 | ⟨b, off, rfl, hc⟩
  · exact .inl h0
  · refine .inr ⟨b, off, rfl, fun i hi => ?_⟩
    obtain ⟨v, h1, h2, h3⟩ := hc i hi
    exact ⟨v, h1, h2, (hb.cell (p := ⟨b, off + i, none⟩) (dCell_lt h3)).trans h3⟩
theorem Cur.lt {bk : Nat} {w : World} (h : Cur w bk) : bk < w.heap.size := by
  obtain ⟨a, len, cap, i, h, hr, hn, hi, c0, -⟩ := h
  exact dCell_lt c0
theorem i64_and255 (n : Int) : bits .and .i64 n 255 = n % 256 := by
  have h255 : (BitVec.ofInt 64 255).toNat = 2 ^ 8 - 1 := by decide
  have key : (BitVec.ofInt 64 n &&& BitVec.ofInt 64 255).toNat = (n % ((2 ^ 64 : Nat) : Int)).toNat % 2 ^ 8 := by
    rw [BitVec.toNat_and, BitVec.toNat_ofInt, h255, Nat.and_two_pow_sub_one_eq_mod]
  show IntKind.i64.wrap ((BitVec.ofInt 64 n &&& BitVec.ofInt 64 255).toNat : Nat) = n % 256
  rw [key, IntKind.wrap_i64]
  omega

theorem and255_bd (n : Int) : 0 ≤ bits .and .i64 n 255 ∧ bits .and .i64 n 255 ≤ 255 := by rw [i64_and255]; omega
theorem set_other {w : World} {b o b' o' : Nat} {u v : Value} (h : w.cell? ⟨b, o, none⟩ = some v) (hne : b ≠ b' ∨ o ≠ o') : (w.setCell ⟨b', o', none⟩ u).cell? ⟨b, o, none⟩ = some v :=
  (World.cell?_setCell_other _ _ _ _ (by intro e; injection e; omega)).trans h
theorem Cur.drewN {bk : Nat} {w : World} (h : Cur w bk) (n : Nat) : Cur (w.drewN n) bk := h.below (below_drewN (Below.refl _ _) n)
theorem Cur.set2 {bk : Nat} {w : World} (h : Cur w bk) (x : Int) : Cur (w.setCell ⟨bk, 2, none⟩ (.int .i64 x)) bk := by
  obtain ⟨a, len, cap, i, h, hr, hn, hi, c0, c1, c2, f1, f2⟩ := h
  exact ⟨a, len, cap, i, x, hr.drawn ((Drawn.refl bk w).setCell 2 _) (fun b off e h0 => by have := hn b off e h0; omega), hn, hi, set_other c0 (by omega), set_other c1 (by omega), World.cell?_setCell_same _ _ _ c2, (World.frozen?_setCell _ _ _ _).trans f1, (World.frozen?_setCell _ _ _ _).trans f2⟩
theorem Cur.set1 {bk : Nat} {w : World} (h : Cur w bk) (k : Nat) {x : Int} (hx : x = k) (hk : ∀ a len cap, w.cell? ⟨bk, 0, none⟩ = some (.slice a len cap) → k ≤ len) : Cur (w.setCell ⟨bk, 1, none⟩ (.int .i64 x)) bk := by
  subst hx
  obtain ⟨a, len, cap, i, h, hr, hn, hi, c0, c1, c2, f1, f2⟩ := h
  exact ⟨a, len, cap, k, h, hr.drawn ((Drawn.refl bk w).setCell 1 _) (fun b off e h0 => by have := hn b off e h0; omega), hn, hk _ _ _ c0, set_other c0 (by omega), World.cell?_setCell_same _ _ _ c1, set_other c2 (by omega), (World.frozen?_setCell _ _ _ _).trans f1, (World.frozen?_setCell _ _ _ _).trans f2⟩

set_option maxHeartbeats 1000000 in
theorem l1Byte_any (bk : Nat) (w : World) (hc : Cur w bk) :
    Calls Tryz.prog 101 #[.pointer (some ⟨bk, 0, none⟩)] w fun e w' => (∃ x : Int, 0 ≤ x ∧ x ≤ 255 ∧ e = .returned (.int .i64 x)) ∧ Cur w' bk ∧ Drawn bk w w' := by
  have HC := dHide hc
  obtain ⟨a, len, cap, i, h, hr, hn, hi, c0, c1, c2, f1, f2⟩ := hc
  by_cases hlt : (i : Int) < (len : Int)
  · obtain ⟨b, off, rfl, hv⟩ : ∃ b off, a = some ⟨b, off, none⟩ ∧ ∀ i : Nat, i < len → ∃ v : Int, 0 ≤ v ∧ v ≤ 255 ∧ w.cell? ⟨b, off + i, none⟩ = some (.int .u8 v) := by
      rcases hr.2 with h0 | h0
      · omega
      · exact h0
    obtain ⟨v, hv0, hv1, hv2⟩ := hv i (by omega)
    have hb : b ≠ bk := by have := hn b off rfl (by omega); omega
    have hv3 : ∀ x, (w.setCell ⟨bk, 2, none⟩ x).cell? ⟨b, off + i, none⟩ = some (.int .u8 v) := fun x => set_other hv2 (.inl hb)
    have hlen := hr.1
    clear hr hn hv
    go_enter Tryz.func101, Tryz.ntmps101
    go_wp2
    go_quiet (fail)
    go_wp2
    go_quiet (fail)
    go_wp2
    go_quiet (fail)
    go_wp2
    go_ret
    have hk : ∀ n x a' len' cap', ((w.setCell ⟨bk, 2, none⟩ x).drewN n).cell? ⟨bk, 0, none⟩ = some (.slice a' len' cap') → i + 1 ≤ len' := fun n x a' len' cap' e => by
      have e' : (w.setCell ⟨bk, 2, none⟩ x).cell? ⟨bk, 0, none⟩ = some (.slice a' len' cap') := by simpa using e
      rw [set_other c0 (by omega)] at e'
      simp at e'
      omega
    exact ⟨⟨_, (and255_bd _).1, (and255_bd _).2, rfl⟩, (((dUnhide HC).set2 _).drewN _).set1 (i + 1) (by omega) (hk _ _), (((Drawn.refl bk w).setCell 2 _).drewN _).setCell 1 _⟩
  · clear hr hn
    go_enter Tryz.func101, Tryz.ntmps101
    go_wp2
    go_quiet (fail)
    go_wp2
    go_quiet (fail)
    go_wp2
    go_ret
    exact ⟨⟨_, (and255_bd _).1, (and255_bd _).2, rfl⟩, (((dUnhide HC).set2 _).drewN _).drewN _, (((Drawn.refl bk w).setCell 2 _).drewN _).drewN _⟩

set_option maxHeartbeats 1000000 in
theorem l1Below_any (bk : Nat) (n : Nat) (h1 : 1 ≤ n) (h2 : n ≤ 4611686018427387904) (w : World) (hc : Cur w bk) :
    Calls Tryz.prog 57 #[.pointer (some ⟨bk, 0, none⟩), .int .i64 n] w fun e w' => (∃ x : Nat, x < n ∧ e = .returned (.int .i64 (x : Int))) ∧ Cur w' bk ∧ Drawn bk w w' := by
  have n0 : ¬ ((n : Int) ≤ 0) := by omega
  by_cases hn : (n : Int) ≤ 256
  · go_enter Tryz.func57, Tryz.ntmps57
    go_wp2_with (go_at_call 101; refine (l1Byte_any _ _ hc).mono ?_; rintro e w1 ⟨⟨x, x0, x1, rfl⟩, hc1, hd1⟩)
    go_ret
    refine ⟨⟨(x % n).toNat, ?_, ?_⟩, hc1, hd1⟩
    · have := Int.emod_lt_of_pos x (show (0 : Int) < n by omega)
      have := Int.emod_nonneg x (show (n : Int) ≠ 0 by omega)
      omega
    · rw [Int.toNat_of_nonneg (Int.emod_nonneg x (by omega))]; rfl
  · go_enter Tryz.func57, Tryz.ntmps57
    go_wp2_with fail
    refine (l1Byte_any _ _ hc).mono ?_
    rintro e w1 ⟨⟨x, x0, x1, rfl⟩, hc1, hd1⟩
    go_wp2_with fail
    refine (l1Byte_any _ _ hc1).mono ?_
    rintro e w2 ⟨⟨y, y0, y1, rfl⟩, hc2, hd2⟩
    go_wp2_with fail
    refine (l1Byte_any _ _ hc2).mono ?_
    rintro e w3 ⟨⟨z, z0, z1, rfl⟩, hc3, hd3⟩
    go_wp2_with fail
    refine (l1Byte_any _ _ hc3).mono ?_
    rintro e w4 ⟨⟨u, u0, u1, rfl⟩, hc4, hd4⟩
    go_wp2
    go_ret
    refine ⟨⟨((x * 16777216 + y * 65536 + z * 256 + u) % n).toNat, ?_, ?_⟩, hc4, ((hd1.trans hd2).trans hd3).trans hd4⟩
    · have := Int.emod_lt_of_pos (x * 16777216 + y * 65536 + z * 256 + u) (show (0 : Int) < n by omega)
      have := Int.emod_nonneg (x * 16777216 + y * 65536 + z * 256 + u) (show (n : Int) ≠ 0 by omega)
      omega
    · rw [Int.toNat_of_nonneg (Int.emod_nonneg _ (by omega))]; rfl
theorem Row8.below {w w' : World} {a : Option Addr} {len : Nat} (hr : Row8 w a len) (hb : Below w.heap.size w w') : Row8 w' a len := by
  refine ⟨hr.1, ?_⟩
  rcases hr.2 with h0 | ⟨b, off, rfl, hc⟩
  · exact .inl h0
  · refine .inr ⟨b, off, rfl, fun i hi => ?_⟩
    obtain ⟨v, h1, h2, h3⟩ := hc i hi
    exact ⟨v, h1, h2, (hb.cell (p := ⟨b, off + i, none⟩) (dCell_lt h3)).trans h3⟩
set_option maxHeartbeats 1000000 in
theorem l1New_any (a : Option Addr) (len cap : Nat) (w : World) (hr : Row8 w a len) :
    Calls Tryz.prog 27 #[.slice a len cap] w fun e w' => ∃ bk, e = .returned (.pointer (some ⟨bk, 0, none⟩)) ∧ w.heap.size ≤ bk ∧ Cur w' bk ∧ Below w.heap.size w w' := by
  have HR := dHide hr
  have hlen := hr.1
  clear hr
  go_enter Tryz.func27, Tryz.ntmps27
  go_wp2
  go_loop [3, 4] (fun x v => ∃ (k : Nat) (H : Int), v = .int .i64 (k : Int) ∧ x = .int .i64 H ∧ k ≤ len ∧ k ≤ 4000) (fun _ v => len - (intOf v).toNat)
  case atStart => exact ⟨0, _, rfl, rfl, by omega, by omega⟩
  case round =>
    obtain ⟨k, H, rfl, rfl, hk, hk4⟩ := hrel
    have fin : Hid (∀ h : Int, Cur (w.alloc (.cells #[.slice a len cap, .int .i64 0, .int .i64 h] 109)) w.heap.size) := fun h => by
      have hb : Below w.heap.size w (w.alloc (.cells #[.slice a len cap, .int .i64 0, .int .i64 h] 109)) := (Below.refl _ _).alloc (Nat.le_refl _) _
      refine ⟨a, len, cap, 0, h, Row8.below HR hb, ?_, by omega, by simp [go_sem], by simp [go_sem], by simp [go_sem], by simp [go_sem], by simp [go_sem]⟩
      rintro b off rfl h0
      rcases (dUnhide HR).2 with h1 | ⟨b', off', e, hc⟩
      · omega
      · obtain ⟨v, -, -, hv⟩ := hc 0 h0
        injection e with e
        injection e with e1 e2
        have := dCell_lt hv
        omega
    by_cases hlt : (k : Int) < (len : Int)
    · by_cases h4 : (k : Int) < 4000
      · obtain ⟨b, off, rfl, hv⟩ : ∃ b off, a = some ⟨b, off, none⟩ ∧ ∀ i : Nat, i < len → ∃ v : Int, 0 ≤ v ∧ v ≤ 255 ∧ w.cell? ⟨b, off + i, none⟩ = some (.int .u8 v) := by
          rcases (dUnhide HR).2 with h0 | h0
          · omega
          · exact h0
        obtain ⟨v, hv0, hv1, hv2⟩ := hv k (by omega)
        clear hv fin
        go_wp2
        go_round
        case rel => exact ⟨k + 1, _, by go_num, rfl, by omega, by omega⟩
        case measure => simp [intOf]; omega
      · go_wp2
        go_ret
        exact ⟨_, rfl, Nat.le_refl _, dUnhide fin _, (Below.refl _ _).alloc (Nat.le_refl _) _⟩
    · go_wp2
      go_ret
      exact ⟨_, rfl, Nat.le_refl _, dUnhide fin _, (Below.refl _ _).alloc (Nat.le_refl _) _⟩
end Go.Proofs.YthndkkjgjhgdnaaGreatDoor
namespace Go.Proofs.YthndkkjgjhgdnaaGreatDoor
open Go.ChangeShapes Go.WideShapes Go.ChangeAt Go.RowKit
set_option linter.unusedVariables false

/-- The slice v reads as the bytes bs. -/
def Bs (w : World) (v : Value) (bs : List UInt8) : Prop :=
  bs.length ≤ 9223372036854775807 ∧ ∃ a cap, v = .slice a bs.length cap ∧ (bs.length ≤ cap ∧ cap ≤ 9223372036854775807) ∧ (bs = [] ∨ ∃ b off, a = some ⟨b, off, none⟩ ∧ ∀ i (h : i < bs.length), w.cell? ⟨b, off + i, none⟩ = some (.int .u8 (bs[i].toNat : Int)))
/-- The slice v reads as the bytes bs, lies in a block from 'base' on, and may be written. -/
def OwnB (w : World) (base : Nat) (v : Value) (bs : List UInt8) : Prop :=
  bs.length ≤ 9223372036854775807 ∧ ∃ a cap, v = .slice a bs.length cap ∧ (bs.length ≤ cap ∧ cap ≤ 9223372036854775807) ∧ (bs = [] ∨ ∃ b off, a = some ⟨b, off, none⟩ ∧ base ≤ b ∧ ∀ i (h : i < bs.length), w.cell? ⟨b, off + i, none⟩ = some (.int .u8 (bs[i].toNat : Int)) ∧ w.frozen? ⟨b, off + i, none⟩ = false)
theorem or_of_lt {bs : List UInt8} {P : Prop} {k : Nat} (h : bs = [] ∨ P) (hk : k < bs.length) : P := by
  rcases h with rfl | h
  · simp at hk
  · exact h
theorem OwnB.bs {w : World} {base : Nat} {v : Value} {bs : List UInt8} (h : OwnB w base v bs) : Bs w v bs := by
  obtain ⟨h0, a, cap, rfl, hcap, h⟩ := h
  refine ⟨h0, a, cap, rfl, hcap, ?_⟩
  rcases h with h | ⟨b, off, rfl, -, hc⟩
  · exact .inl h
  · exact .inr ⟨b, off, rfl, fun i hi => (hc i hi).1⟩
theorem Bs.below {w w' : World} {v : Value} {bs : List UInt8} (h : Bs w v bs) (hb : Below w.heap.size w w') : Bs w' v bs := by
  obtain ⟨h0, a, cap, rfl, hcap, h⟩ := h
  refine ⟨h0, a, cap, rfl, hcap, ?_⟩
  rcases h with h | ⟨b, off, rfl, hc⟩
  · exact .inl h
  · exact .inr ⟨b, off, rfl, fun i hi => (hb.cell (p := ⟨b, off + i, none⟩) (dCell_lt (hc i hi))).trans (hc i hi)⟩
theorem OwnB.below {w w' : World} {base : Nat} {v : Value} {bs : List UInt8} (h : OwnB w base v bs) (hb : Below w.heap.size w w') : OwnB w' base v bs := by
  obtain ⟨h0, a, cap, rfl, hcap, h⟩ := h
  refine ⟨h0, a, cap, rfl, hcap, ?_⟩
  rcases h with h | ⟨b, off, rfl, hbb, hc⟩
  · exact .inl h
  · exact .inr ⟨b, off, rfl, hbb, fun i hi => ⟨(hb.cell (p := ⟨b, off + i, none⟩) (dCell_lt (hc i hi).1)).trans (hc i hi).1, (hb.frozen (p := ⟨b, off + i, none⟩) (dCell_lt (hc i hi).1)).trans (hc i hi).2⟩⟩
theorem OwnB.mono {w : World} {base base' : Nat} {v : Value} {bs : List UInt8} (h : OwnB w base v bs) (hb : base' ≤ base) : OwnB w base' v bs := by
  obtain ⟨h0, a, cap, rfl, hcap, h⟩ := h
  refine ⟨h0, a, cap, rfl, hcap, ?_⟩
  rcases h with h | ⟨b, off, rfl, hbb, hc⟩
  · exact .inl h
  · exact .inr ⟨b, off, rfl, by omega, hc⟩
/-- The block that a slice of bytes lies in. -/
def blockOf : Value → Nat
  | .slice (some a) _ _ => a.block
  | _ => 0
/-- Bytes that lie elsewhere stay as they are when block bk turns. -/
theorem Bs.drawn {bk : Nat} {w w' : World} {v : Value} {bs : List UInt8} (h : Bs w v bs) (hd : Drawn bk w w') (hne : bs = [] ∨ blockOf v ≠ bk) : Bs w' v bs := by
  obtain ⟨h0, a, cap, rfl, hcap, h⟩ := h
  refine ⟨h0, a, cap, rfl, hcap, ?_⟩
  rcases h with h | ⟨b, off, rfl, hc⟩
  · exact .inl h
  · rcases hne with h | hne
    · exact .inl h
    · exact .inr ⟨b, off, rfl, fun i hi => hd.cell (hc i hi) hne⟩
/-- The cells of bytes. -/
def bcells (bs : List UInt8) : List Value := bs.map fun c => Value.int .u8 (c.toNat : Int)
/-- What append's law leaves is such a slice. -/
theorem ownB_of_row {w : World} {base : Nat} {v : Value} {n : Nat} {bs : List UInt8} (h : w.ownsRow base 5 1 v n (bcells bs)) : OwnB w base v bs := by
  have hl : bs.length = n := by have := h.1; simpa [bcells] using this
  subst hl
  rcases h.2 with ⟨rfl, hn⟩ | ⟨g, cap, cur, rfl, hb, hg, hnc, hcm, hsz, ht⟩
  · have : bs = [] := List.length_eq_zero_iff.1 hn
    subst this
    exact ⟨by simp, none, 0, rfl, by simp, .inl rfl⟩
  · have hm : maxLen = 9223372036854775807 := rfl
    refine ⟨by omega, some ⟨g, 0, none⟩, cap, rfl, by omega, .inr ⟨g, 0, rfl, hb, fun i hi => ?_⟩⟩
    have hcur : cur.toList[i]? = some (Value.int .u8 (bs[i].toNat : Int)) := by
      have e : (cur.toList.take (bs.length * 1))[i]? = (bcells bs)[i]? := by rw [ht]
      rw [List.getElem?_take] at e
      rw [if_pos (by omega)] at e
      rw [e]
      simp [bcells, hi]
    refine ⟨?_, ?_⟩
    · simp only [World.cell?, hg]
      simpa using hcur
    · simp [World.frozen?, hg]
end Go.Proofs.YthndkkjgjhgdnaaGreatDoor
namespace Go.Proofs.YthndkkjgjhgdnaaGreatDoor
open Go.ChangeShapes Go.WideShapes Go.ChangeAt Go.RowKit

/-- A slice of integers that came in: nil, or a row of 'cap' cells, the numbers 'zs'. -/
def IsRow (k : IntKind) (w : World) (a : Option Addr) (len cap : Nat) (zs : List Int) : Prop :=
  (a = none ∧ len = 0 ∧ cap = 0 ∧ zs = []) ∨
  ∃ x, a = some x ∧ len ≤ cap ∧ cap ≤ maxLen ∧ zs.length = cap ∧ (∀ i, i < zs.length → w.cell? (x.add i) = some (.int k (zs.getD i 0))) ∧ ∀ n ∈ zs, (Lit.int k n).wf = true
theorem row8_of {w : World} {a : Option Addr} {len cap : Nat} {zs : List Int} (h : IsRow .u8 w a len cap zs) : Row8 w a len := by
  rcases h with ⟨-, rfl, -, -⟩ | ⟨x, rfl, h1, h2, h3, h4, h5⟩
  · exact ⟨by omega, .inl rfl⟩
  · have hm : maxLen = 9223372036854775807 := rfl
    refine ⟨by omega, ?_⟩
    rcases Nat.eq_zero_or_pos len with h0 | h0
    · exact .inl h0
    · obtain ⟨b, off, rfl, hc⟩ := ints_at h4 (by omega)
      refine .inr ⟨b, off, rfl, fun i hi => ?_⟩
      have hi' : i < zs.length := by omega
      have hcell := hc i hi'
      have hg : zs.getD i 0 = zs[i] := by simp [List.getD, hi']
      rw [hg] at hcell
      obtain ⟨l, u⟩ := bounds_u8 (h5 zs[i] (List.getElem_mem hi'))
      exact ⟨zs[i], l, by omega, hcell⟩
end Go.Proofs.YthndkkjgjhgdnaaGreatDoor
namespace Go.Proofs.YthndkkjgjhgdnaaGreatDoor
open Go.ChangeShapes Go.WideShapes Go.ChangeAt Go.RowKit

theorem OwnB.base {w : World} {base : Nat} {v : Value} {bs : List UInt8} (h : OwnB w base v bs) (hne : bs ≠ []) : base ≤ blockOf v := by
  obtain ⟨-, a, cap, rfl, -, h⟩ := h
  rcases h with h | ⟨b, off, rfl, hb, -⟩
  · exact absurd h hne
  · exact hb
theorem Bs.lt {w : World} {v : Value} {bs : List UInt8} (h : Bs w v bs) (hne : bs ≠ []) : blockOf v < w.heap.size := by
  obtain ⟨-, a, cap, rfl, -, h⟩ := h
  rcases h with h | ⟨b, off, rfl, hc⟩
  · exact absurd h hne
  · have hl : 0 < bs.length := List.length_pos_iff.2 hne
    exact dCell_lt (hc 0 hl)
/-- Bytes of a later call's new memory: to mark them leaves earlier ones as they are. -/
theorem Bs.apart {w w1 w2 : World} {v u : Value} {bs cs ds : List UInt8} {base : Nat} (h : Bs w1 v bs) (hv : Bs w v cs) (hl : cs.length = bs.length) (hu : OwnB w1 base u ds) (hb : w.heap.size ≤ base) (hd : Drawn (blockOf u) w1 w2) (hds : ds.length = bs.length) : Bs w2 v bs := by
  rcases List.eq_nil_or_concat bs with h0 | h0
  · exact h.drawn hd (.inl h0)
  · have hne : bs ≠ [] := by
      obtain ⟨l, a, rfl⟩ := h0
      simp
    have hpos : 0 < bs.length := List.length_pos_iff.2 hne
    have hcs : cs ≠ [] := by rintro rfl; simp at hl; omega
    have hds' : ds ≠ [] := by rintro rfl; simp at hds; omega
    have h1 := hv.lt hcs
    have h2 := hu.base hds'
    exact h.drawn hd (.inr (by omega))
/-- To mark bytes of new memory turns nothing that was there. -/
theorem mark_below {B : Nat} {w0 w w' : World} {base : Nat} {v : Value} {bs : List UInt8} (hd : Drawn (blockOf v) w w') (h0 : bs = [] → w' = w) (ho : OwnB w base v bs) (hb : Below B w0 w) (hB : B ≤ base) (hs : B ≤ w.heap.size) : Below B w0 w' := by
  rcases List.eq_nil_or_concat bs with h | ⟨l, a, h⟩
  · rw [h0 h]; exact hb
  · have := ho.base (by rw [h]; simp)
    exact hd.below hb hs (by omega)
/-- A law's argument reads as bytes. -/
theorem bs_of_row {w : World} {a : Option Addr} {len cap : Nat} {zs : List Int} (h : IsRow .u8 w a len cap zs) : ∃ bs : List UInt8, bs.length = len ∧ Bs w (.slice a len cap) bs := by
  rcases h with ⟨rfl, rfl, rfl, rfl⟩ | ⟨x, rfl, h1, h2, h3, h4, h5⟩
  · exact ⟨[], rfl, by simp, none, 0, rfl, by simp, .inl rfl⟩
  · have hm : maxLen = 9223372036854775807 := rfl
    refine ⟨(zs.take len).map fun z => UInt8.ofNat z.toNat, by simp; omega, ?_⟩
    have hl : ((zs.take len).map fun z => UInt8.ofNat z.toNat).length = len := by simp; omega
    refine ⟨by omega, some x, cap, by rw [hl], by rw [hl]; omega, ?_⟩
    rcases Nat.eq_zero_or_pos len with h0 | h0
    · exact .inl (by subst h0; simp)
    · obtain ⟨b, off, rfl, hc⟩ := ints_at h4 (by omega)
      refine .inr ⟨b, off, rfl, fun i hi => ?_⟩
      have hi' : i < zs.length := by omega
      have hcell := hc i hi'
      have hg : zs.getD i 0 = zs[i] := by simp [List.getD, hi']
      rw [hg] at hcell
      obtain ⟨l, u⟩ := bounds_u8 (h5 zs[i] (List.getElem_mem hi'))
      rw [hcell]
      simp
      omega
end Go.Proofs.YthndkkjgjhgdnaaGreatDoor
namespace Go.Proofs.YthndkkjgjhgdnaaGreatDoor
open Go.ChangeShapes Go.WideShapes Go.ChangeAt Go.RowKit
set_option linter.unusedVariables false

/-- The slice v reads as the ints bs. -/
def Ns (w : World) (v : Value) (bs : List Int) : Prop :=
  bs.length ≤ 9223372036854775807 ∧ ∃ a cap, v = .slice a bs.length cap ∧ (bs.length ≤ cap ∧ cap ≤ 9223372036854775807) ∧ (bs = [] ∨ ∃ b off, a = some ⟨b, off, none⟩ ∧ ∀ i (h : i < bs.length), w.cell? ⟨b, off + i, none⟩ = some (.int .i64 bs[i]))
/-- The slice v reads as the ints bs, lies in a block from 'base' on, and may be written. -/
def OwnN (w : World) (base : Nat) (v : Value) (bs : List Int) : Prop :=
  bs.length ≤ 9223372036854775807 ∧ ∃ a cap, v = .slice a bs.length cap ∧ (bs.length ≤ cap ∧ cap ≤ 9223372036854775807) ∧ (bs = [] ∨ ∃ b off, a = some ⟨b, off, none⟩ ∧ base ≤ b ∧ ∀ i (h : i < bs.length), w.cell? ⟨b, off + i, none⟩ = some (.int .i64 bs[i]) ∧ w.frozen? ⟨b, off + i, none⟩ = false)
theorem orN_of_lt {bs : List Int} {P : Prop} {k : Nat} (h : bs = [] ∨ P) (hk : k < bs.length) : P := by
  rcases h with rfl | h
  · simp at hk
  · exact h
theorem OwnN.bs {w : World} {base : Nat} {v : Value} {bs : List Int} (h : OwnN w base v bs) : Ns w v bs := by
  obtain ⟨h0, a, cap, rfl, hcap, h⟩ := h
  refine ⟨h0, a, cap, rfl, hcap, ?_⟩
  rcases h with h | ⟨b, off, rfl, -, hc⟩
  · exact .inl h
  · exact .inr ⟨b, off, rfl, fun i hi => (hc i hi).1⟩
theorem Ns.below {w w' : World} {v : Value} {bs : List Int} (h : Ns w v bs) (hb : Below w.heap.size w w') : Ns w' v bs := by
  obtain ⟨h0, a, cap, rfl, hcap, h⟩ := h
  refine ⟨h0, a, cap, rfl, hcap, ?_⟩
  rcases h with h | ⟨b, off, rfl, hc⟩
  · exact .inl h
  · exact .inr ⟨b, off, rfl, fun i hi => (hb.cell (p := ⟨b, off + i, none⟩) (dCell_lt (hc i hi))).trans (hc i hi)⟩
theorem OwnN.below {w w' : World} {base : Nat} {v : Value} {bs : List Int} (h : OwnN w base v bs) (hb : Below w.heap.size w w') : OwnN w' base v bs := by
  obtain ⟨h0, a, cap, rfl, hcap, h⟩ := h
  refine ⟨h0, a, cap, rfl, hcap, ?_⟩
  rcases h with h | ⟨b, off, rfl, hbb, hc⟩
  · exact .inl h
  · exact .inr ⟨b, off, rfl, hbb, fun i hi => ⟨(hb.cell (p := ⟨b, off + i, none⟩) (dCell_lt (hc i hi).1)).trans (hc i hi).1, (hb.frozen (p := ⟨b, off + i, none⟩) (dCell_lt (hc i hi).1)).trans (hc i hi).2⟩⟩
theorem OwnN.mono {w : World} {base base' : Nat} {v : Value} {bs : List Int} (h : OwnN w base v bs) (hb : base' ≤ base) : OwnN w base' v bs := by
  obtain ⟨h0, a, cap, rfl, hcap, h⟩ := h
  refine ⟨h0, a, cap, rfl, hcap, ?_⟩
  rcases h with h | ⟨b, off, rfl, hbb, hc⟩
  · exact .inl h
  · exact .inr ⟨b, off, rfl, by omega, hc⟩
/-- Ints that lie elsewhere stay as they are when block bk turns. -/
theorem Ns.drawn {bk : Nat} {w w' : World} {v : Value} {bs : List Int} (h : Ns w v bs) (hd : Drawn bk w w') (hne : bs = [] ∨ blockOf v ≠ bk) : Ns w' v bs := by
  obtain ⟨h0, a, cap, rfl, hcap, h⟩ := h
  refine ⟨h0, a, cap, rfl, hcap, ?_⟩
  rcases h with h | ⟨b, off, rfl, hc⟩
  · exact .inl h
  · rcases hne with h | hne
    · exact .inl h
    · exact .inr ⟨b, off, rfl, fun i hi => hd.cell (hc i hi) hne⟩
/-- The cells of ints. -/
def ncells (bs : List Int) : List Value := bs.map fun c => Value.int .i64 c
/-- What append's law leaves is such a slice. -/
theorem ownN_of_row {w : World} {base : Nat} {v : Value} {n : Nat} {bs : List Int} (h : w.ownsRow base 3 1 v n (ncells bs)) : OwnN w base v bs := by
  have hl : bs.length = n := by have := h.1; simpa [ncells] using this
  subst hl
  rcases h.2 with ⟨rfl, hn⟩ | ⟨g, cap, cur, rfl, hb, hg, hnc, hcm, hsz, ht⟩
  · have : bs = [] := List.length_eq_zero_iff.1 hn
    subst this
    exact ⟨by simp, none, 0, rfl, by simp, .inl rfl⟩
  · have hm : maxLen = 9223372036854775807 := rfl
    refine ⟨by omega, some ⟨g, 0, none⟩, cap, rfl, by omega, .inr ⟨g, 0, rfl, hb, fun i hi => ?_⟩⟩
    have hcur : cur.toList[i]? = some (Value.int .i64 bs[i]) := by
      have e : (cur.toList.take (bs.length * 1))[i]? = (ncells bs)[i]? := by rw [ht]
      rw [List.getElem?_take] at e
      rw [if_pos (by omega)] at e
      rw [e]
      simp [ncells, hi]
    refine ⟨?_, ?_⟩
    · simp only [World.cell?, hg]
      simpa using hcur
    · simp [World.frozen?, hg]
/-- Ints in another block stay through a store. -/
theorem OwnN.far {w : World} {base : Nat} {v : Value} {xs : List Int} (h : OwnN w base v xs) {b o : Nat} (hb : b < base) (u : Value) : OwnN (w.setCell ⟨b, o, none⟩ u) base v xs := by
  obtain ⟨h0, a, cap, rfl, hcap, h⟩ := h
  refine ⟨h0, a, cap, rfl, hcap, ?_⟩
  rcases h with h | ⟨g, off, rfl, hg, hc⟩
  · exact .inl h
  · exact .inr ⟨g, off, rfl, hg, fun i hi => ⟨set_other (hc i hi).1 (.inl (by omega)), (World.frozen?_setCell _ _ _ _).trans (hc i hi).2⟩⟩
end Go.Proofs.YthndkkjgjhgdnaaGreatDoor
namespace Go.Proofs.YthndkkjgjhgdnaaGreatDoor
open Go.ChangeShapes Go.WideShapes Go.ChangeAt Go.RowKit
set_option linter.unusedVariables false

theorem new_cell (w : World) (vs : Array Value) (T : TypeId) (i : Nat) : (w.alloc (.cells vs T)).cell? ⟨w.heap.size, i, none⟩ = vs[i]? := by simp
theorem four_set {w : World} {b : Nat} {u0 u1 u2 u3 : Value} (v0 v1 v2 v3 : Value) (c0 : w.cell? ⟨b, 0, none⟩ = some u0) (c1 : w.cell? ⟨b, 1, none⟩ = some u1) (c2 : w.cell? ⟨b, 2, none⟩ = some u2) (c3 : w.cell? ⟨b, 3, none⟩ = some u3) :
    ((((w.setCell ⟨b, 0, none⟩ v0).setCell ⟨b, 1, none⟩ v1).setCell ⟨b, 2, none⟩ v2).setCell ⟨b, 3, none⟩ v3).cell? ⟨b, 0, none⟩ = some v0 ∧
    ((((w.setCell ⟨b, 0, none⟩ v0).setCell ⟨b, 1, none⟩ v1).setCell ⟨b, 2, none⟩ v2).setCell ⟨b, 3, none⟩ v3).cell? ⟨b, 1, none⟩ = some v1 ∧
    ((((w.setCell ⟨b, 0, none⟩ v0).setCell ⟨b, 1, none⟩ v1).setCell ⟨b, 2, none⟩ v2).setCell ⟨b, 3, none⟩ v3).cell? ⟨b, 2, none⟩ = some v2 ∧
    ((((w.setCell ⟨b, 0, none⟩ v0).setCell ⟨b, 1, none⟩ v1).setCell ⟨b, 2, none⟩ v2).setCell ⟨b, 3, none⟩ v3).cell? ⟨b, 3, none⟩ = some v3 :=
  ⟨set_other (set_other (set_other (World.cell?_setCell_same _ _ _ c0) (by omega)) (by omega)) (by omega),
   set_other (set_other (World.cell?_setCell_same _ _ _ (set_other c1 (by omega))) (by omega)) (by omega),
   set_other (World.cell?_setCell_same _ _ _ (set_other (set_other c2 (by omega)) (by omega))) (by omega),
   World.cell?_setCell_same _ _ _ (set_other (set_other (set_other c3 (by omega)) (by omega)) (by omega))⟩
/-- Four cells of block b. -/
def Four (w : World) (b : Nat) (c0 c1 c2 c3 : Value) : Prop := w.cell? ⟨b, 0, none⟩ = some c0 ∧ w.cell? ⟨b, 1, none⟩ = some c1 ∧ w.cell? ⟨b, 2, none⟩ = some c2 ∧ w.cell? ⟨b, 3, none⟩ = some c3
theorem Four.kept {w w' : World} {b : Nat} {c0 c1 c2 c3 : Value} (h : Four w b c0 c1 c2 c3) (hb : Below w.heap.size w w') : Four w' b c0 c1 c2 c3 := by
  obtain ⟨h0, h1, h2, h3⟩ := h
  have lt := dCell_lt h0
  exact ⟨(hb.cell (p := ⟨b, 0, none⟩) lt).trans h0, (hb.cell (p := ⟨b, 1, none⟩) lt).trans h1, (hb.cell (p := ⟨b, 2, none⟩) lt).trans h2, (hb.cell (p := ⟨b, 3, none⟩) lt).trans h3⟩
theorem Four.new (w : World) (c0 c1 c2 c3 : Value) (T : TypeId) : Four (w.alloc (.cells #[c0, c1, c2, c3] T)) w.heap.size c0 c1 c2 c3 := ⟨by simp, by simp, by simp, by simp⟩
theorem belowThen {w0 w w' : World} (h : Below w0.heap.size w0 w) (k : Below w.heap.size w w') : Below w0.heap.size w0 w' := h.trans (k.mono h.size)
/-- Four cells of block b, from block B on, that may be written. -/
def FourZ (w : World) (B b : Nat) (c0 c1 c2 c3 : Value) : Prop := B ≤ b ∧ Four w b c0 c1 c2 c3 ∧ w.frozen? ⟨b, 0, none⟩ = false ∧ w.frozen? ⟨b, 1, none⟩ = false ∧ w.frozen? ⟨b, 2, none⟩ = false ∧ w.frozen? ⟨b, 3, none⟩ = false
theorem FourZ.kept {w w' : World} {B b : Nat} {c0 c1 c2 c3 : Value} (h : FourZ w B b c0 c1 c2 c3) (hb : Below w.heap.size w w') : FourZ w' B b c0 c1 c2 c3 := by
  obtain ⟨h0, h1, f0, f1, f2, f3⟩ := h
  have lt := dCell_lt h1.1
  exact ⟨h0, h1.kept hb, (hb.frozen (p := ⟨b, 0, none⟩) lt).trans f0, (hb.frozen (p := ⟨b, 1, none⟩) lt).trans f1, (hb.frozen (p := ⟨b, 2, none⟩) lt).trans f2, (hb.frozen (p := ⟨b, 3, none⟩) lt).trans f3⟩
theorem FourZ.new {w w' : World} {B : Nat} {c0 c1 c2 c3 : Value} {T : TypeId} (h : B ≤ w.heap.size) (hb : Below (w.alloc (.cells #[c0, c1, c2, c3] T)).heap.size (w.alloc (.cells #[c0, c1, c2, c3] T)) w') : FourZ w' B w.heap.size c0 c1 c2 c3 := by
  refine FourZ.kept (w := w.alloc (.cells #[c0, c1, c2, c3] T)) ⟨h, Four.new w _ _ _ _ _, ?_, ?_, ?_, ?_⟩ hb
  all_goals simp
theorem FourZ.newD {w w' : World} {B : Nat} {c0 c1 c2 c3 : Value} {T : TypeId} (h : B ≤ w.heap.size) (hb : Below (w.alloc (.cells #[c0, c1, c2, c3] T)).drew.heap.size (w.alloc (.cells #[c0, c1, c2, c3] T)).drew w') : FourZ w' B w.heap.size c0 c1 c2 c3 :=
  FourZ.new (T := T) h ⟨hb.os, hb.tape, hb.output, hb.size, hb.block⟩
theorem FourZ.set {w : World} {B b : Nat} {c0 c1 c2 c3 : Value} (h : FourZ w B b c0 c1 c2 c3) (v0 v1 v2 v3 : Value) :
    Four ((((w.setCell ⟨b, 0, none⟩ v0).setCell ⟨b, 1, none⟩ v1).setCell ⟨b, 2, none⟩ v2).setCell ⟨b, 3, none⟩ v3) b v0 v1 v2 v3 := four_set v0 v1 v2 v3 h.2.1.1 h.2.1.2.1 h.2.1.2.2.1 h.2.1.2.2.2
theorem FourZ.below {w0 w : World} {b : Nat} {c0 c1 c2 c3 : Value} (h : FourZ w w0.heap.size b c0 c1 c2 c3) (hb : Below w0.heap.size w0 w) (v0 v1 v2 v3 : Value) :
    Below w0.heap.size w0 ((((w.setCell ⟨b, 0, none⟩ v0).setCell ⟨b, 1, none⟩ v1).setCell ⟨b, 2, none⟩ v2).setCell ⟨b, 3, none⟩ v3) :=
  (((hb.setCell (p := ⟨b, 0, none⟩) h.1 _).setCell (p := ⟨b, 1, none⟩) h.1 _).setCell (p := ⟨b, 2, none⟩) h.1 _).setCell (p := ⟨b, 3, none⟩) h.1 _
theorem Four.drawn {w w' : World} {bk b : Nat} {c0 c1 c2 c3 : Value} (h : Four w b c0 c1 c2 c3) (hd : Drawn bk w w') (hb : b ≠ bk) : Four w' b c0 c1 c2 c3 :=
  ⟨hd.cell h.1 hb, hd.cell h.2.1 hb, hd.cell h.2.2.1 hb, hd.cell h.2.2.2 hb⟩
theorem FourZ.drawn {w w' : World} {bk B b : Nat} {c0 c1 c2 c3 : Value} (h : FourZ w B b c0 c1 c2 c3) (hd : Drawn bk w w') (hb : b ≠ bk) : FourZ w' B b c0 c1 c2 c3 := by
  obtain ⟨h0, h1, f0, f1, f2, f3⟩ := h
  have lt := dCell_lt h1.1
  exact ⟨h0, h1.drawn hd hb, (hd.frozen hb lt).trans f0, (hd.frozen hb lt).trans f1, (hd.frozen hb lt).trans f2, (hd.frozen hb lt).trans f3⟩
theorem FourZ.fresh (w : World) (c0 c1 c2 c3 : Value) (T : TypeId) : FourZ (w.alloc (.cells #[c0, c1, c2, c3] T)) w.heap.size w.heap.size c0 c1 c2 c3 := FourZ.new (Nat.le_refl _) (Below.refl _ _)
theorem FourZ.put0 {w : World} {B b : Nat} {c0 c1 c2 c3 : Value} (h : FourZ w B b c0 c1 c2 c3) (v : Value) : FourZ (w.setCell ⟨b, 0, none⟩ v) B b v c1 c2 c3 := by
  obtain ⟨h0, ⟨k0, k1, k2, k3⟩, f0, f1, f2, f3⟩ := h
  exact ⟨h0, ⟨World.cell?_setCell_same _ _ _ k0, set_other k1 (by omega), set_other k2 (by omega), set_other k3 (by omega)⟩, (World.frozen?_setCell _ _ _ _).trans f0, (World.frozen?_setCell _ _ _ _).trans f1, (World.frozen?_setCell _ _ _ _).trans f2, (World.frozen?_setCell _ _ _ _).trans f3⟩
theorem FourZ.put1 {w : World} {B b : Nat} {c0 c1 c2 c3 : Value} (h : FourZ w B b c0 c1 c2 c3) (v : Value) : FourZ (w.setCell ⟨b, 1, none⟩ v) B b c0 v c2 c3 := by
  obtain ⟨h0, ⟨k0, k1, k2, k3⟩, f0, f1, f2, f3⟩ := h
  exact ⟨h0, ⟨set_other k0 (by omega), World.cell?_setCell_same _ _ _ k1, set_other k2 (by omega), set_other k3 (by omega)⟩, (World.frozen?_setCell _ _ _ _).trans f0, (World.frozen?_setCell _ _ _ _).trans f1, (World.frozen?_setCell _ _ _ _).trans f2, (World.frozen?_setCell _ _ _ _).trans f3⟩
theorem FourZ.put2 {w : World} {B b : Nat} {c0 c1 c2 c3 : Value} (h : FourZ w B b c0 c1 c2 c3) (v : Value) : FourZ (w.setCell ⟨b, 2, none⟩ v) B b c0 c1 v c3 := by
  obtain ⟨h0, ⟨k0, k1, k2, k3⟩, f0, f1, f2, f3⟩ := h
  exact ⟨h0, ⟨set_other k0 (by omega), set_other k1 (by omega), World.cell?_setCell_same _ _ _ k2, set_other k3 (by omega)⟩, (World.frozen?_setCell _ _ _ _).trans f0, (World.frozen?_setCell _ _ _ _).trans f1, (World.frozen?_setCell _ _ _ _).trans f2, (World.frozen?_setCell _ _ _ _).trans f3⟩
theorem FourZ.put3 {w : World} {B b : Nat} {c0 c1 c2 c3 : Value} (h : FourZ w B b c0 c1 c2 c3) (v : Value) : FourZ (w.setCell ⟨b, 3, none⟩ v) B b c0 c1 c2 v := by
  obtain ⟨h0, ⟨k0, k1, k2, k3⟩, f0, f1, f2, f3⟩ := h
  exact ⟨h0, ⟨set_other k0 (by omega), set_other k1 (by omega), set_other k2 (by omega), World.cell?_setCell_same _ _ _ k3⟩, (World.frozen?_setCell _ _ _ _).trans f0, (World.frozen?_setCell _ _ _ _).trans f1, (World.frozen?_setCell _ _ _ _).trans f2, (World.frozen?_setCell _ _ _ _).trans f3⟩
theorem FourZ.far {w : World} {B b b' o : Nat} {c0 c1 c2 c3 : Value} (h : FourZ w B b c0 c1 c2 c3) (hb : b ≠ b') (v : Value) : FourZ (w.setCell ⟨b', o, none⟩ v) B b c0 c1 c2 c3 := by
  obtain ⟨h0, ⟨k0, k1, k2, k3⟩, f0, f1, f2, f3⟩ := h
  exact ⟨h0, ⟨set_other k0 (by omega), set_other k1 (by omega), set_other k2 (by omega), set_other k3 (by omega)⟩, (World.frozen?_setCell _ _ _ _).trans f0, (World.frozen?_setCell _ _ _ _).trans f1, (World.frozen?_setCell _ _ _ _).trans f2, (World.frozen?_setCell _ _ _ _).trans f3⟩
theorem FourZ.setZ {w : World} {B b : Nat} {c0 c1 c2 c3 : Value} (h : FourZ w B b c0 c1 c2 c3) (v0 v1 v2 v3 : Value) :
    FourZ ((((w.setCell ⟨b, 0, none⟩ v0).setCell ⟨b, 1, none⟩ v1).setCell ⟨b, 2, none⟩ v2).setCell ⟨b, 3, none⟩ v3) B b v0 v1 v2 v3 := (((h.put0 v0).put1 v1).put2 v2).put3 v3
theorem below_set4 {w0 w : World} {b : Nat} (hb : Below w0.heap.size w0 w) (h : w0.heap.size ≤ b) (v0 v1 v2 v3 : Value) :
    Below w0.heap.size w0 ((((w.setCell ⟨b, 0, none⟩ v0).setCell ⟨b, 1, none⟩ v1).setCell ⟨b, 2, none⟩ v2).setCell ⟨b, 3, none⟩ v3) :=
  (((hb.setCell (p := ⟨b, 0, none⟩) h _).setCell (p := ⟨b, 1, none⟩) h _).setCell (p := ⟨b, 2, none⟩) h _).setCell (p := ⟨b, 3, none⟩) h _
theorem FourZ.far4 {w : World} {B b b' : Nat} {c0 c1 c2 c3 : Value} (h : FourZ w B b c0 c1 c2 c3) (hb : b ≠ b') (v0 v1 v2 v3 : Value) :
    FourZ ((((w.setCell ⟨b', 0, none⟩ v0).setCell ⟨b', 1, none⟩ v1).setCell ⟨b', 2, none⟩ v2).setCell ⟨b', 3, none⟩ v3) B b c0 c1 c2 c3 := (((h.far hb v0).far hb v1).far hb v2).far hb v3
/-- A store into a block that is new since w. -/
theorem Drawn.setNew {bk : Nat} {w W : World} (h : Drawn bk w W) {b : Nat} (hb : w.heap.size ≤ b) (o : Nat) (u : Value) : Drawn bk w (W.setCell ⟨b, o, none⟩ u) :=
  ⟨h.os, h.tape, h.output, by simpa using h.size, fun k hk hn => (Below.heap_setCell W ⟨b, o, none⟩ u k (by simp only; omega)).trans (h.block k hk hn)⟩
theorem grown_set (W : World) (b o : Nat) (u : Value) : W.grownBy (W.setCell ⟨b, o, none⟩ u) (some b) :=
  ⟨rfl, rfl, rfl, by simp, fun k hk hn => Below.heap_setCell W ⟨b, o, none⟩ u k (by rintro rfl; exact hn rfl)⟩
end Go.Proofs.YthndkkjgjhgdnaaGreatDoor
namespace Go.Proofs.YthndkkjgjhgdnaaGreatDoor
open Go.ChangeShapes Go.WideShapes Go.ChangeAt Go.RowKit
set_option linter.unusedVariables false

/-- The cells of block b. -/
def Bx (w : World) (b : Nat) (vs : List Value) : Prop := ∀ i v, vs[i]? = some v → w.cell? ⟨b, i, none⟩ = some v
theorem Bx.below {w w' : World} {b : Nat} {vs : List Value} (h : Bx w b vs) (hb : Below w.heap.size w w') : Bx w' b vs := fun i v hv => (hb.cell (p := ⟨b, i, none⟩) (dCell_lt (h i v hv))).trans (h i v hv)
theorem Bx.new (w : World) (vs : List Value) (T : TypeId) : Bx (w.alloc (.cells vs.toArray T)) w.heap.size vs := fun i v hv => by
  have := MapKept.heap_alloc w (.cells vs.toArray T)
  simp only [World.cell?, this.1]
  simpa using hv
/-- .. and may be written; from block B on. -/
def BxZ (w : World) (B b : Nat) (vs : List Value) : Prop := B ≤ b ∧ ∀ i v, vs[i]? = some v → w.cell? ⟨b, i, none⟩ = some v ∧ w.frozen? ⟨b, i, none⟩ = false
theorem BxZ.bx {w : World} {B b : Nat} {vs : List Value} (h : BxZ w B b vs) : Bx w b vs := fun i v hv => (h.2 i v hv).1
theorem BxZ.below {w w' : World} {B b : Nat} {vs : List Value} (h : BxZ w B b vs) (hb : Below w.heap.size w w') : BxZ w' B b vs :=
  ⟨h.1, fun i v hv => ⟨(hb.cell (p := ⟨b, i, none⟩) (dCell_lt (h.2 i v hv).1)).trans (h.2 i v hv).1, (hb.frozen (p := ⟨b, i, none⟩) (dCell_lt (h.2 i v hv).1)).trans (h.2 i v hv).2⟩⟩
theorem BxZ.new (w : World) (vs : List Value) (T : TypeId) {B : Nat} (hB : B ≤ w.heap.size) : BxZ (w.alloc (.cells vs.toArray T)) B w.heap.size vs := by
  refine ⟨hB, fun i v hv => ⟨Bx.new w vs T i v hv, ?_⟩⟩
  have := MapKept.heap_alloc w (.cells vs.toArray T)
  simp only [World.frozen?, this.1]
  simp
theorem BxZ.lt {w : World} {B b : Nat} {v : Value} {vs : List Value} (h : BxZ w B b (v :: vs)) : b < w.heap.size := dCell_lt (h.2 0 v rfl).1
theorem BxZ.put {w : World} {B b : Nat} {vs : List Value} (h : BxZ w B b vs) (i : Nat) (u : Value) : BxZ (w.setCell ⟨b, i, none⟩ u) B b (vs.set i u) := by
  refine ⟨h.1, fun j v hv => ?_⟩
  by_cases e : j = i
  · subst e
    have hj : j < vs.length := by
      rcases Nat.lt_or_ge j vs.length with h' | h'
      · exact h'
      · rw [List.getElem?_eq_none (by simpa using h')] at hv
        cases hv
    rw [List.getElem?_set_self hj] at hv
    cases hv
    obtain ⟨h1, h2⟩ := h.2 j vs[j] (List.getElem?_eq_getElem hj)
    exact ⟨World.cell?_setCell_same _ _ _ h1, (World.frozen?_setCell _ _ _ _).trans h2⟩
  · rw [List.getElem?_set_ne (by omega)] at hv
    obtain ⟨h1, h2⟩ := h.2 j v hv
    exact ⟨set_other h1 (by omega), (World.frozen?_setCell _ _ _ _).trans h2⟩
theorem BxZ.far {w : World} {B b b' o : Nat} {vs : List Value} (h : BxZ w B b vs) (hb : b ≠ b') (u : Value) : BxZ (w.setCell ⟨b', o, none⟩ u) B b vs :=
  ⟨h.1, fun i v hv => ⟨set_other (h.2 i v hv).1 (.inl hb), (World.frozen?_setCell _ _ _ _).trans (h.2 i v hv).2⟩⟩
theorem BxZ.drawn {w w' : World} {bk B b : Nat} {vs : List Value} (h : BxZ w B b vs) (hd : Drawn bk w w') (hb : b ≠ bk) : BxZ w' B b vs :=
  ⟨h.1, fun i v hv => ⟨hd.cell (h.2 i v hv).1 hb, (hd.frozen hb (dCell_lt (h.2 i v hv).1)).trans (h.2 i v hv).2⟩⟩
theorem Bx.drawn {w w' : World} {bk b : Nat} {vs : List Value} (h : Bx w b vs) (hd : Drawn bk w w') (hb : b ≠ bk) : Bx w' b vs := fun i v hv => hd.cell (h i v hv) hb
theorem BxZ.grown {w w' : World} {B b : Nat} {vs : List Value} {row : Option Nat} (h : BxZ w B b vs) (g : w.grownBy w' row) (hn : row ≠ some b) : BxZ w' B b vs :=
  ⟨h.1, fun i v hv => by
    have e := g.block b (dCell_lt (h.2 i v hv).1) (fun e => hn e.symm)
    exact ⟨(World.cell?_of_block (a := ⟨b, i, none⟩) e).trans (h.2 i v hv).1, (World.frozen?_of_block (a := ⟨b, i, none⟩) e).trans (h.2 i v hv).2⟩⟩
theorem Bx.grown {w w' : World} {b : Nat} {vs : List Value} {row : Option Nat} (h : Bx w b vs) (g : w.grownBy w' row) (hn : row ≠ some b) : Bx w' b vs := fun i v hv =>
  (World.cell?_of_block (a := ⟨b, i, none⟩) (g.block b (dCell_lt (h i v hv)) (fun e => hn e.symm))).trans (h i v hv)
theorem BxZ.drew' {w : World} {B b : Nat} {vs : List Value} (h : BxZ w B b vs) : BxZ w.drew B b vs := h
end Go.Proofs.YthndkkjgjhgdnaaGreatDoor
namespace Go.Proofs.YthndkkjgjhgdnaaGreatDoor
open Go.ChangeShapes Go.WideShapes Go.ChangeAt Go.RowKit
set_option linter.unusedVariables false

/-- The answer is whether p. -/
def RetB (p : Prop) (e : Ending) : Prop := ∃ b : Bool, e = .returned (.bool b) ∧ (b = true ↔ p)
theorem RetB.yes {p : Prop} (h : p) : RetB p (.returned (.bool true)) := ⟨true, rfl, fun _ => h, fun _ => rfl⟩
theorem RetB.no {p : Prop} (h : ¬ p) : RetB p (.returned (.bool false)) := ⟨false, rfl, (fun h => by cases h), fun h' => absurd h' h⟩
/-- The world is the first one behind some draws. -/
def Drew (w w' : World) : Prop := ∃ n, w' = w.drewN n
theorem Drew.refl (w : World) : Drew w w := ⟨0, rfl⟩
theorem Drew.drewN {w w' : World} (h : Drew w w') (n : Nat) : Drew w (w'.drewN n) := by
  obtain ⟨m, rfl⟩ := h
  exact ⟨_, World.drewN_drewN _ _ _⟩
theorem Drew.cell {w w' : World} (h : Drew w w') (a : Addr) : w'.cell? a = w.cell? a := by
  obtain ⟨m, rfl⟩ := h
  simp
theorem Drew.below {w w' : World} (h : Drew w w') : Below w.heap.size w w' := by
  obtain ⟨m, rfl⟩ := h
  exact below_drewN (Below.refl _ _) _
theorem RetB.of_yes {p : Prop} {e : Ending} (h : RetB p e) (hp : p) : e = .returned (.bool true) := by
  obtain ⟨b, rfl, hb⟩ := h
  rw [hb.2 hp]
theorem RetB.of_no {p : Prop} {e : Ending} (h : RetB p e) (hp : ¬ p) : e = .returned (.bool false) := by
  obtain ⟨b, rfl, hb⟩ := h
  cases b
  · rfl
  · exact absurd (hb.1 rfl) hp
end Go.Proofs.YthndkkjgjhgdnaaGreatDoor
namespace Go.Proofs.YthndkkjgjhgdnaaGreatDoor
open Go.ChangeShapes Go.WideShapes Go.ChangeAt Go.RowKit
set_option linter.unusedVariables false

section
variable {α : Type}
/-- The slice v, of elements of sz cells, reads as ms. -/
def Rw (sz : Nat) (cl : α → List Value) (w : World) (v : Value) (ms : List α) : Prop :=
  ms.length ≤ 9223372036854775807 ∧ ∃ a cap, v = .slice a ms.length cap ∧ (ms.length ≤ cap ∧ cap ≤ 9223372036854775807) ∧ (ms = [] ∨ ∃ b off, a = some ⟨b, off, none⟩ ∧ ∀ i (h : i < ms.length) j u, (cl ms[i])[j]? = some u → w.cell? ⟨b, off + i * sz + j, none⟩ = some u)
/-- .. lies in a block from base on, and may be written. -/
def OwnRw (sz : Nat) (cl : α → List Value) (w : World) (base : Nat) (v : Value) (ms : List α) : Prop :=
  ms.length ≤ 9223372036854775807 ∧ ∃ a cap, v = .slice a ms.length cap ∧ (ms.length ≤ cap ∧ cap ≤ 9223372036854775807) ∧ (ms = [] ∨ ∃ b off, a = some ⟨b, off, none⟩ ∧ base ≤ b ∧ ∀ i (h : i < ms.length) j u, (cl ms[i])[j]? = some u → w.cell? ⟨b, off + i * sz + j, none⟩ = some u ∧ w.frozen? ⟨b, off + i * sz + j, none⟩ = false)
variable {sz : Nat} {cl : α → List Value} {w w' : World} {base base' : Nat} {v : Value} {ms : List α}
theorem orR_of_lt {P : Prop} {k : Nat} (h : ms = [] ∨ P) (hk : k < ms.length) : P := by
  rcases h with rfl | h
  · simp at hk
  · exact h
theorem OwnRw.rw (h : OwnRw sz cl w base v ms) : Rw sz cl w v ms := by
  obtain ⟨h0, a, cap, rfl, hcap, h⟩ := h
  refine ⟨h0, a, cap, rfl, hcap, ?_⟩
  rcases h with h | ⟨b, off, rfl, -, hc⟩
  · exact .inl h
  · exact .inr ⟨b, off, rfl, fun i hi j u hu => (hc i hi j u hu).1⟩
theorem Rw.below (h : Rw sz cl w v ms) (hb : Below w.heap.size w w') : Rw sz cl w' v ms := by
  obtain ⟨h0, a, cap, rfl, hcap, h⟩ := h
  refine ⟨h0, a, cap, rfl, hcap, ?_⟩
  rcases h with h | ⟨b, off, rfl, hc⟩
  · exact .inl h
  · exact .inr ⟨b, off, rfl, fun i hi j u hu => (hb.cell (p := ⟨b, off + i * sz + j, none⟩) (dCell_lt (hc i hi j u hu))).trans (hc i hi j u hu)⟩
theorem OwnRw.below (h : OwnRw sz cl w base v ms) (hb : Below w.heap.size w w') : OwnRw sz cl w' base v ms := by
  obtain ⟨h0, a, cap, rfl, hcap, h⟩ := h
  refine ⟨h0, a, cap, rfl, hcap, ?_⟩
  rcases h with h | ⟨b, off, rfl, hbb, hc⟩
  · exact .inl h
  · exact .inr ⟨b, off, rfl, hbb, fun i hi j u hu => ⟨(hb.cell (p := ⟨b, off + i * sz + j, none⟩) (dCell_lt (hc i hi j u hu).1)).trans (hc i hi j u hu).1, (hb.frozen (p := ⟨b, off + i * sz + j, none⟩) (dCell_lt (hc i hi j u hu).1)).trans (hc i hi j u hu).2⟩⟩
theorem OwnRw.mono (h : OwnRw sz cl w base v ms) (hb : base' ≤ base) : OwnRw sz cl w base' v ms := by
  obtain ⟨h0, a, cap, rfl, hcap, h⟩ := h
  refine ⟨h0, a, cap, rfl, hcap, ?_⟩
  rcases h with h | ⟨b, off, rfl, hbb, hc⟩
  · exact .inl h
  · exact .inr ⟨b, off, rfl, by omega, hc⟩
/-- What lies elsewhere stays as it is when block bk turns. -/
theorem Rw.drawn {bk : Nat} (h : Rw sz cl w v ms) (hd : Drawn bk w w') (hne : ms = [] ∨ blockOf v ≠ bk) : Rw sz cl w' v ms := by
  obtain ⟨h0, a, cap, rfl, hcap, h⟩ := h
  refine ⟨h0, a, cap, rfl, hcap, ?_⟩
  rcases h with h | ⟨b, off, rfl, hc⟩
  · exact .inl h
  · rcases hne with h | hne
    · exact .inl h
    · exact .inr ⟨b, off, rfl, fun i hi j u hu => hd.cell (hc i hi j u hu) hne⟩
theorem Rw.nil (w : World) (a : Option Addr) (cap : Nat) (h : cap ≤ 9223372036854775807) : Rw sz cl w (.slice a 0 cap) ([] : List α) := ⟨by simp, a, cap, rfl, ⟨Nat.zero_le _, h⟩, .inl rfl⟩
theorem OwnRw.nil (w : World) (base : Nat) (a : Option Addr) (cap : Nat) (h : cap ≤ 9223372036854775807) : OwnRw sz cl w base (.slice a 0 cap) ([] : List α) := ⟨by simp, a, cap, rfl, ⟨Nat.zero_le _, h⟩, .inl rfl⟩
/-- The cells of elements. -/
def fcells (cl : α → List Value) (ms : List α) : List Value := ms.flatMap cl
theorem fcells_len (hcl : ∀ a, (cl a).length = sz) (ms : List α) : (fcells cl ms).length = ms.length * sz := by
  induction ms with
  | nil => simp [fcells]
  | cons a l ih =>
    have e : fcells cl (a :: l) = cl a ++ fcells cl l := rfl
    rw [e, List.length_append, ih, hcl, List.length_cons, Nat.add_mul]
    omega
theorem fcells_app (ms ns : List α) : fcells cl (ms ++ ns) = fcells cl ms ++ fcells cl ns := by simp [fcells]
theorem fcells_at (hcl : ∀ a, (cl a).length = sz) : ∀ (ms : List α) (i : Nat) (h : i < ms.length) (j : Nat) (u : Value), (cl ms[i])[j]? = some u → (fcells cl ms)[i * sz + j]? = some u
  | [], i, h, _, _, _ => by simp at h
  | a :: l, i, h, j, u, hu => by
    have e : fcells cl (a :: l) = cl a ++ fcells cl l := rfl
    rw [e]
    cases i with
    | zero =>
      have hj : j < (cl a).length := by
        rcases Nat.lt_or_ge j (cl a).length with h' | h'
        · exact h'
        · simp only [List.getElem_cons_zero] at hu
          rw [List.getElem?_eq_none h'] at hu
          cases hu
      rw [Nat.zero_mul, Nat.zero_add, List.getElem?_append_left hj]
      simpa using hu
    | succ n =>
      have hn : n < l.length := by simpa using h
      have ih := fcells_at hcl l n hn j u (by simpa using hu)
      rw [List.getElem?_append_right (by rw [hcl, Nat.add_mul]; omega), hcl]
      have e2 : (n + 1) * sz + j - sz = n * sz + j := by rw [Nat.add_mul]; omega
      rw [e2]
      exact ih
/-- What append's law leaves is such a slice. -/
theorem ownRw_of_row {T : TypeId} {n : Nat} (hcl : ∀ a, (cl a).length = sz) (hs : 0 < sz) (h : w.ownsRow base T sz v n (fcells cl ms)) : OwnRw sz cl w base v ms := by
  have hl : ms.length = n := by
    have := h.1
    rw [fcells_len hcl] at this
    exact Nat.eq_of_mul_eq_mul_right hs this
  subst hl
  rcases h.2 with ⟨rfl, hn⟩ | ⟨g, cap, cur, rfl, hb, hg, hnc, hcm, hsz, ht⟩
  · have : ms = [] := List.length_eq_zero_iff.1 hn
    subst this
    exact ⟨by simp, none, 0, rfl, by simp, .inl rfl⟩
  · have hm : maxLen = 9223372036854775807 := rfl
    refine ⟨by omega, some ⟨g, 0, none⟩, cap, rfl, by omega, .inr ⟨g, 0, rfl, hb, fun i hi j u hu => ?_⟩⟩
    have hf := fcells_at hcl ms i hi j u hu
    have hj : i * sz + j < (fcells cl ms).length := by
      rcases Nat.lt_or_ge (i * sz + j) (fcells cl ms).length with h' | h'
      · exact h'
      · rw [List.getElem?_eq_none h'] at hf
        cases hf
    rw [fcells_len hcl] at hj
    have hcur : cur.toList[i * sz + j]? = some u := by
      have e : (cur.toList.take (ms.length * sz))[i * sz + j]? = (fcells cl ms)[i * sz + j]? := by rw [ht]
      rw [List.getElem?_take, if_pos hj] at e
      rw [e, hf]
    refine ⟨?_, ?_⟩
    · simp only [World.cell?, hg]
      simpa using hcur
    · simp [World.frozen?, hg]
end
end Go.Proofs.YthndkkjgjhgdnaaGreatDoor
namespace Go.Proofs.YthndkkjgjhgdnaaGreatDoor
open Go.ChangeShapes Go.WideShapes Go.ChangeAt Go.RowKit
set_option linter.unusedVariables false

/-- w' is w but for the blocks lo .. hi - 1 and new ones. -/
structure Wr (lo hi : Nat) (w w' : World) : Prop where
  os : w'.os = w.os
  tape : w'.tape = w.tape
  output : w'.output = w.output
  size : w.heap.size ≤ w'.heap.size
  block : ∀ k, k < w.heap.size → (k < lo ∨ hi ≤ k) → w'.heap[k]? = w.heap[k]?
theorem Wr.of_below {lo hi : Nat} {w w' : World} (h : Below w.heap.size w w') : Wr lo hi w w' := ⟨h.os, h.tape, h.output, h.size, fun k hk _ => h.block k hk⟩
theorem Wr.of_drawn {lo hi bk : Nat} {w w' : World} (h : Drawn bk w w') (h1 : lo ≤ bk) (h2 : bk < hi) : Wr lo hi w w' := ⟨h.os, h.tape, h.output, h.size, fun k hk hn => h.block k hk (by omega)⟩
theorem Wr.refl (lo hi : Nat) (w : World) : Wr lo hi w w := ⟨rfl, rfl, rfl, Nat.le_refl _, fun _ _ _ => rfl⟩
theorem Wr.trans {lo hi : Nat} {a b c : World} (h : Wr lo hi a b) (k : Wr lo hi b c) : Wr lo hi a c :=
  ⟨k.os.trans h.os, k.tape.trans h.tape, k.output.trans h.output, Nat.le_trans h.size k.size, fun j hj hn => (k.block j (Nat.lt_of_lt_of_le hj h.size) hn).trans (h.block j hj hn)⟩
theorem Wr.wider {lo hi lo' hi' : Nat} {a b : World} (h : Wr lo hi a b) (h1 : lo' ≤ lo) (h2 : hi ≤ hi') : Wr lo' hi' a b := ⟨h.os, h.tape, h.output, h.size, fun j hj hn => h.block j hj (by omega)⟩
theorem Wr.below {lo hi B : Nat} {w0 w w' : World} (h : Wr lo hi w w') (hb : Below B w0 w) (hB : B ≤ w.heap.size) (hl : B ≤ lo) : Below B w0 w' :=
  hb.trans ⟨h.os, h.tape, h.output, h.size, fun k hk => h.block k (Nat.lt_of_lt_of_le hk hB) (by omega)⟩
/-- P holds in every world that has the blocks lo .. hi - 1 of w. -/
structure Sits (P : World → Prop) (lo hi : Nat) (w : World) : Prop where
  fit : hi ≤ w.heap.size
  all : ∀ w' : World, (∀ k, lo ≤ k → k < hi → w'.heap[k]? = w.heap[k]?) → P w'
theorem Sits.now {P : World → Prop} {lo hi : Nat} {w : World} (h : Sits P lo hi w) : P w := h.all w fun _ _ _ => rfl
theorem Sits.below {P : World → Prop} {lo hi : Nat} {w w' : World} (h : Sits P lo hi w) (b : Below w.heap.size w w') : Sits P lo hi w' :=
  ⟨Nat.le_trans h.fit b.size, fun W hW => h.all W fun k h1 h2 => (hW k h1 h2).trans (b.block k (by have := h.fit; omega))⟩
theorem Sits.wr {P : World → Prop} {lo hi lo' hi' : Nat} {w w' : World} (h : Sits P lo hi w) (b : Wr lo' hi' w w') (hd : hi ≤ lo' ∨ hi' ≤ lo) : Sits P lo hi w' :=
  ⟨Nat.le_trans h.fit b.size, fun W hW => h.all W fun k h1 h2 => (hW k h1 h2).trans (b.block k (by have := h.fit; omega) (by omega))⟩
theorem Sits.at {P : World → Prop} {lo hi : Nat} {w W : World} (h : Sits P lo hi w) (b : Below w.heap.size w W) : P W := (h.below b).now
theorem Sits.imp {P Q : World → Prop} {lo hi : Nat} {w : World} (h : Sits P lo hi w) (f : ∀ W, P W → Q W) : Sits Q lo hi w := ⟨h.fit, fun W hW => f W (h.all W hW)⟩
theorem Sits.and {P Q : World → Prop} {lo hi lo' hi' : Nat} {w : World} (h : Sits P lo hi w) (k : Sits Q lo' hi' w) : Sits (fun W => P W ∧ Q W) (min lo lo') (max hi hi') w :=
  ⟨by have := h.fit; have := k.fit; omega, fun W hW => ⟨h.all W fun j h1 h2 => hW j (by omega) (by omega), k.all W fun j h1 h2 => hW j (by omega) (by omega)⟩⟩
/-- The cells of a block. -/
def Box (b : Nat) (vs : Array Value) (W : World) : Prop := ∀ i v, vs[i]? = some v → W.cell? ⟨b, i, none⟩ = some v
theorem Sits.box (w : World) (vs : Array Value) (T : TypeId) : Sits (Box w.heap.size vs) w.heap.size (w.heap.size + 1) (w.alloc (.cells vs T)) := by
  refine ⟨by simp, fun W hW i v hv => ?_⟩
  have e := hW w.heap.size (Nat.le_refl _) (by omega)
  have : (w.alloc (.cells vs T)).cell? ⟨w.heap.size, i, none⟩ = some v := by simpa using hv
  rw [← this]
  exact World.cell?_of_block e
theorem Below.step {B : Nat} {w0 w w' : World} (h : Below w0.heap.size w0 w) (k : Below w.heap.size w w') : Below w0.heap.size w0 w' := belowThen h k
end Go.Proofs.YthndkkjgjhgdnaaGreatDoor
namespace Go.Proofs.YthndkkjgjhgdnaaGreatDoor
open Go.ChangeShapes Go.WideShapes Go.ChangeAt Go.RowKit
set_option linter.unusedVariables false

section
variable {α : Type}
/-- What a type of elements is: T its number, TS that of its slices, z its zero value, sz its cells, by its bytes, cl the cells of a model. -/
structure Elem (T TS : TypeId) (z : Value) (sz bytes : Nat) (cl : α → List Value) : Prop where
  under : Tryz.prog.underlying TS = some (.slice T)
  info : (Tryz.prog.info? T).map (fun i => (i.zero, i.size, i.bytes)) = some (some z, sz, bytes)
  zcells : z.cells.size = sz
  pos : 0 < sz
  len : ∀ a, (cl a).length = sz
  one : ∀ a, ∀ u ∈ cl a, u.oneCell' = true
variable {T TS : TypeId} {z : Value} {sz bytes : Nat} {cl : α → List Value} {w w' : World} {base : Nat} {v : Value} {ms ns : List α}
theorem fcells_one (E : Elem T TS z sz bytes cl) (ms : List α) : ∀ u ∈ fcells cl ms, u.oneCell' = true := by
  intro u hu
  obtain ⟨a, -, h⟩ := List.mem_flatMap.1 hu
  exact E.one a u h
theorem addr_add (b o j : Nat) : (⟨b, o, none⟩ : Addr).add j = ⟨b, o + j, none⟩ := by unfold Addr.add; split <;> simp_all
theorem run_appR (E : Elem T TS z sz bytes cl) (ty : TypeId) (hown : w.ownsRow base T sz v ms.length (fcells cl ms)) (sv : Value) (hsrc : Rw sz cl w sv ns)
    (hb : (ms.length + ns.length) * bytes ≤ 140737488355328) (hl : ms.length + ns.length ≤ 9223372036854775807) (hbase : base ≤ w.heap.size) :
    ∃ v' w', (Builtin.append_ #[TS, TS] ty #[v, sv]).run Tryz.prog w = .ok v' w' ∧ w'.ownsRow base T sz v' (ms ++ ns).length (fcells cl (ms ++ ns)) ∧ w.grownBy w' v.ownBlock := by
  obtain ⟨i0, hi, hz0, hz1, hz2⟩ := info_parts E.info
  have hm : maxLen = 9223372036854775807 := rfl
  obtain ⟨h0, a, cap, rfl, hcap, h⟩ := hsrc
  have go : ∀ ad : Addr, a = some ad → (∀ j u, (fcells cl ns)[j]? = some u → w.cell? (ad.add j) = some u) → ∃ v' w', (Builtin.append_ #[TS, TS] ty #[v, .slice a ns.length cap]).run Tryz.prog w = .ok v' w' ∧ w'.ownsRow base T sz v' (ms ++ ns).length (fcells cl (ms ++ ns)) ∧ w.grownBy w' v.ownBlock := by
    rintro ad rfl hn
    obtain ⟨v', w', hrun, h1, h2, _⟩ := run_append_own (P := Tryz.prog) w base TS ty T i0 z sz bytes E.under hi hz0 hz1 hz2 E.zcells E.pos v ms.length (fcells cl ms) hown ad ns.length cap (fcells cl ns) (fcells_len E.len ns) hn (fcells_one E ns) (by omega) hb hbase
    exact ⟨v', w', hrun, by rw [fcells_app, List.length_append]; exact h1, h2⟩
  rcases h with h | ⟨b, off, rfl, hc⟩
  · subst h
    cases a with
    | none =>
      refine ⟨v, w, ?_, by simpa using hown, ⟨rfl, rfl, rfl, Nat.le_refl _, fun _ _ _ => rfl⟩⟩
      rcases hown.2 with ⟨rfl, h1⟩ | ⟨g, cap', cur, rfl, _, _, hnc, _⟩
      · simp [Builtin.append_, run_underlying E.under, sizeOf, typeInfo, hi, Builtin.lenOf, Builtin.firstCells]
      · simp [Builtin.append_, run_underlying E.under, sizeOf, typeInfo, hi, Builtin.lenOf, Builtin.firstCells, hnc, storeCells]
    | some ad => exact go ad rfl (fun j u hu => by simp [fcells] at hu)
  · refine go _ rfl fun j u hu => ?_
    have hj : j < ns.length * sz := by
      rcases Nat.lt_or_ge j (ns.length * sz) with h | h
      · exact h
      · rw [List.getElem?_eq_none (by rw [fcells_len E.len]; exact h)] at hu
        cases hu
    have hp := E.pos
    have hi' : j / sz < ns.length := Nat.div_lt_of_lt_mul (by rw [Nat.mul_comm]; exact hj)
    have hjm : j % sz < (cl ns[j / sz]).length := by rw [E.len]; exact Nat.mod_lt _ hp
    obtain ⟨u', hu'⟩ : ∃ u', (cl ns[j / sz])[j % sz]? = some u' := ⟨_, List.getElem?_eq_getElem hjm⟩
    have e1 := fcells_at E.len ns (j / sz) hi' (j % sz) u' hu'
    have e2 : j / sz * sz + j % sz = j := by rw [Nat.mul_comm]; exact Nat.div_add_mod j sz
    rw [e2, hu] at e1
    cases e1
    have := hc (j / sz) hi' (j % sz) u hu'
    rw [addr_add]
    rw [Nat.add_assoc, e2] at this
    exact this
variable {ops : Array Oper} {rest : List Oper} {o : Oper} {a : Act} {Q : Exit → Act → World → Prop}
/-- append at the operation. -/
theorem wp_appR (E : Elem T TS z sz bytes cl) (hgd : o.guard = none) (s x : Operand) (ho : o.op = .call { callee := .builtin .append, args := #[s, x], argTypes := #[TS, TS] })
    (base : Nat) (v : Value) (ms : List α) (hs : a.eval s = v) (hown : w.ownsRow base T sz v ms.length (fcells cl ms)) (sv : Value) (ns : List α) (hx : a.eval x = sv) (hsrc : Rw sz cl w sv ns)
    (hb : (ms.length + ns.length) * bytes ≤ 140737488355328) (hl : ms.length + ns.length ≤ 9223372036854775807) (hbase : base ≤ w.heap.size)
    (h : ∀ v' w', w'.ownsRow base T sz v' (ms ++ ns).length (fcells cl (ms ++ ns)) → w.grownBy w' v.ownBlock → wpList Tryz.prog ops Q rest (a.put o.dst v') w') : wpList Tryz.prog ops Q (o :: rest) a w := by
  refine wpList_plain hgd fun K' hK' => ?_
  obtain ⟨v', w', hrun, h1, h2⟩ := run_appR E o.type hown sv hsrc hb hl hbase
  unfold Oper.wp
  simp [execOp, ho, resolve, invoke, builtin, hs, hx, hrun, Result.andThen]
  exact hK' _ _ (h v' w' h1 h2)
/-- append as one step of a region that draws. -/
theorem step_appR {K : Act → World → Prop} {F : Prop} (E : Elem T TS z sz bytes cl) (hg : o.guard = none) (s x : Operand) (hop : o.op = .call { callee := .builtin .append, args := #[s, x], argTypes := #[TS, TS] })
    (base : Nat) (v : Value) (ms : List α) (hs : a.eval s = v) (hown : w.ownsRow base T sz v ms.length (fcells cl ms)) (sv : Value) (ns : List α) (hx : a.eval x = sv) (hsrc : Rw sz cl w sv ns)
    (hb : (ms.length + ns.length) * bytes ≤ 140737488355328) (hl : ms.length + ns.length ≤ 9223372036854775807) (hbase : base ≤ w.heap.size)
    (h : ∀ v' w', w'.ownsRow base T sz v' (ms ++ ns).length (fcells cl (ms ++ ns)) → w.grownBy w' v.ownBlock → K (a.put o.dst v') w') :
    if Region.wanted o (yielded ops a.tmps) = true then Oper.wp Tryz.prog o a w K Q else F := by
  have hw : Region.wanted o (yielded ops a.tmps) = true := by simp [Region.wanted, hg]
  rw [if_pos hw]
  obtain ⟨v', w', hrun, h1, h2⟩ := run_appR E o.type hown sv hsrc hb hl hbase
  have h3 := h v' w' h1 h2
  unfold Oper.wp
  simp [execOp, hop, resolve, invoke, builtin, hs, hx, hrun, Result.andThen]
  exact h3
theorem rowR_below {T : TypeId} {n : Nat} {l : List Value} (h : w.ownsRow base T sz v n l) (hb : Below w.heap.size w w') : w'.ownsRow base T sz v n l :=
  h.kept (row := none) ⟨hb.os, hb.tape, hb.output, hb.size, fun k hk _ => hb.block k hk⟩ (by cases v.ownBlock <;> simp)
theorem rowR_mono {T : TypeId} {n base' : Nat} {l : List Value} (h : w.ownsRow base T sz v n l) (hB : base' ≤ base) : w.ownsRow base' T sz v n l := by
  refine ⟨h.1, ?_⟩
  rcases h.2 with h0 | ⟨g, cap, cur, h1, h2, h3⟩
  · exact .inl h0
  · exact .inr ⟨g, cap, cur, h1, by omega, h3⟩
theorem rowR_slice {T : TypeId} {n : Nat} {l : List Value} (h : w.ownsRow base T sz v n l) : ∃ a c, v = .slice a n c := by
  rcases h.2 with ⟨rfl, h0⟩ | ⟨g, cap, cur, rfl, _⟩
  · exact ⟨none, 0, by rw [h0]⟩
  · exact ⟨_, _, rfl⟩
theorem rowR_len (E : Elem T TS z sz bytes cl) {n : Nat} (h : w.ownsRow base T sz v n (fcells cl ms)) : w.ownsRow base T sz v ms.length (fcells cl ms) := by
  have hl : ms.length = n := by
    have := h.1
    rw [fcells_len E.len] at this
    exact Nat.eq_of_mul_eq_mul_right E.pos this
  rw [hl]; exact h
theorem rowR_none (E : Elem T TS z sz bytes cl) (w : World) (base : Nat) : w.ownsRow base T sz (.slice none 0 0) ([] : List α).length (fcells cl []) := World.ownsRow_nil _ _ _ _
theorem rowR_made (E : Elem T TS z sz bytes cl) (w : World) (base : Nat) (h : base ≤ w.heap.size) : (w.alloc (.cells #[] T)).ownsRow base T sz (.slice (some ⟨w.heap.size, 0, none⟩) 0 0) ([] : List α).length (fcells cl []) := World.ownsRow_made w #[] 0 h (by decide) (by simp)
end
end Go.Proofs.YthndkkjgjhgdnaaGreatDoor
namespace Go.Proofs.YthndkkjgjhgdnaaGreatDoor
open Go.ChangeShapes Go.WideShapes Go.ChangeAt Go.RowKit
set_option linter.unusedVariables false
set_option linter.unusedSimpArgs false

/-- The block that an append to v may write. -/
def touch : Value → Option Nat
  | .slice (some ad) _ cap => if cap = 0 then none else some ad.block
  | _ => none
section
variable {α : Type}
/-- v reads as ms, and may be appended to; what an append may write lies from base on. -/
def ApR (T : TypeId) (sz : Nat) (cl : α → List Value) (w : World) (base : Nat) (v : Value) (ms : List α) : Prop :=
  (ms = [] ∧ ∃ a, v = .slice a 0 0) ∨ w.ownsRow base T sz v ms.length (fcells cl ms)
variable {T TS : TypeId} {z : Value} {sz bytes : Nat} {cl : α → List Value} {w w' : World} {base base' : Nat} {v : Value} {ms ns : List α}
theorem ApR.own (E : Elem T TS z sz bytes cl) (h : ApR T sz cl w base v ms) : OwnRw sz cl w base v ms := by
  rcases h with ⟨rfl, a, rfl⟩ | h
  · exact OwnRw.nil _ _ _ _ (by omega)
  · exact ownRw_of_row E.len E.pos h
theorem ApR.mono (h : ApR T sz cl w base v ms) (hb : base' ≤ base) : ApR T sz cl w base' v ms := by
  rcases h with h | h
  · exact .inl h
  · exact .inr (rowR_mono h hb)
theorem ApR.below (h : ApR T sz cl w base v ms) (hb : Below w.heap.size w w') : ApR T sz cl w' base v ms := by
  rcases h with h | h
  · exact .inl h
  · exact .inr (rowR_below h hb)
theorem ApR.slice (E : Elem T TS z sz bytes cl) (h : ApR T sz cl w base v ms) : ∃ a c, v = .slice a ms.length c := by
  rcases h with ⟨rfl, a, rfl⟩ | h
  · exact ⟨a, 0, rfl⟩
  · exact rowR_slice h
/-- What touches is from base on, and in the world. -/
theorem ApR.touched (E : Elem T TS z sz bytes cl) (h : ApR T sz cl w base v ms) {k : Nat} (hk : touch v = some k) : base ≤ k ∧ k < w.heap.size := by
  rcases h with ⟨rfl, a, rfl⟩ | h
  · cases a <;> simp [touch] at hk
  · rcases h.2 with ⟨rfl, h0⟩ | ⟨g, cap, cur, rfl, hb, hg, -⟩
    · simp [touch] at hk
    · by_cases hc : cap = 0
      · simp [touch, hc] at hk
      · simp [touch, hc] at hk
        subst hk
        exact ⟨hb, (Array.getElem?_eq_some_iff.1 hg).1⟩
theorem ApR.kept (E : Elem T TS z sz bytes cl) (h : ApR T sz cl w base v ms) {row : Option Nat} (hg : w.grownBy w' row) (hne : row = none ∨ touch v ≠ row) : ApR T sz cl w' base v ms := by
  rcases h with h | h
  · exact .inl h
  · by_cases ht : touch v = none
    · rcases h.2 with ⟨rfl, h0⟩ | ⟨g, cap, cur, rfl, hb, hgg, hnc, hcm, hcs, htk⟩
      · have : ms = [] := List.length_eq_zero_iff.1 h0
        exact .inl ⟨this, none, rfl⟩
      · have hc : cap = 0 := by
          rcases Nat.eq_zero_or_pos cap with h1 | h1
          · exact h1
          · have : cap ≠ 0 := by omega
            simp [touch, this] at ht
        subst hc
        have h0 : ms.length = 0 := by omega
        exact .inl ⟨List.length_eq_zero_iff.1 h0, some ⟨g, 0, none⟩, by rw [h0]⟩
    · refine .inr (h.kept hg ?_)
      rcases h.2 with ⟨rfl, h0⟩ | ⟨g, cap, cur, rfl, hb, hgg, hnc, hcm, hcs, htk⟩
      · exact .inl rfl
      · right
        have hc : cap ≠ 0 := fun e => ht (by simp [touch, e])
        rcases hne with rfl | hne
        · simp [Value.ownBlock]
        · simpa [touch, hc, Value.ownBlock] using hne
/-- The cells of what is appended. -/
theorem rw_news (E : Elem T TS z sz bytes cl) {b off : Nat} (hc : ∀ i (h : i < ns.length) j u, (cl ns[i])[j]? = some u → w.cell? ⟨b, off + i * sz + j, none⟩ = some u) : ∀ j u, (fcells cl ns)[j]? = some u → w.cell? ((⟨b, off, none⟩ : Addr).add j) = some u := by
  intro j u hu
  have hj : j < ns.length * sz := by
    rcases Nat.lt_or_ge j (ns.length * sz) with h | h
    · exact h
    · rw [List.getElem?_eq_none (by rw [fcells_len E.len]; exact h)] at hu
      cases hu
  have hp := E.pos
  have hi' : j / sz < ns.length := Nat.div_lt_of_lt_mul (by rw [Nat.mul_comm]; exact hj)
  have hjm : j % sz < (cl ns[j / sz]).length := by rw [E.len]; exact Nat.mod_lt _ hp
  obtain ⟨u', hu'⟩ : ∃ u', (cl ns[j / sz])[j % sz]? = some u' := ⟨_, List.getElem?_eq_getElem hjm⟩
  have e1 := fcells_at E.len ns (j / sz) hi' (j % sz) u' hu'
  have e2 : j / sz * sz + j % sz = j := by rw [Nat.mul_comm]; exact Nat.div_add_mod j sz
  rw [e2, hu] at e1
  cases e1
  have := hc (j / sz) hi' (j % sz) u hu'
  rw [addr_add]
  rw [Nat.add_assoc, e2] at this
  exact this
/-- append, whatever is appended to what may be appended to. -/
theorem run_apR (E : Elem T TS z sz bytes cl) (ty : TypeId) (h : ApR T sz cl w base v ms) (sv : Value) (hsrc : Rw sz cl w sv ns)
    (hb : (ms.length + ns.length) * bytes ≤ 140737488355328) (hl : ms.length + ns.length ≤ 9223372036854775807) (hbase : base ≤ w.heap.size) :
    ∃ v' w', (Builtin.append_ #[TS, TS] ty #[v, sv]).run Tryz.prog w = .ok v' w' ∧ ApR T sz cl w' base v' (ms ++ ns) ∧ w.grownBy w' (touch v) ∧ (touch v' = touch v ∨ ∀ k, touch v' = some k → w.heap.size ≤ k) := by
  obtain ⟨i0, hi, hz0, hz1, hz2⟩ := info_parts E.info
  have hm : maxLen = 9223372036854775807 := rfl
  have hsrc' := hsrc
  obtain ⟨h0, a, cap, rfl, hcap, hs⟩ := hsrc'
  by_cases hns : ns = []
  · subst hns
    refine ⟨v, w, ?_, by simpa using h, ⟨rfl, rfl, rfl, Nat.le_refl _, fun _ _ _ => rfl⟩, .inl rfl⟩
    have hf : ∀ w : World, (Builtin.firstCells i0.size 0 (.slice a 0 cap)).run Tryz.prog w = .ok #[] w := fun w => by
      cases a <;> simp [Builtin.firstCells, loadCells, loadCellsFrom]
    rcases h with ⟨rfl, a0, rfl⟩ | h
    · cases a0 <;> cases a <;> simp [Builtin.append_, run_underlying E.under, sizeOf, typeInfo, hi, Builtin.lenOf, Builtin.firstCells, storeCells, loadCells, loadCellsFrom]
    · rcases h.2 with ⟨rfl, h1⟩ | ⟨g, cap', cur, rfl, _, _, hnc, _⟩
      · cases a <;> simp [Builtin.append_, run_underlying E.under, sizeOf, typeInfo, hi, Builtin.lenOf, Builtin.firstCells, storeCells, loadCells, loadCellsFrom]
      · cases a <;> simp [Builtin.append_, run_underlying E.under, sizeOf, typeInfo, hi, Builtin.lenOf, Builtin.firstCells, hnc, storeCells, loadCells, loadCellsFrom]
  · obtain ⟨b, off, rfl, hc⟩ : ∃ b off, a = some ⟨b, off, none⟩ ∧ ∀ i (h : i < ns.length) j u, (cl ns[i])[j]? = some u → w.cell? ⟨b, off + i * sz + j, none⟩ = some u := by
      rcases hs with h | h
      · exact absurd h hns
      · exact h
    have hnews := rw_news E hc
    have hpos : 0 < ns.length := List.length_pos_iff.2 hns
    -- the world grows: a new row
    have fin : ∀ v' w', (Builtin.append_ #[TS, TS] ty #[v, .slice (some ⟨b, off, none⟩) ns.length cap]).run Tryz.prog w = .ok v' w' → w'.ownsRow w.heap.size T sz v' (ms ++ ns).length (fcells cl (ms ++ ns)) → w.grownBy w' none → _ := fun v' w' hrun h1 h2 =>
      (show ∃ v' w', (Builtin.append_ #[TS, TS] ty #[v, .slice (some ⟨b, off, none⟩) ns.length cap]).run Tryz.prog w = .ok v' w' ∧ ApR T sz cl w' base v' (ms ++ ns) ∧ w.grownBy w' (touch v) ∧ (touch v' = touch v ∨ ∀ k, touch v' = some k → w.heap.size ≤ k) from
        ⟨v', w', hrun, (ApR.mono (.inr h1) hbase), h2.but _, .inr fun k hk => (ApR.touched E (.inr h1) hk).1⟩)
    have nilc : v = .slice none 0 0 → ms = [] → ∃ v' w', (Builtin.append_ #[TS, TS] ty #[v, .slice (some ⟨b, off, none⟩) ns.length cap]).run Tryz.prog w = .ok v' w' ∧ ApR T sz cl w' base v' (ms ++ ns) ∧ w.grownBy w' (touch v) ∧ (touch v' = touch v ∨ ∀ k, touch v' = some k → w.heap.size ≤ k) := by
      rintro rfl rfl
      obtain ⟨v', w', hrun, h1, h2⟩ := run_appR E (ms := []) (base := w.heap.size) ty (rowR_none E w w.heap.size) _ hsrc hb hl (Nat.le_refl _)
      exact fin v' w' hrun h1 (by simpa [Value.ownBlock] using h2)
    have growc : ∀ (g : Addr) (c0 : Nat), v = .slice (some g) ms.length c0 → c0 < ms.length + ns.length → (∀ j u, (fcells cl ms)[j]? = some u → w.cell? (g.add j) = some u) → ∃ v' w', (Builtin.append_ #[TS, TS] ty #[v, .slice (some ⟨b, off, none⟩) ns.length cap]).run Tryz.prog w = .ok v' w' ∧ ApR T sz cl w' base v' (ms ++ ns) ∧ w.grownBy w' (touch v) ∧ (touch v' = touch v ∨ ∀ k, touch v' = some k → w.heap.size ≤ k) := by
      rintro g c0 rfl hg hold
      obtain ⟨v', w', hrun, r1, r2⟩ := run_append_arg_grows (P := Tryz.prog) w TS ty T i0 z sz bytes E.under hi hz0 hz1 hz2 E.zcells E.pos g ms.length c0 (fcells cl ms) (fcells_len E.len ms) hold ⟨b, off, none⟩ ns.length cap (fcells cl ns) (fcells_len E.len ns) hnews hg (by omega) hb
      exact fin v' w' hrun (by rw [fcells_app, List.length_append]; exact r1) r2
    rcases h with ⟨rfl, a0, rfl⟩ | h
    · cases a0 with
      | none => exact nilc rfl rfl
      | some g => exact growc g 0 rfl (by simpa using hpos) (fun j u hu => by simp [fcells] at hu)
    · rcases h.2 with ⟨rfl, hn0⟩ | ⟨g, c0, cur, rfl, hbg, hg, hnc, hcm, hcs, htake⟩
      · exact nilc rfl (List.length_eq_zero_iff.1 hn0)
      · by_cases hroom : ms.length + ns.length ≤ c0
        · obtain ⟨v', w', hrun, h1, h2⟩ := run_appR E ty h _ hsrc hb hl hbase
          have hfit : ms.length * i0.size + (fcells cl ns).length ≤ cur.size := by rw [fcells_len E.len, hz1, hcs, ← Nat.add_mul]; exact Nat.mul_le_mul_right _ hroom
          have hr := run_append_room (P := Tryz.prog) w TS ty T i0 E.under hi g ms.length c0 cur hg ⟨b, off, none⟩ ns.length cap (fcells cl ns) (by rw [hz1]; exact fcells_len E.len ns) hnews (fcells_one E ns) hroom hfit
          have hc0 : ¬ c0 = 0 := by omega
          have hv : v' = .slice (some ⟨g, 0, none⟩) (ms.length + ns.length) c0 := by
            rw [hr] at hrun
            cases hrun
            rfl
          subst hv
          exact ⟨_, w', hrun, .inr h1, by simpa [touch, hc0, Value.ownBlock] using h2, .inl (by simp [touch, hc0])⟩
        · exact growc ⟨g, 0, none⟩ c0 rfl (by omega) (h.cells (g := g) rfl)
variable {ops : Array Oper} {rest : List Oper} {o : Oper} {a : Act} {Q : Exit → Act → World → Prop}
/-- append at the operation. -/
theorem wp_apR (E : Elem T TS z sz bytes cl) (hgd : o.guard = none) (s x : Operand) (ho : o.op = .call { callee := .builtin .append, args := #[s, x], argTypes := #[TS, TS] })
    (base : Nat) (v : Value) (ms : List α) (hs : a.eval s = v) (hown : ApR T sz cl w base v ms) (sv : Value) (ns : List α) (hx : a.eval x = sv) (hsrc : Rw sz cl w sv ns)
    (hb : (ms.length + ns.length) * bytes ≤ 140737488355328) (hl : ms.length + ns.length ≤ 9223372036854775807) (hbase : base ≤ w.heap.size)
    (h : ∀ v' w', ApR T sz cl w' base v' (ms ++ ns) → w.grownBy w' (touch v) → (touch v' = touch v ∨ ∀ k, touch v' = some k → w.heap.size ≤ k) → wpList Tryz.prog ops Q rest (a.put o.dst v') w') : wpList Tryz.prog ops Q (o :: rest) a w := by
  refine wpList_plain hgd fun K' hK' => ?_
  obtain ⟨v', w', hrun, h1, h2, h3⟩ := run_apR E o.type hown sv hsrc hb hl hbase
  unfold Oper.wp
  simp [execOp, ho, resolve, invoke, builtin, hs, hx, hrun, Result.andThen]
  exact hK' _ _ (h v' w' h1 h2 h3)
/-- append as one step of a region that draws. -/
theorem step_apR {K : Act → World → Prop} {F : Prop} (E : Elem T TS z sz bytes cl) (hg : o.guard = none) (s x : Operand) (hop : o.op = .call { callee := .builtin .append, args := #[s, x], argTypes := #[TS, TS] })
    (base : Nat) (v : Value) (ms : List α) (hs : a.eval s = v) (hown : ApR T sz cl w base v ms) (sv : Value) (ns : List α) (hx : a.eval x = sv) (hsrc : Rw sz cl w sv ns)
    (hb : (ms.length + ns.length) * bytes ≤ 140737488355328) (hl : ms.length + ns.length ≤ 9223372036854775807) (hbase : base ≤ w.heap.size)
    (h : ∀ v' w', ApR T sz cl w' base v' (ms ++ ns) → w.grownBy w' (touch v) → (touch v' = touch v ∨ ∀ k, touch v' = some k → w.heap.size ≤ k) → K (a.put o.dst v') w') :
    if Region.wanted o (yielded ops a.tmps) = true then Oper.wp Tryz.prog o a w K Q else F := by
  have hw : Region.wanted o (yielded ops a.tmps) = true := by simp [Region.wanted, hg]
  rw [if_pos hw]
  obtain ⟨v', w', hrun, h1, h2, h3⟩ := run_apR E o.type hown sv hsrc hb hl hbase
  have h4 := h v' w' h1 h2 h3
  unfold Oper.wp
  simp [execOp, hop, resolve, invoke, builtin, hs, hx, hrun, Result.andThen]
  exact h4
/-- append to a slice of no capacity: a copy in new memory. -/
theorem run_cpR (E : Elem T TS z sz bytes cl) (ty : TypeId) (a0 : Option Addr) (sv : Value) (hsrc : Rw sz cl w sv ns) (hb : ns.length * bytes ≤ 140737488355328) :
    ∃ v' w', (Builtin.append_ #[TS, TS] ty #[.slice a0 0 0, sv]).run Tryz.prog w = .ok v' w' ∧ ApR T sz cl w' w.heap.size v' ns ∧ Below w.heap.size w w' := by
  obtain ⟨v', w', h1, h2, h3, -⟩ := run_apR E (ms := []) (base := w.heap.size) ty (.inl ⟨rfl, a0, rfl⟩) sv hsrc (by simpa using hb) (by have := hsrc.1; simpa using this) (Nat.le_refl _)
  have ht : touch (.slice a0 0 0) = none := by cases a0 <;> simp [touch]
  rw [ht] at h3
  exact ⟨v', w', h1, by simpa using h2, ⟨h3.os, h3.tape, h3.output, h3.size, fun k hk => h3.block k hk (by simp)⟩⟩
theorem step_cpR {K : Act → World → Prop} {F : Prop} (E : Elem T TS z sz bytes cl) (hg : o.guard = none) (s x : Operand) (hop : o.op = .call { callee := .builtin .append, args := #[s, x], argTypes := #[TS, TS] })
    (a0 : Option Addr) (hs : a.eval s = .slice a0 0 0) (sv : Value) (ns : List α) (hx : a.eval x = sv) (hsrc : Rw sz cl w sv ns) (hb : ns.length * bytes ≤ 140737488355328)
    (h : ∀ v' w', ApR T sz cl w' w.heap.size v' ns → Below w.heap.size w w' → K (a.put o.dst v') w') :
    if Region.wanted o (yielded ops a.tmps) = true then Oper.wp Tryz.prog o a w K Q else F := by
  have hw : Region.wanted o (yielded ops a.tmps) = true := by simp [Region.wanted, hg]
  rw [if_pos hw]
  obtain ⟨v', w', hrun, h1, h2⟩ := run_cpR E o.type a0 sv hsrc hb
  have h4 := h v' w' h1 h2
  unfold Oper.wp
  simp [execOp, hop, resolve, invoke, builtin, hs, hx, hrun, Result.andThen]
  exact h4
theorem wp_cpR (E : Elem T TS z sz bytes cl) (hgd : o.guard = none) (s x : Operand) (ho : o.op = .call { callee := .builtin .append, args := #[s, x], argTypes := #[TS, TS] })
    (a0 : Option Addr) (hs : a.eval s = .slice a0 0 0) (sv : Value) (ns : List α) (hx : a.eval x = sv) (hsrc : Rw sz cl w sv ns) (hb : ns.length * bytes ≤ 140737488355328)
    (h : ∀ v' w', ApR T sz cl w' w.heap.size v' ns → Below w.heap.size w w' → wpList Tryz.prog ops Q rest (a.put o.dst v') w') : wpList Tryz.prog ops Q (o :: rest) a w := by
  refine wpList_plain hgd fun K' hK' => ?_
  obtain ⟨v', w', hrun, h1, h2⟩ := run_cpR E o.type a0 sv hsrc hb
  unfold Oper.wp
  simp [execOp, ho, resolve, invoke, builtin, hs, hx, hrun, Result.andThen]
  exact hK' _ _ (h v' w' h1 h2)
/-- Two rows that were made one behind the other touch different blocks. -/
theorem touch_ne (E : Elem T TS z sz bytes cl) {u : Value} {ls : List α} {w1 : World} {base1 : Nat} (h : ApR T sz cl w1 base1 u ls) (k : ApR T sz cl w base v ms) (hb : w1.heap.size ≤ base) : touch u = none ∨ touch u ≠ touch v := by
  cases hu : touch u with
  | none => exact .inl rfl
  | some i =>
    right
    intro e
    have h1 := (h.touched E hu).2
    have h2 := (k.touched E e.symm).1
    omega
/-- What is written elsewhere. -/
theorem ApR.far (E : Elem T TS z sz bytes cl) (h : ApR T sz cl w base v ms) {b o' : Nat} (hb : b < base) (u : Value) : ApR T sz cl (w.setCell ⟨b, o', none⟩ u) base v ms := by
  refine h.kept E (grown_set w b o' u) (.inr fun e => ?_)
  have := (h.touched E e).1
  omega
theorem ApR.put (E : Elem T TS z sz bytes cl) (h : ApR T sz cl w base v ms) {b o' : Nat} (hb : touch v ≠ some b) (u : Value) : ApR T sz cl (w.setCell ⟨b, o', none⟩ u) base v ms := h.kept E (grown_set w b o' u) (.inr hb)
/-- What an append leaves of a world w0 that it stands behind: the row, the frame from B on, and a block of a record below base. -/
theorem apR_after (E : Elem T TS z sz bytes cl) {w0 W : World} {B : Nat} {wB : World} {ls : List α} (h : ApR T sz cl W base v ms) (hbW : Below B wB W) (hB : B ≤ W.heap.size) (hBb : B ≤ base) (hg : W.grownBy w' (touch v)) : Below B wB w' :=
  hbW.grown hg hB (fun k hk => by have := (h.touched E hk).1; omega)
end
end Go.Proofs.YthndkkjgjhgdnaaGreatDoor
namespace Go.Proofs.YthndkkjgjhgdnaaGreatDoor
open Go.ChangeShapes Go.WideShapes Go.ChangeAt Go.RowKit
set_option linter.unusedVariables false

/-- What is left of a measure. -/
def lft (left : Int) (n : Nat) : Int := if left < (n : Int) then -1 else left - (n : Int)
theorem lft_no {left : Int} {n : Nat} (h : left < (n : Int)) : lft left n = -1 := if_pos h
theorem lft_yes {left : Int} {n : Nat} (h : ¬ left < (n : Int)) : lft left n = left - (n : Int) := if_neg h
/-- Plain values among a law's arguments. -/
def okInt (m : Int) : Prop := -9223372036854775808 ≤ m ∧ m ≤ 9223372036854775807
def IsInt (v : Value) (m : Int) (w : World) : Prop := v = .int .i64 m ∧ okInt m
def okStr (m : ByteArray) : Prop := m.size ≤ 9223372036854775807
def IsStr (v : Value) (m : ByteArray) (w : World) : Prop := v = .string m ∧ okStr m
def okBool (m : Bool) : Prop := True
def IsBool (v : Value) (m : Bool) (w : World) : Prop := v = .bool m ∧ okBool m
end Go.Proofs.YthndkkjgjhgdnaaGreatDoor
