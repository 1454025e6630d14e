/- The cursor of a draw: what l1New makes, what l1Byte leaves; each draw writes into the cursor's own block alone. -/
import Derived.Test.YtognmmmplmideaaRows
import Derived.Handy
import Derived.Outline
import Derived.Deep.RegionWith
import Derived.Deep.QuietTactic
import Derived.BigQuiet
import Derived.WalkSmall
import Derived.Laws.Bits128
namespace Go.Proofs.Ytognmmmplmideaa
open Go.ChangeShapes Go.WideShapes Go.ChangeAt Go.RowKit
set_option linter.unusedVariables false

theorem dHide {p : Prop} (h : p) : Hid p := h
theorem dUnhide {p : Prop} (h : Hid p) : p := h
theorem dCell_lt {w : World} {b o : Nat} {v : Value} (h : w.cell? ⟨b, o, none⟩ = some v) : b < w.heap.size := by
  rcases Nat.lt_or_ge b w.heap.size with h1 | h1
  · exact h1
  · have : w.heap[b]? = none := by simp [h1]
    simp [World.cell?, this] at h
/-- Bytes that can be read: 'len' of them at a. -/
def Row8 (w : World) (a : Option Addr) (len : Nat) : Prop :=
  len ≤ 9223372036854775807 ∧ (len = 0 ∨ ∃ b off, a = some ⟨b, off, none⟩ ∧ ∀ i : Nat, i < len → ∃ v : Int, 0 ≤ v ∧ v ≤ 255 ∧ w.cell? ⟨b, off + i, none⟩ = some (.int .u8 v))
/-- The cursor in block bk. -/
def Cur (w : World) (bk : Nat) : Prop :=
  ∃ (a : Option Addr) (len cap i : Nat) (h : Int), Row8 w a len ∧ (∀ b off, a = some ⟨b, off, none⟩ → 0 < len → b < bk) ∧ i ≤ len ∧
    w.cell? ⟨bk, 0, none⟩ = some (.slice a len cap) ∧ w.cell? ⟨bk, 1, none⟩ = some (.int .i64 i) ∧ w.cell? ⟨bk, 2, none⟩ = some (.int .i64 h) ∧
    w.frozen? ⟨bk, 1, none⟩ = false ∧ w.frozen? ⟨bk, 2, none⟩ = false
/-- Of what was there, nothing but block bk has turned. -/
structure Drawn (bk : Nat) (w w' : World) : Prop where
  os : w'.os = w.os
  tape : w'.tape = w.tape
  output : w'.output = w.output
  size : w.heap.size ≤ w'.heap.size
  block : ∀ k, k < w.heap.size → k ≠ bk → w'.heap[k]? = w.heap[k]?
theorem Drawn.refl (bk : Nat) (w : World) : Drawn bk w w := ⟨rfl, rfl, rfl, Nat.le_refl _, fun _ _ _ => rfl⟩
theorem Drawn.trans {bk : Nat} {a b c : World} (h : Drawn bk a b) (k : Drawn bk b c) : Drawn bk a c :=
  ⟨k.os.trans h.os, k.tape.trans h.tape, k.output.trans h.output, Nat.le_trans h.size k.size, fun j hj hn => (k.block j (Nat.lt_of_lt_of_le hj h.size) hn).trans (h.block j hj hn)⟩
theorem Drawn.of_below {bk : Nat} {w w' : World} (h : Below w.heap.size w w') : Drawn bk w w' := ⟨h.os, h.tape, h.output, h.size, fun k hk _ => h.block k hk⟩
theorem Drawn.drew {bk : Nat} {a w : World} (h : Drawn bk a w) : Drawn bk a w.drew := ⟨h.os, h.tape, h.output, h.size, h.block⟩
theorem Drawn.drewN {bk : Nat} {a w : World} (h : Drawn bk a w) (n : Nat) : Drawn bk a (w.drewN n) :=
  h.trans (Drawn.of_below (below_drewN (Below.refl _ _) n))
theorem Drawn.setCell {bk : Nat} {a w : World} (h : Drawn bk a w) (o : Nat) (u : Value) : Drawn bk a (w.setCell ⟨bk, o, none⟩ u) := by
  refine h.trans ⟨rfl, rfl, rfl, by simp, fun k hk hn => Below.heap_setCell w ⟨bk, o, none⟩ u k hn⟩
theorem Drawn.below {bk B : Nat} {w0 w w' : World} (h : Drawn bk w w') (hb : Below B w0 w) (hB : B ≤ w.heap.size) (hk : B ≤ bk) : Below B w0 w' :=
  ⟨h.os.trans hb.os, h.tape.trans hb.tape, h.output.trans hb.output, Nat.le_trans hb.size h.size, fun k hk' => (h.block k (by omega) (by omega)).trans (hb.block k hk')⟩
theorem Drawn.cell {bk : Nat} {w w' : World} (h : Drawn bk w w') {b o : Nat} {v : Value} (hc : w.cell? ⟨b, o, none⟩ = some v) (hb : b ≠ bk) : w'.cell? ⟨b, o, none⟩ = some v :=
  (World.cell?_of_block (w := w) (w' := w') (a := ⟨b, o, none⟩) (h.block b (dCell_lt hc) hb)).trans hc
theorem Drawn.frozen {bk : Nat} {w w' : World} (h : Drawn bk w w') {b o : Nat} (hb : b ≠ bk) (hl : b < w.heap.size) : w'.frozen? ⟨b, o, none⟩ = w.frozen? ⟨b, o, none⟩ :=
  World.frozen?_of_block (w := w) (w' := w') (a := ⟨b, o, none⟩) (h.block b hl hb)
theorem Row8.drawn {bk : Nat} {w w' : World} {a : Option Addr} {len : Nat} (h : Row8 w a len) (hd : Drawn bk w w') (hn : ∀ b off, a = some ⟨b, off, none⟩ → 0 < len → b ≠ bk) : Row8 w' a len := by
  refine ⟨h.1, ?_⟩
  rcases h.2 with h0 | ⟨b, off, rfl, hc⟩
  · exact .inl h0
  · rcases Nat.eq_zero_or_pos len with h0 | h0
    · exact .inl h0
    · refine .inr ⟨b, off, rfl, fun i hi => ?_⟩
      obtain ⟨v, h1, h2, h3⟩ := hc i hi
      exact ⟨v, h1, h2, hd.cell h3 (hn b off rfl h0)⟩
/-- New blocks leave the cursor as it is. -/
theorem Cur.below {bk : Nat} {w w' : World} (h : Cur w bk) (hb : Below w.heap.size w w') : Cur w' bk := by
  obtain ⟨a, len, cap, i, h, hr, hn, hi, c0, c1, c2, f1, f2⟩ := h
  have lt := dCell_lt c0
  refine ⟨a, len, cap, i, h, ?_, hn, hi, (hb.cell (p := ⟨bk, 0, none⟩) lt).trans c0, (hb.cell (p := ⟨bk, 1, none⟩) lt).trans c1, (hb.cell (p := ⟨bk, 2, none⟩) lt).trans c2, (hb.frozen (p := ⟨bk, 1, none⟩) lt).trans f1, (hb.frozen (p := ⟨bk, 2, none⟩) lt).trans f2⟩
  refine ⟨hr.1, ?_⟩
  rcases hr.2 with h0 | ⟨b, off, rfl, hc⟩
  · exact .inl h0
  · refine .inr ⟨b, off, rfl, fun i hi => ?_⟩
    obtain ⟨v, h1, h2, h3⟩ := hc i hi
    exact ⟨v, h1, h2, (hb.cell (p := ⟨b, off + i, none⟩) (dCell_lt h3)).trans h3⟩
theorem Cur.lt {bk : Nat} {w : World} (h : Cur w bk) : bk < w.heap.size := by
  obtain ⟨a, len, cap, i, h, hr, hn, hi, c0, -⟩ := h
  exact dCell_lt c0
theorem i64_and255 (n : Int) : bits .and .i64 n 255 = n % 256 := by
  have h255 : (BitVec.ofInt 64 255).toNat = 2 ^ 8 - 1 := by decide
  have key : (BitVec.ofInt 64 n &&& BitVec.ofInt 64 255).toNat = (n % ((2 ^ 64 : Nat) : Int)).toNat % 2 ^ 8 := by
    rw [BitVec.toNat_and, BitVec.toNat_ofInt, h255, Nat.and_two_pow_sub_one_eq_mod]
  show IntKind.i64.wrap ((BitVec.ofInt 64 n &&& BitVec.ofInt 64 255).toNat : Nat) = n % 256
  rw [key, IntKind.wrap_i64]
  omega

theorem and255_bd (n : Int) : 0 ≤ bits .and .i64 n 255 ∧ bits .and .i64 n 255 ≤ 255 := by rw [i64_and255]; omega
theorem set_other {w : World} {b o b' o' : Nat} {u v : Value} (h : w.cell? ⟨b, o, none⟩ = some v) (hne : b ≠ b' ∨ o ≠ o') : (w.setCell ⟨b', o', none⟩ u).cell? ⟨b, o, none⟩ = some v :=
  (World.cell?_setCell_other _ _ _ _ (by intro e; injection e; omega)).trans h
theorem Cur.drewN {bk : Nat} {w : World} (h : Cur w bk) (n : Nat) : Cur (w.drewN n) bk := h.below (below_drewN (Below.refl _ _) n)
theorem Cur.set2 {bk : Nat} {w : World} (h : Cur w bk) (x : Int) : Cur (w.setCell ⟨bk, 2, none⟩ (.int .i64 x)) bk := by
  obtain ⟨a, len, cap, i, h, hr, hn, hi, c0, c1, c2, f1, f2⟩ := h
  exact ⟨a, len, cap, i, x, hr.drawn ((Drawn.refl bk w).setCell 2 _) (fun b off e h0 => by have := hn b off e h0; omega), hn, hi, set_other c0 (by omega), set_other c1 (by omega), World.cell?_setCell_same _ _ _ c2, (World.frozen?_setCell _ _ _ _).trans f1, (World.frozen?_setCell _ _ _ _).trans f2⟩
theorem Cur.set1 {bk : Nat} {w : World} (h : Cur w bk) (k : Nat) {x : Int} (hx : x = k) (hk : ∀ a len cap, w.cell? ⟨bk, 0, none⟩ = some (.slice a len cap) → k ≤ len) : Cur (w.setCell ⟨bk, 1, none⟩ (.int .i64 x)) bk := by
  subst hx
  obtain ⟨a, len, cap, i, h, hr, hn, hi, c0, c1, c2, f1, f2⟩ := h
  exact ⟨a, len, cap, k, h, hr.drawn ((Drawn.refl bk w).setCell 1 _) (fun b off e h0 => by have := hn b off e h0; omega), hn, hk _ _ _ c0, set_other c0 (by omega), World.cell?_setCell_same _ _ _ c1, set_other c2 (by omega), (World.frozen?_setCell _ _ _ _).trans f1, (World.frozen?_setCell _ _ _ _).trans f2⟩

set_option maxHeartbeats 1000000 in
theorem l1Byte_any (bk : Nat) (w : World) (hc : Cur w bk) :
    Calls Try.prog 86 #[.pointer (some ⟨bk, 0, none⟩)] w fun e w' => (∃ x : Int, 0 ≤ x ∧ x ≤ 255 ∧ e = .returned (.int .i64 x)) ∧ Cur w' bk ∧ Drawn bk w w' := by
  have HC := dHide hc
  obtain ⟨a, len, cap, i, h, hr, hn, hi, c0, c1, c2, f1, f2⟩ := hc
  by_cases hlt : (i : Int) < (len : Int)
  · obtain ⟨b, off, rfl, hv⟩ : ∃ b off, a = some ⟨b, off, none⟩ ∧ ∀ i : Nat, i < len → ∃ v : Int, 0 ≤ v ∧ v ≤ 255 ∧ w.cell? ⟨b, off + i, none⟩ = some (.int .u8 v) := by
      rcases hr.2 with h0 | h0
      · omega
      · exact h0
    obtain ⟨v, hv0, hv1, hv2⟩ := hv i (by omega)
    have hb : b ≠ bk := by have := hn b off rfl (by omega); omega
    have hv3 : ∀ x, (w.setCell ⟨bk, 2, none⟩ x).cell? ⟨b, off + i, none⟩ = some (.int .u8 v) := fun x => set_other hv2 (.inl hb)
    have hlen := hr.1
    clear hr hn hv
    go_enter Try.func86, Try.ntmps86
    go_wp2
    go_quiet (fail)
    go_wp2
    go_quiet (fail)
    go_wp2
    go_quiet (fail)
    go_wp2
    go_ret
    have hk : ∀ n x a' len' cap', ((w.setCell ⟨bk, 2, none⟩ x).drewN n).cell? ⟨bk, 0, none⟩ = some (.slice a' len' cap') → i + 1 ≤ len' := fun n x a' len' cap' e => by
      have e' : (w.setCell ⟨bk, 2, none⟩ x).cell? ⟨bk, 0, none⟩ = some (.slice a' len' cap') := by simpa using e
      rw [set_other c0 (by omega)] at e'
      simp at e'
      omega
    exact ⟨⟨_, (and255_bd _).1, (and255_bd _).2, rfl⟩, (((dUnhide HC).set2 _).drewN _).set1 (i + 1) (by omega) (hk _ _), (((Drawn.refl bk w).setCell 2 _).drewN _).setCell 1 _⟩
  · clear hr hn
    go_enter Try.func86, Try.ntmps86
    go_wp2
    go_quiet (fail)
    go_wp2
    go_quiet (fail)
    go_wp2
    go_ret
    exact ⟨⟨_, (and255_bd _).1, (and255_bd _).2, rfl⟩, (((dUnhide HC).set2 _).drewN _).drewN _, (((Drawn.refl bk w).setCell 2 _).drewN _).drewN _⟩

set_option maxHeartbeats 1000000 in
theorem l1Below_any (bk : Nat) (n : Nat) (h1 : 1 ≤ n) (h2 : n ≤ 4611686018427387904) (w : World) (hc : Cur w bk) :
    Calls Try.prog 43 #[.pointer (some ⟨bk, 0, none⟩), .int .i64 n] w fun e w' => (∃ x : Nat, x < n ∧ e = .returned (.int .i64 (x : Int))) ∧ Cur w' bk ∧ Drawn bk w w' := by
  have n0 : ¬ ((n : Int) ≤ 0) := by omega
  by_cases hn : (n : Int) ≤ 256
  · go_enter Try.func43, Try.ntmps43
    go_wp2_with (go_at_call 86; refine (l1Byte_any _ _ hc).mono ?_; rintro e w1 ⟨⟨x, x0, x1, rfl⟩, hc1, hd1⟩)
    go_ret
    refine ⟨⟨(x % n).toNat, ?_, ?_⟩, hc1, hd1⟩
    · have := Int.emod_lt_of_pos x (show (0 : Int) < n by omega)
      have := Int.emod_nonneg x (show (n : Int) ≠ 0 by omega)
      omega
    · rw [Int.toNat_of_nonneg (Int.emod_nonneg x (by omega))]; rfl
  · go_enter Try.func43, Try.ntmps43
    go_wp2_with fail
    refine (l1Byte_any _ _ hc).mono ?_
    rintro e w1 ⟨⟨x, x0, x1, rfl⟩, hc1, hd1⟩
    go_wp2_with fail
    refine (l1Byte_any _ _ hc1).mono ?_
    rintro e w2 ⟨⟨y, y0, y1, rfl⟩, hc2, hd2⟩
    go_wp2_with fail
    refine (l1Byte_any _ _ hc2).mono ?_
    rintro e w3 ⟨⟨z, z0, z1, rfl⟩, hc3, hd3⟩
    go_wp2_with fail
    refine (l1Byte_any _ _ hc3).mono ?_
    rintro e w4 ⟨⟨u, u0, u1, rfl⟩, hc4, hd4⟩
    go_wp2
    go_ret
    refine ⟨⟨((x * 16777216 + y * 65536 + z * 256 + u) % n).toNat, ?_, ?_⟩, hc4, ((hd1.trans hd2).trans hd3).trans hd4⟩
    · have := Int.emod_lt_of_pos (x * 16777216 + y * 65536 + z * 256 + u) (show (0 : Int) < n by omega)
      have := Int.emod_nonneg (x * 16777216 + y * 65536 + z * 256 + u) (show (n : Int) ≠ 0 by omega)
      omega
    · rw [Int.toNat_of_nonneg (Int.emod_nonneg _ (by omega))]; rfl
theorem Row8.below {w w' : World} {a : Option Addr} {len : Nat} (hr : Row8 w a len) (hb : Below w.heap.size w w') : Row8 w' a len := by
  refine ⟨hr.1, ?_⟩
  rcases hr.2 with h0 | ⟨b, off, rfl, hc⟩
  · exact .inl h0
  · refine .inr ⟨b, off, rfl, fun i hi => ?_⟩
    obtain ⟨v, h1, h2, h3⟩ := hc i hi
    exact ⟨v, h1, h2, (hb.cell (p := ⟨b, off + i, none⟩) (dCell_lt h3)).trans h3⟩
set_option maxHeartbeats 1000000 in
theorem l1New_any (a : Option Addr) (len cap : Nat) (w : World) (hr : Row8 w a len) :
    Calls Try.prog 31 #[.slice a len cap] w fun e w' => ∃ bk, e = .returned (.pointer (some ⟨bk, 0, none⟩)) ∧ w.heap.size ≤ bk ∧ Cur w' bk ∧ Below w.heap.size w w' := by
  have HR := dHide hr
  have hlen := hr.1
  clear hr
  go_enter Try.func31, Try.ntmps31
  go_wp2
  go_loop [3, 4] (fun x v => ∃ (k : Nat) (H : Int), v = .int .i64 (k : Int) ∧ x = .int .i64 H ∧ k ≤ len ∧ k ≤ 4000) (fun _ v => len - (intOf v).toNat)
  case atStart => exact ⟨0, _, rfl, rfl, by omega, by omega⟩
  case round =>
    obtain ⟨k, H, rfl, rfl, hk, hk4⟩ := hrel
    have fin : Hid (∀ h : Int, Cur (w.alloc (.cells #[.slice a len cap, .int .i64 0, .int .i64 h] 100)) w.heap.size) := fun h => by
      have hb : Below w.heap.size w (w.alloc (.cells #[.slice a len cap, .int .i64 0, .int .i64 h] 100)) := (Below.refl _ _).alloc (Nat.le_refl _) _
      refine ⟨a, len, cap, 0, h, Row8.below HR hb, ?_, by omega, by simp [go_sem], by simp [go_sem], by simp [go_sem], by simp [go_sem], by simp [go_sem]⟩
      rintro b off rfl h0
      rcases (dUnhide HR).2 with h1 | ⟨b', off', e, hc⟩
      · omega
      · obtain ⟨v, -, -, hv⟩ := hc 0 h0
        injection e with e
        injection e with e1 e2
        have := dCell_lt hv
        omega
    by_cases hlt : (k : Int) < (len : Int)
    · by_cases h4 : (k : Int) < 4000
      · obtain ⟨b, off, rfl, hv⟩ : ∃ b off, a = some ⟨b, off, none⟩ ∧ ∀ i : Nat, i < len → ∃ v : Int, 0 ≤ v ∧ v ≤ 255 ∧ w.cell? ⟨b, off + i, none⟩ = some (.int .u8 v) := by
          rcases (dUnhide HR).2 with h0 | h0
          · omega
          · exact h0
        obtain ⟨v, hv0, hv1, hv2⟩ := hv k (by omega)
        clear hv fin
        go_wp2
        go_round
        case rel => exact ⟨k + 1, _, by go_num, rfl, by omega, by omega⟩
        case measure => simp [intOf]; omega
      · go_wp2
        go_ret
        exact ⟨_, rfl, Nat.le_refl _, dUnhide fin _, (Below.refl _ _).alloc (Nat.le_refl _) _⟩
    · go_wp2
      go_ret
      exact ⟨_, rfl, Nat.le_refl _, dUnhide fin _, (Below.refl _ _).alloc (Nat.le_refl _) _⟩
end Go.Proofs.Ytognmmmplmideaa
