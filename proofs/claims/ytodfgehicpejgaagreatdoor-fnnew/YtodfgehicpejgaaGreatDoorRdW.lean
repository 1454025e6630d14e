/- The deed 'read' in a new world: the reader waits (printed by tools/mkrdw.py). -/
import Derived.Test.YtodfgehicpejgaaGreatDoorGk174
import Derived.Test.YtodfgehicpejgaaGreatDoorGk182
import Derived.Test.YtodfgehicpejgaaGreatDoorGk157
import Derived.Test.YtodfgehicpejgaaGreatDoorGk168
import Derived.Test.YtodfgehicpejgaaGreatDoorGk185
import Derived.Deep.RegionHeld3
import Derived.Deep.DeepCutAuto
namespace Go.Proofs.YtodfgehicpejgaaGreatDoor
open Go.ChangeShapes Go.WideShapes Go.ChangeAt Go.RowKit
set_option linter.unusedVariables false
set_option linter.unusedSimpArgs false
set_option maxRecDepth 100000

theorem newReaderAt {W : World} {a : Option Addr} {c : Nat} (h : RdReaderS (.slice a 2 c) [newR, newR] W) {j : Nat} (hj : j < 2) : ∃ b off ra rk, a = some ⟨b, off, none⟩ ∧ W.cell? ⟨b, off + j * 3, none⟩ = some (.int .i64 1) ∧ W.cell? ⟨b, off + j * 3 + 1, none⟩ = some (.int .i64 1) ∧ W.cell? ⟨b, off + j * 3 + 2, none⟩ = some (.slice ra 0 rk) ∧ rk ≤ 9223372036854775807 := by
 obtain ⟨b, off, sv, e, h1, h2, h3, sv', e', h4⟩ := readerIn h (k := j) hj
 have ej : ([newR, newR][j]'hj) = newR := by
  match j, hj with
  | 0, _ => rfl
  | 1, _ => rfl
 rw [ej] at h1 h2 e' h4
 simp only [Value.agg.injEq, Array.mk.injEq, List.cons.injEq, and_true, true_and] at e'
 subst e'
 obtain ⟨-, x, y, rfl, hy, -⟩ := h4
 exact ⟨b, off, x, y, e, h1, h2, h3, hy.2⟩
set_option maxHeartbeats 16000000 in
theorem readNew_any (nb j : Nat) (ds : List Int) (cop k b c : Int) (t : ByteArray) (w : World) (h : InB w nb (newW ds cop)) (hj : j < 2) (hb : -9223372036854775808 ≤ b ∧ b ≤ 9223372036854775807) (hp : cfgP ds cop) (ok : okConfig (ds, cop)) :
  Calls Tryz.prog 61 #[.pointer (some ⟨nb, 0, none⟩), .agg #[.int .i64 k, .int .i64 (j : Int), .int .i64 b, .int .i64 c, .string t]] w fun e w' => e = .returned (.int .i64 5) ∧ Below w.heap.size w w' := by
 have ba : ∀ (w : World) o, Below w.heap.size w (w.alloc o) := fun w o => (Below.refl _ _).alloc (Nat.le_refl _) o
 have h8 : ds.length ≤ 8 := hp.1.2
 have CA0 := dH fun W (hW : Below w.heap.size w W) x => answersNew_any nb ds cop x b W (h.below hW) h8 hb
 obtain ⟨da, dc, sa, sc, la, lc, ea, ec, wa, wc, na, nc, qa, rc, ta, tc, hX, hd, hst, hlo, hec, hrd, hw⟩ := h.cells
 obtain ⟨qb, qo, ra, rk, rfl, u0, u1, u2, hrk⟩ := newReaderAt hrd hj
 have CS0 := dH fun W (hW : Below w.heap.size w W) => implSureOf_any _ (newW ds cop) 1 W (sizNew ds cop h8) (RdWorld.below hw hW)
 have CN0 := dH fun W (hW : Below w.heap.size w W) lv L (hv : RdAnswerS lv L W) (hL : L.length ≤ 8) (hf : ∀ a ∈ L, fitAw a) => nextNew_any da ea ra dc ec rk ds cop 0 lv L W (hd.below hW) hec hrk hv hL hf hp ok
 have CP := dH fun W => implMake_yes 1 1 (by omega) (by omega) (by omega) (by omega) W
 have B0 := ba w (.cells #[.int .i64 k, .int .i64 (j : Int), .int .i64 b, .int .i64 c, .string t] 45)
 have D0 := Bx.new w [.int .i64 k, .int .i64 (j : Int), .int .i64 b, .int .i64 c, .string t] 45
 have U : ∀ W, Below w.heap.size w W → (W.cell? ⟨qb, qo + j * 3, none⟩ = some (.int .i64 1) ∧ W.cell? ⟨qb, qo + j * 3 + 1, none⟩ = some (.int .i64 1) ∧ W.cell? ⟨qb, qo + j * 3 + 2, none⟩ = some (.slice ra 0 rk)) := fun W hW => ⟨(hW.cell (p := ⟨qb, _, none⟩) (dCell_lt u0)).trans u0, (hW.cell (p := ⟨qb, _, none⟩) (dCell_lt u1)).trans u1, (hW.cell (p := ⟨qb, _, none⟩) (dCell_lt u2)).trans u2⟩
 clear h hd hst hlo hec hrd hw hrk hp ok u0 u1 u2 hb
 go_enter Tryz.func61, Tryz.ntmps61
 go_upto_region 1 with fail
 have hs0 : Hid ((w.alloc (.cells #[.int .i64 k, .int .i64 (j : Int), .int .i64 b, .int .i64 c, .string t] 45)).heap.size = w.heap.size + 1) := by simp [Hid]
 generalize w.alloc (.cells #[.int .i64 k, .int .i64 (j : Int), .int .i64 b, .int .i64 c, .string t] 45) = w0 at *
 have bd1 : Below w0.heap.size w0 w0.drew := (Below.refl _ _).drew
 have HS : Hid (∀ (W : World), Below w0.heap.size w0 W → (W.cell? ⟨nb, 0, none⟩ = some (.slice da ds.length dc) ∧ W.cell? ⟨nb, 1, none⟩ = some (.int .i64 cop) ∧ W.cell? ⟨nb, 2, none⟩ = some (.slice sa ds.length sc) ∧ W.cell? ⟨nb, 3, none⟩ = some (.slice la 0 lc) ∧ W.cell? ⟨nb, 4, none⟩ = some (.slice ea 0 ec) ∧ W.cell? ⟨nb, 5, none⟩ = some (.int .i64 0) ∧ W.cell? ⟨nb, 6, none⟩ = some (.slice wa 0 wc) ∧ W.cell? ⟨nb, 7, none⟩ = some (.slice na 0 nc) ∧ W.cell? ⟨nb, 8, none⟩ = some (.slice (some ⟨qb, qo, none⟩) 2 rc) ∧ W.cell? ⟨nb, 9, none⟩ = some (.slice ta 0 tc) ∧ W.cell? ⟨nb, 10, none⟩ = some (.bool false)) ∧ (W.cell? ⟨w.heap.size, 1, none⟩ = some (.int .i64 (j : Int)) ∧ W.cell? ⟨w.heap.size, 2, none⟩ = some (.int .i64 b)) ∧ (W.cell? ⟨qb, qo + j * 3, none⟩ = some (.int .i64 1) ∧ W.cell? ⟨qb, qo + j * 3 + 1, none⟩ = some (.int .i64 1) ∧ W.cell? ⟨qb, qo + j * 3 + 2, none⟩ = some (.slice ra 0 rk))) := fun W hW => by
  have X := hX.below (bT B0 hW)
  have D := D0.below hW
  exact ⟨⟨X 0 _ rfl, X 1 _ rfl, X 2 _ rfl, X 3 _ rfl, X 4 _ rfl, X 5 _ rfl, X 6 _ rfl, X 7 _ rfl, X 8 _ rfl, X 9 _ rfl, X 10 _ rfl⟩, ⟨D 1 _ rfl, D 2 _ rfl⟩, U W (bT B0 hW)⟩
 have hj3 : (j : Int) < 2 := by omega
 have hj0 : decide ((j : Int) < 0) = false := decide_eq_false (by omega)
 have hj2 : decide (2 ≤ (j : Int)) = false := decide_eq_false (by omega)
 clear hX D0 U
 go_wp2_with fail
 have hcur := bd1
 refine wp_region_noPanic ?_
 refine wp_region_held_drew (S := fun W => (W.cell? ⟨nb, 0, none⟩ = some (.slice da ds.length dc) ∧ W.cell? ⟨nb, 1, none⟩ = some (.int .i64 cop) ∧ W.cell? ⟨nb, 2, none⟩ = some (.slice sa ds.length sc) ∧ W.cell? ⟨nb, 3, none⟩ = some (.slice la 0 lc) ∧ W.cell? ⟨nb, 4, none⟩ = some (.slice ea 0 ec) ∧ W.cell? ⟨nb, 5, none⟩ = some (.int .i64 0) ∧ W.cell? ⟨nb, 6, none⟩ = some (.slice wa 0 wc) ∧ W.cell? ⟨nb, 7, none⟩ = some (.slice na 0 nc) ∧ W.cell? ⟨nb, 8, none⟩ = some (.slice (some ⟨qb, qo, none⟩) 2 rc) ∧ W.cell? ⟨nb, 9, none⟩ = some (.slice ta 0 tc) ∧ W.cell? ⟨nb, 10, none⟩ = some (.bool false)) ∧ (W.cell? ⟨w.heap.size, 1, none⟩ = some (.int .i64 (j : Int)) ∧ W.cell? ⟨w.heap.size, 2, none⟩ = some (.int .i64 b)) ∧ (W.cell? ⟨qb, qo + j * 3, none⟩ = some (.int .i64 1) ∧ W.cell? ⟨qb, qo + j * 3 + 1, none⟩ = some (.int .i64 1) ∧ W.cell? ⟨qb, qo + j * 3 + 2, none⟩ = some (.slice ra 0 rk))) (by kernel_rfl) (by exact dU HS _ bd1) (fun hHeld => ?_)
 generalize w0.drew = wd at *
 refine tY 0 (v := ?_) rfl (by kernel_rfl) (.inl ⟨by rfl, ?_⟩) ‹_› ?_
 rotate_left 1
 ·intro w hSw
  (try dsimp only at hSw)
  first | (go_simp; done) | (go_simp; with_reducible rfl)
 try simp only [Act.put, sA, sB, sC]
 refine tY 1 (v := ?_) rfl (by kernel_rfl) (.inl ⟨by rfl, ?_⟩) ‹_› ?_
 rotate_left 1
 ·intro w hSw
  (try dsimp only at hSw)
  first | (go_simp; done) | (go_simp; with_reducible rfl)
 try simp only [Act.put, sA, sB, sC]
 refine tY 2 (v := ?_) rfl (by kernel_rfl) (.inl ⟨by rfl, ?_⟩) ‹_› ?_
 rotate_left 1
 ·intro w hSw
  (try dsimp only at hSw)
  first | (go_simp; done) | (go_simp; with_reducible rfl)
 try simp only [Act.put, sA, sB, sC]
 refine tY 3 (v := ?_) rfl (by kernel_rfl) (.inl ⟨by rfl, ?_⟩) ‹_› ?_
 rotate_left 1
 ·intro w hSw
  (try dsimp only at hSw)
  first | (go_simp; done) | (go_simp; with_reducible rfl)
 try simp only [Act.put, sA, sB, sC]
 refine tY 4 (v := ?_) rfl (by kernel_rfl) (.inl ⟨by rfl, ?_⟩) ‹_› ?_
 rotate_left 1
 ·intro w hSw
  (try dsimp only at hSw)
  first | (go_simp; done) | (go_simp; with_reducible rfl)
 try simp only [Act.put, sA, sB, sC]
 refine tY 5 (v := ?_) rfl (by kernel_rfl) (.inl ⟨by rfl, ?_⟩) ‹_› ?_
 rotate_left 1
 ·intro w hSw
  (try dsimp only at hSw)
  first | (go_simp; done) | (go_simp; with_reducible rfl)
 try simp only [Act.put, sA, sB, sC]
 refine tY 6 (v := ?_) rfl (by kernel_rfl) (.inl ⟨by rfl, ?_⟩) ‹_› ?_
 rotate_left 1
 ·intro w hSw
  (try dsimp only at hSw)
  first | (go_simp; done) | (go_simp; with_reducible rfl)
 try simp only [Act.put, sA, sB, sC]
 refine tY 7 (v := ?_) rfl (by kernel_rfl) (.inl ⟨by rfl, ?_⟩) ‹_› ?_
 rotate_left 1
 ·intro w hSw
  (try dsimp only at hSw)
  first | (go_simp; done) | (go_simp; with_reducible rfl)
 try simp only [Act.put, sA, sB, sC]
 refine tY 8 (v := ?_) rfl (by kernel_rfl) (.inl ⟨by rfl, ?_⟩) ‹_› ?_
 rotate_left 1
 ·intro w hSw
  (try dsimp only at hSw)
  first | (go_simp; done) | (go_simp; with_reducible rfl)
 try simp only [Act.put, sA, sB, sC]
 refine tY 9 (v := ?_) rfl (by kernel_rfl) (.inl ⟨by rfl, ?_⟩) ‹_› ?_
 rotate_left 1
 ·intro w hSw
  (try dsimp only at hSw)
  first | (go_simp; done) | (go_simp; with_reducible rfl)
 try simp only [Act.put, sA, sB, sC]
 refine tY 10 (v := ?_) rfl (by kernel_rfl) (.inl ⟨by rfl, ?_⟩) ‹_› ?_
 rotate_left 1
 ·intro w hSw
  (try dsimp only at hSw)
  first | (go_simp; done) | (go_simp; with_reducible rfl)
 try simp only [Act.put, sA, sB, sC]
 refine tY 11 (v := ?_) rfl (by kernel_rfl) (.inl ⟨by rfl, ?_⟩) ‹_› ?_
 rotate_left 1
 ·intro w hSw
  (try dsimp only at hSw)
  first | (go_simp; done) | (go_simp; with_reducible rfl)
 try simp only [Act.put, sA, sB, sC]
 refine tY 12 (v := ?_) rfl (by kernel_rfl) (.inl ⟨by rfl, ?_⟩) ‹_› ?_
 rotate_left 1
 ·intro w hSw
  (try dsimp only at hSw)
  first | (go_simp; done) | (go_simp; with_reducible rfl)
 try simp only [Act.put, sA, sB, sC]
 refine wpAnyH_done (by kernel_rfl) ?_ _
 refine NoPanic.normal ?_
 go_upto_region 3 with fail
 generalize wd = w1 at *
 have hc1 := hcur
 have bd3 : Below w1.heap.size w1 w1.drew := (Below.refl _ _).drew
 clear hcur
 have hcur := bd3
 refine wp_region_noPanic ?_
 refine wp_region_held_drew (S := fun W => (W.cell? ⟨nb, 0, none⟩ = some (.slice da ds.length dc) ∧ W.cell? ⟨nb, 1, none⟩ = some (.int .i64 cop) ∧ W.cell? ⟨nb, 2, none⟩ = some (.slice sa ds.length sc) ∧ W.cell? ⟨nb, 3, none⟩ = some (.slice la 0 lc) ∧ W.cell? ⟨nb, 4, none⟩ = some (.slice ea 0 ec) ∧ W.cell? ⟨nb, 5, none⟩ = some (.int .i64 0) ∧ W.cell? ⟨nb, 6, none⟩ = some (.slice wa 0 wc) ∧ W.cell? ⟨nb, 7, none⟩ = some (.slice na 0 nc) ∧ W.cell? ⟨nb, 8, none⟩ = some (.slice (some ⟨qb, qo, none⟩) 2 rc) ∧ W.cell? ⟨nb, 9, none⟩ = some (.slice ta 0 tc) ∧ W.cell? ⟨nb, 10, none⟩ = some (.bool false)) ∧ (W.cell? ⟨w.heap.size, 1, none⟩ = some (.int .i64 (j : Int)) ∧ W.cell? ⟨w.heap.size, 2, none⟩ = some (.int .i64 b)) ∧ (W.cell? ⟨qb, qo + j * 3, none⟩ = some (.int .i64 1) ∧ W.cell? ⟨qb, qo + j * 3 + 1, none⟩ = some (.int .i64 1) ∧ W.cell? ⟨qb, qo + j * 3 + 2, none⟩ = some (.slice ra 0 rk))) (by kernel_rfl) (by exact dU HS _ (bT hc1 bd3)) (fun hHeld => ?_)
 have hw3 := bd3.size
 generalize w1.drew = wd at *
 refine tY 0 (v := ?_) rfl (by kernel_rfl) (.inl ⟨by rfl, ?_⟩) ‹_› ?_
 rotate_left 1
 ·intro w hSw
  (try dsimp only at hSw)
  first | (go_simp; done) | (go_simp; with_reducible rfl)
 try simp only [Act.put, sA, sB, sC]
 refine tY 1 (v := ?_) rfl (by kernel_rfl) (.inl ⟨by rfl, ?_⟩) ‹_› ?_
 rotate_left 1
 ·intro w hSw
  (try dsimp only at hSw)
  first | (go_simp; done) | (go_simp; with_reducible rfl)
 try simp only [Act.put, sA, sB, sC]
 refine tY 2 (v := ?_) rfl (by kernel_rfl) (.inl ⟨by rfl, ?_⟩) ‹_› ?_
 rotate_left 1
 ·intro w hSw
  (try dsimp only at hSw)
  first | (go_simp; done) | (go_simp; with_reducible rfl)
 try simp only [Act.put, sA, sB, sC]
 refine tY 3 (v := ?_) rfl (by kernel_rfl) (.inl ⟨by rfl, ?_⟩) ‹_› ?_
 rotate_left 1
 ·intro w hSw
  (try dsimp only at hSw)
  first | (go_simp; done) | (go_simp; with_reducible rfl)
 try simp only [Act.put, sA, sB, sC]
 refine tY 4 (v := ?_) rfl (by kernel_rfl) (.inl ⟨by rfl, ?_⟩) ‹_› ?_
 rotate_left 1
 ·intro w hSw
  (try dsimp only at hSw)
  first | (go_simp; done) | (go_simp; with_reducible rfl)
 try simp only [Act.put, sA, sB, sC]
 refine tY 5 (v := ?_) rfl (by kernel_rfl) (.inl ⟨by rfl, ?_⟩) ‹_› ?_
 rotate_left 1
 ·intro w hSw
  (try dsimp only at hSw)
  first | (go_simp; done) | (go_simp; with_reducible rfl)
 try simp only [Act.put, sA, sB, sC]
 refine tY 6 (v := ?_) rfl (by kernel_rfl) (.inl ⟨by rfl, ?_⟩) ‹_› ?_
 rotate_left 1
 ·intro w hSw
  (try dsimp only at hSw)
  first | (go_simp; done) | (go_simp; with_reducible rfl)
 try simp only [Act.put, sA, sB, sC]
 refine tY 7 (v := ?_) rfl (by kernel_rfl) (.inl ⟨by rfl, ?_⟩) ‹_› ?_
 rotate_left 1
 ·intro w hSw
  (try dsimp only at hSw)
  first | (go_simp; done) | (go_simp; with_reducible rfl)
 try simp only [Act.put, sA, sB, sC]
 refine wpAnyH_ready (rs := [8]) (by kernel_rfl) (by simp) ?_
 refine rC rfl (fun K hK => ?_) AllReadyH.nil
 go_simp
 have hc8 := hcur
 replace hcur := bT hcur (ba _ (.cells #[.int .i64 0, .int .i64 0, .slice none 0 0] 54))
 have Z3 := BxZ.new (B := w1.heap.size) wd [.int .i64 0, .int .i64 0, .slice none 0 0] 54 hw3
 obtain ⟨z0, f0⟩ := Z3.2 0 _ rfl
 obtain ⟨z1, f1⟩ := Z3.2 1 _ rfl
 obtain ⟨z2, f2⟩ := Z3.2 2 _ rfl
 refine hK.out _ _ (by exact dU HS _ (bT hc1 hcur)) (fun hHeld => ?_)
 clear hK K
 try simp only [Act.put, sA, sB, sC]
 refine wpAnyH_ready (rs := [9]) (by kernel_rfl) (by simp) ?_
 refine rC rfl (fun K hK => ?_) AllReadyH.nil
 go_simp
 replace hcur := bT hc8 (ba _ (.cells #[.int .i64 1, .int .i64 1, .slice ra 0 rk] 54))
 have Y3 := Bx.new wd [.int .i64 1, .int .i64 1, .slice ra 0 rk] 54
 clear hc8 z0 z1 z2 f0 f1 f2 Z3
 refine hK.out _ _ (by exact dU HS _ (bT hc1 hcur)) (fun hHeld => ?_)
 clear hK K
 try simp only [Act.put, sA, sB, sC]
 refine wpAnyH_done (by kernel_rfl) ?_ _
 refine NoPanic.normal ?_
 generalize wd.heap.size = rb at *
 generalize wd.alloc (.cells #[.int .i64 1, .int .i64 1, .slice ra 0 rk] 54) = w2 at *
 have hc2 := hcur
 have y0 := Y3 0 _ rfl
 have y1 := Y3 1 _ rfl
 clear hcur
 go_wp2_with (go_at_call 104; refine (dU CP _).mono ?_; rintro e w3 ⟨rfl, b3⟩)
 have bd5 : Below w3.heap.size w3 w3.drew := (Below.refl _ _).drew
 have B3 : Below w.heap.size w w3 := bT (bT B0 hc1) (bT hc2 b3)
 have HS5 : Hid (∀ (W : World), Below w3.heap.size w3 W → (W.cell? ⟨nb, 0, none⟩ = some (.slice da ds.length dc) ∧ W.cell? ⟨nb, 1, none⟩ = some (.int .i64 cop) ∧ W.cell? ⟨nb, 2, none⟩ = some (.slice sa ds.length sc) ∧ W.cell? ⟨nb, 3, none⟩ = some (.slice la 0 lc) ∧ W.cell? ⟨nb, 4, none⟩ = some (.slice ea 0 ec) ∧ W.cell? ⟨nb, 5, none⟩ = some (.int .i64 0) ∧ W.cell? ⟨nb, 6, none⟩ = some (.slice wa 0 wc) ∧ W.cell? ⟨nb, 7, none⟩ = some (.slice na 0 nc) ∧ W.cell? ⟨nb, 8, none⟩ = some (.slice (some ⟨qb, qo, none⟩) 2 rc) ∧ W.cell? ⟨nb, 9, none⟩ = some (.slice ta 0 tc) ∧ W.cell? ⟨nb, 10, none⟩ = some (.bool false)) ∧ (W.cell? ⟨w.heap.size, 1, none⟩ = some (.int .i64 (j : Int)) ∧ W.cell? ⟨w.heap.size, 2, none⟩ = some (.int .i64 b)) ∧ (W.cell? ⟨qb, qo + j * 3, none⟩ = some (.int .i64 1) ∧ W.cell? ⟨qb, qo + j * 3 + 1, none⟩ = some (.int .i64 1) ∧ W.cell? ⟨qb, qo + j * 3 + 2, none⟩ = some (.slice ra 0 rk)) ∧ (W.cell? ⟨rb, 0, none⟩ = some (.int .i64 1) ∧ W.cell? ⟨rb, 1, none⟩ = some (.int .i64 1) ∧ W.cell? ⟨rb, 2, none⟩ = some (.slice ra 0 rk))) := fun W hW => by
  have X := Y3.below (bT b3 hW)
  have q := dU HS W (bT hc1 (bT hc2 (bT b3 hW)))
  exact ⟨q.1, q.2.1, q.2.2, X 0 _ rfl, X 1 _ rfl, X 2 _ rfl⟩
 clear y0 y1 HS Y3 hc1 hc2 b3 CP
 have hcur := bd5
 refine wp_region_noPanic ?_
 refine wp_region_held_drew (S := fun W => (W.cell? ⟨nb, 0, none⟩ = some (.slice da ds.length dc) ∧ W.cell? ⟨nb, 1, none⟩ = some (.int .i64 cop) ∧ W.cell? ⟨nb, 2, none⟩ = some (.slice sa ds.length sc) ∧ W.cell? ⟨nb, 3, none⟩ = some (.slice la 0 lc) ∧ W.cell? ⟨nb, 4, none⟩ = some (.slice ea 0 ec) ∧ W.cell? ⟨nb, 5, none⟩ = some (.int .i64 0) ∧ W.cell? ⟨nb, 6, none⟩ = some (.slice wa 0 wc) ∧ W.cell? ⟨nb, 7, none⟩ = some (.slice na 0 nc) ∧ W.cell? ⟨nb, 8, none⟩ = some (.slice (some ⟨qb, qo, none⟩) 2 rc) ∧ W.cell? ⟨nb, 9, none⟩ = some (.slice ta 0 tc) ∧ W.cell? ⟨nb, 10, none⟩ = some (.bool false)) ∧ (W.cell? ⟨w.heap.size, 1, none⟩ = some (.int .i64 (j : Int)) ∧ W.cell? ⟨w.heap.size, 2, none⟩ = some (.int .i64 b)) ∧ (W.cell? ⟨qb, qo + j * 3, none⟩ = some (.int .i64 1) ∧ W.cell? ⟨qb, qo + j * 3 + 1, none⟩ = some (.int .i64 1) ∧ W.cell? ⟨qb, qo + j * 3 + 2, none⟩ = some (.slice ra 0 rk)) ∧ (W.cell? ⟨rb, 0, none⟩ = some (.int .i64 1) ∧ W.cell? ⟨rb, 1, none⟩ = some (.int .i64 1) ∧ W.cell? ⟨rb, 2, none⟩ = some (.slice ra 0 rk))) (by kernel_rfl) (by exact dU HS5 _ bd5) (fun hHeld => ?_)
 generalize w3.drew = wd at *
 refine tY 0 (v := ?_) rfl (by kernel_rfl) (.inl ⟨by rfl, ?_⟩) ‹_› ?_
 rotate_left 1
 ·intro w hSw
  (try dsimp only at hSw)
  first | (go_simp; done) | (go_simp; with_reducible rfl)
 try simp only [Act.put, sA, sB, sC]
 refine tY 1 (v := ?_) rfl (by kernel_rfl) (.inl ⟨by rfl, ?_⟩) ‹_› ?_
 rotate_left 1
 ·intro w hSw
  (try dsimp only at hSw)
  first | (go_simp; done) | (go_simp; with_reducible rfl)
 try simp only [Act.put, sA, sB, sC]
 refine tY 2 (v := ?_) rfl (by kernel_rfl) (.inl ⟨by rfl, ?_⟩) ‹_› ?_
 rotate_left 1
 ·intro w hSw
  (try dsimp only at hSw)
  first | (go_simp; done) | (go_simp; with_reducible rfl)
 try simp only [Act.put, sA, sB, sC]
 refine tY 3 (v := ?_) rfl (by kernel_rfl) (.inl ⟨by rfl, ?_⟩) ‹_› ?_
 rotate_left 1
 ·intro w hSw
  (try dsimp only at hSw)
  first | (go_simp; done) | (go_simp; with_reducible rfl)
 try simp only [Act.put, sA, sB, sC]
 refine tY 4 (v := ?_) rfl (by kernel_rfl) (.inl ⟨by rfl, ?_⟩) ‹_› ?_
 rotate_left 1
 ·intro w hSw
  (try dsimp only at hSw)
  first | (go_simp; done) | (go_simp; with_reducible rfl)
 try simp only [Act.put, sA, sB, sC]
 refine tY 5 (v := ?_) rfl (by kernel_rfl) (.inl ⟨by rfl, ?_⟩) ‹_› ?_
 rotate_left 1
 ·intro w hSw
  (try dsimp only at hSw)
  first | (go_simp; done) | (go_simp; with_reducible rfl)
 try simp only [Act.put, sA, sB, sC]
 refine tY 6 (v := ?_) rfl (by kernel_rfl) (.inl ⟨by rfl, ?_⟩) ‹_› ?_
 rotate_left 1
 ·intro w hSw
  (try dsimp only at hSw)
  first | (go_simp; done) | (go_simp; with_reducible rfl)
 try simp only [Act.put, sA, sB, sC]
 refine tY 7 (v := ?_) rfl (by kernel_rfl) (.inl ⟨by rfl, ?_⟩) ‹_› ?_
 rotate_left 1
 ·intro w hSw
  (try dsimp only at hSw)
  first | (go_simp; done) | (go_simp; with_reducible rfl)
 try simp only [Act.put, sA, sB, sC]
 refine tY 8 (v := ?_) rfl (by kernel_rfl) (.inl ⟨by rfl, ?_⟩) ‹_› ?_
 rotate_left 1
 ·intro w hSw
  (try dsimp only at hSw)
  first | (go_simp; done) | (go_simp; with_reducible rfl)
 try simp only [Act.put, sA, sB, sC]
 refine tY 9 (v := ?_) rfl (by kernel_rfl) (.inl ⟨by rfl, ?_⟩) ‹_› ?_
 rotate_left 1
 ·intro w hSw
  (try dsimp only at hSw)
  first | (go_simp; done) | (go_simp; with_reducible rfl)
 try simp only [Act.put, sA, sB, sC]
 refine tY 10 (v := ?_) rfl (by kernel_rfl) (.inl ⟨by rfl, ?_⟩) ‹_› ?_
 rotate_left 1
 ·intro w hSw
  (try dsimp only at hSw)
  first | (go_simp; done) | (go_simp; with_reducible rfl)
 try simp only [Act.put, sA, sB, sC]
 refine tY 11 (v := ?_) rfl (by kernel_rfl) (.inl ⟨by rfl, ?_⟩) ‹_› ?_
 rotate_left 1
 ·intro w hSw
  (try dsimp only at hSw)
  first | (go_simp; done) | (go_simp; with_reducible rfl)
 try simp only [Act.put, sA, sB, sC]
 refine tY 12 (v := ?_) rfl (by kernel_rfl) (.inl ⟨by rfl, ?_⟩) ‹_› ?_
 rotate_left 1
 ·intro w hSw
  (try dsimp only at hSw)
  first | (go_simp; done) | (go_simp; with_reducible rfl)
 try simp only [Act.put, sA, sB, sC]
 refine tY 14 (v := ?_) rfl (by kernel_rfl) (.inl ⟨by rfl, ?_⟩) ‹_› ?_
 rotate_left 1
 ·intro w hSw
  (try dsimp only at hSw)
  first | (go_simp; done) | (go_simp; with_reducible rfl)
 try simp only [Act.put, sA, sB, sC]
 refine tY 15 (v := ?_) rfl (by kernel_rfl) (.inl ⟨by rfl, ?_⟩) ‹_› ?_
 rotate_left 1
 ·intro w hSw
  (try dsimp only at hSw)
  first | (go_simp; done) | (go_simp; with_reducible rfl)
 try simp only [Act.put, sA, sB, sC]
 refine tY 16 (v := ?_) rfl (by kernel_rfl) (.inl ⟨by rfl, ?_⟩) ‹_› ?_
 rotate_left 1
 ·intro w hSw
  (try dsimp only at hSw)
  first | (go_simp; done) | (go_simp; with_reducible rfl)
 try simp only [Act.put, sA, sB, sC]
 refine tY 17 (v := ?_) rfl (by kernel_rfl) (.inl ⟨by rfl, ?_⟩) ‹_› ?_
 rotate_left 1
 ·intro w hSw
  (try dsimp only at hSw)
  first | (go_simp; done) | (go_simp; with_reducible rfl)
 try simp only [Act.put, sA, sB, sC]
 refine tY 18 (v := ?_) rfl (by kernel_rfl) (.inl ⟨by rfl, ?_⟩) ‹_› ?_
 rotate_left 1
 ·intro w hSw
  (try dsimp only at hSw)
  first | (go_simp; done) | (go_simp; with_reducible rfl)
 try simp only [Act.put, sA, sB, sC]
 refine wpAnyH_ready (rs := [13, 24]) (by kernel_rfl) (by simp) ?_
 refine rC rfl (fun K hK => ?_) (rC rfl (fun K hK => ?_) AllReadyH.nil)
 ·go_simp
  refine (dU CS0 _ (bT B3 hcur)).mono ?_
  rintro e wd ⟨rfl, b5⟩
  replace hcur := bT hcur b5
  (try replace Z5 := Z5.below b5)
  clear b5
  refine hK.out _ _ (by exact dU HS5 _ hcur) (fun hHeld => ?_)
  clear hK K
  try simp only [Act.put, sA, sB, sC]
  refine wpAnyH_ready (rs := [19, 24]) (by kernel_rfl) (by simp) ?_
  refine rC rfl (fun K hK => ?_) (rC rfl (fun K hK => ?_) AllReadyH.nil)
  ·go_simp
   refine (dU CA0 _ (bT B3 hcur) _).mono ?_
   intro e wd h5
   obtain ⟨u, L, rfl, hA, hL, hfit, b5⟩ := h5
   obtain ⟨ua, uc, rfl, -⟩ := formAnswerS hA
   have HA := dH fun W (hb : Below wd.heap.size wd W) => RdAnswerS.below hA hb
   have CNX := dH fun W (hb : Below wd.heap.size wd W) => dU CN0 W (bT B3 (bT (bT hcur b5) hb)) _ L (dU HA W hb) hL hfit
   have hsince := Below.refl wd.heap.size wd
   replace hcur := bT hcur b5
   (try replace Z5 := Z5.below b5)
   clear b5 hA hfit HA
   refine hK.out _ _ (by exact dU HS5 _ hcur) (fun hHeld => ?_)
   clear hK K
   try simp only [Act.put, sA, sB, sC]
   refine wpAnyH_ready (rs := [20, 24]) (by kernel_rfl) (by simp) ?_
   refine rC rfl (fun K hK => ?_) (rC rfl (fun K hK => ?_) AllReadyH.nil)
   ·go_simp
    refine (dU CNX _ hsince).mono ?_
    intro e wd h5
    obtain ⟨x, y, xa, xc, kk, rfl, hk0, hk1, b5⟩ := h5
    replace hcur := bT hcur b5
    (try replace Z5 := Z5.below b5)
    clear b5 CNX
    refine hK.out _ _ (by exact dU HS5 _ hcur) (fun hHeld => ?_)
    clear hK K
    try simp only [Act.put, sA, sB, sC]
    refine tY 21 (v := ?_) rfl (by kernel_rfl) (.inl ⟨by rfl, ?_⟩) ‹_› ?_
    rotate_left 1
    ·intro w hSw
     (try dsimp only at hSw)
     first | (go_simp; done) | (go_simp; with_reducible rfl)
    try simp only [Act.put, sA, sB, sC]
    refine tY 22 (v := ?_) rfl (by kernel_rfl) (.inl ⟨by rfl, ?_⟩) ‹_› ?_
    rotate_left 1
    ·intro w hSw
     (try dsimp only at hSw)
     first | (go_simp; done) | (go_simp; with_reducible rfl)
    try simp only [Act.put, sA, sB, sC]
    refine tY 23 (v := ?_) rfl (by kernel_rfl) (.inl ⟨by rfl, ?_⟩) ‹_› ?_
    rotate_left 1
    ·intro w hSw
     (try dsimp only at hSw)
     first | (go_simp; done) | (go_simp; with_reducible rfl)
    try simp only [Act.put, sA, sB, sC]
    refine wpAnyH_ready (rs := [24]) (by kernel_rfl) (by simp) ?_
    refine rC rfl (fun K hK => ?_) AllReadyH.nil
    go_simp
    have hcz := hcur
    (try replace hsince := bT hsince (ba _ (.cells #[.int .i64 0, .int .i64 0, .slice none 0 0] 54)))
    replace hcur := bT hcur (ba _ (.cells #[.int .i64 0, .int .i64 0, .slice none 0 0] 54))
    have Z5 := BxZ.new (B := w3.heap.size) wd [.int .i64 0, .int .i64 0, .slice none 0 0] 54 (by have := hcz.size; omega)
    clear hcz
    generalize wd.heap.size = zb at *
    generalize wd.alloc (.cells #[.int .i64 0, .int .i64 0, .slice none 0 0] 54) = wd at *
    refine hK.out _ _ (by exact dU HS5 _ hcur) (fun hHeld => ?_)
    clear hK K
    try simp only [Act.put, sA, sB, sC]
    refine wpAnyH_ready (rs := [25]) (by kernel_rfl) (by simp) ?_
    refine rC rfl (fun K hK => ?_) AllReadyH.nil
    obtain ⟨z0, f0⟩ := Z5.2 0 _ rfl
    obtain ⟨z1, f1⟩ := Z5.2 1 _ rfl
    obtain ⟨z2, f2⟩ := Z5.2 2 _ rfl
    have hbz : w3.heap.size ≤ zb := Z5.1
    go_simp
    replace hcur := ((hcur.setCell (p := ⟨zb, 0, none⟩) hbz (.int .i64 x)).setCell (p := ⟨zb, 1, none⟩) hbz (.int .i64 y)).setCell (p := ⟨zb, 2, none⟩) hbz (.slice xa 0 xc)
    refine hK.out _ _ (by exact dU HS5 _ hcur) (fun hHeld => ?_)
    clear hK K
    try simp only [Act.put, sA, sB, sC]
    refine tY 26 (v := ?_) rfl (by kernel_rfl) (.inl ⟨by rfl, ?_⟩) ‹_› ?_
    rotate_left 1
    ·intro w hSw
     (try dsimp only at hSw)
     first | (go_simp; done) | (go_simp; with_reducible rfl)
    try simp only [Act.put, sA, sB, sC]
    refine wpAnyH_done (by kernel_rfl) ?_ _
    refine NoPanic.normal ?_
    have hB5 := dH (bT B3 hcur)
    have hdk : decide (kk = 0) = false := decide_eq_false hk0
    clear CS0 CA0 CN0 HS5 Z5 z0 z1 z2 f0 f1 f2 hcur
    go_wp2_with fail
    go_ret
    exact ⟨rfl, dU hB5⟩
   ·go_simp
    have hcz := hcur
    (try replace hsince := bT hsince (ba _ (.cells #[.int .i64 0, .int .i64 0, .slice none 0 0] 54)))
    replace hcur := bT hcur (ba _ (.cells #[.int .i64 0, .int .i64 0, .slice none 0 0] 54))
    have Z5 := BxZ.new (B := w3.heap.size) wd [.int .i64 0, .int .i64 0, .slice none 0 0] 54 (by have := hcz.size; omega)
    clear hcz
    generalize wd.heap.size = zb at *
    generalize wd.alloc (.cells #[.int .i64 0, .int .i64 0, .slice none 0 0] 54) = wd at *
    refine hK.out _ _ (by exact dU HS5 _ hcur) (fun hHeld => ?_)
    clear hK K
    try simp only [Act.put, sA, sB, sC]
    refine wpAnyH_ready (rs := [20]) (by kernel_rfl) (by simp) ?_
    refine rC rfl (fun K hK => ?_) AllReadyH.nil
    go_simp
    refine (dU CNX _ hsince).mono ?_
    intro e wd h5
    obtain ⟨x, y, xa, xc, kk, rfl, hk0, hk1, b5⟩ := h5
    replace hcur := bT hcur b5
    (try replace Z5 := Z5.below b5)
    clear b5 CNX
    refine hK.out _ _ (by exact dU HS5 _ hcur) (fun hHeld => ?_)
    clear hK K
    try simp only [Act.put, sA, sB, sC]
    refine tY 21 (v := ?_) rfl (by kernel_rfl) (.inl ⟨by rfl, ?_⟩) ‹_› ?_
    rotate_left 1
    ·intro w hSw
     (try dsimp only at hSw)
     first | (go_simp; done) | (go_simp; with_reducible rfl)
    try simp only [Act.put, sA, sB, sC]
    refine tY 22 (v := ?_) rfl (by kernel_rfl) (.inl ⟨by rfl, ?_⟩) ‹_› ?_
    rotate_left 1
    ·intro w hSw
     (try dsimp only at hSw)
     first | (go_simp; done) | (go_simp; with_reducible rfl)
    try simp only [Act.put, sA, sB, sC]
    refine tY 23 (v := ?_) rfl (by kernel_rfl) (.inl ⟨by rfl, ?_⟩) ‹_› ?_
    rotate_left 1
    ·intro w hSw
     (try dsimp only at hSw)
     first | (go_simp; done) | (go_simp; with_reducible rfl)
    try simp only [Act.put, sA, sB, sC]
    refine wpAnyH_ready (rs := [25]) (by kernel_rfl) (by simp) ?_
    refine rC rfl (fun K hK => ?_) AllReadyH.nil
    obtain ⟨z0, f0⟩ := Z5.2 0 _ rfl
    obtain ⟨z1, f1⟩ := Z5.2 1 _ rfl
    obtain ⟨z2, f2⟩ := Z5.2 2 _ rfl
    have hbz : w3.heap.size ≤ zb := Z5.1
    go_simp
    replace hcur := ((hcur.setCell (p := ⟨zb, 0, none⟩) hbz (.int .i64 x)).setCell (p := ⟨zb, 1, none⟩) hbz (.int .i64 y)).setCell (p := ⟨zb, 2, none⟩) hbz (.slice xa 0 xc)
    refine hK.out _ _ (by exact dU HS5 _ hcur) (fun hHeld => ?_)
    clear hK K
    try simp only [Act.put, sA, sB, sC]
    refine tY 26 (v := ?_) rfl (by kernel_rfl) (.inl ⟨by rfl, ?_⟩) ‹_› ?_
    rotate_left 1
    ·intro w hSw
     (try dsimp only at hSw)
     first | (go_simp; done) | (go_simp; with_reducible rfl)
    try simp only [Act.put, sA, sB, sC]
    refine wpAnyH_done (by kernel_rfl) ?_ _
    refine NoPanic.normal ?_
    have hB5 := dH (bT B3 hcur)
    have hdk : decide (kk = 0) = false := decide_eq_false hk0
    clear CS0 CA0 CN0 HS5 Z5 z0 z1 z2 f0 f1 f2 hcur
    go_wp2_with fail
    go_ret
    exact ⟨rfl, dU hB5⟩
  ·go_simp
   have hcz := hcur
   (try replace hsince := bT hsince (ba _ (.cells #[.int .i64 0, .int .i64 0, .slice none 0 0] 54)))
   replace hcur := bT hcur (ba _ (.cells #[.int .i64 0, .int .i64 0, .slice none 0 0] 54))
   have Z5 := BxZ.new (B := w3.heap.size) wd [.int .i64 0, .int .i64 0, .slice none 0 0] 54 (by have := hcz.size; omega)
   clear hcz
   generalize wd.heap.size = zb at *
   generalize wd.alloc (.cells #[.int .i64 0, .int .i64 0, .slice none 0 0] 54) = wd at *
   refine hK.out _ _ (by exact dU HS5 _ hcur) (fun hHeld => ?_)
   clear hK K
   try simp only [Act.put, sA, sB, sC]
   refine wpAnyH_ready (rs := [19]) (by kernel_rfl) (by simp) ?_
   refine rC rfl (fun K hK => ?_) AllReadyH.nil
   go_simp
   refine (dU CA0 _ (bT B3 hcur) _).mono ?_
   intro e wd h5
   obtain ⟨u, L, rfl, hA, hL, hfit, b5⟩ := h5
   obtain ⟨ua, uc, rfl, -⟩ := formAnswerS hA
   have HA := dH fun W (hb : Below wd.heap.size wd W) => RdAnswerS.below hA hb
   have CNX := dH fun W (hb : Below wd.heap.size wd W) => dU CN0 W (bT B3 (bT (bT hcur b5) hb)) _ L (dU HA W hb) hL hfit
   have hsince := Below.refl wd.heap.size wd
   replace hcur := bT hcur b5
   (try replace Z5 := Z5.below b5)
   clear b5 hA hfit HA
   refine hK.out _ _ (by exact dU HS5 _ hcur) (fun hHeld => ?_)
   clear hK K
   try simp only [Act.put, sA, sB, sC]
   refine wpAnyH_ready (rs := [20]) (by kernel_rfl) (by simp) ?_
   refine rC rfl (fun K hK => ?_) AllReadyH.nil
   go_simp
   refine (dU CNX _ hsince).mono ?_
   intro e wd h5
   obtain ⟨x, y, xa, xc, kk, rfl, hk0, hk1, b5⟩ := h5
   replace hcur := bT hcur b5
   (try replace Z5 := Z5.below b5)
   clear b5 CNX
   refine hK.out _ _ (by exact dU HS5 _ hcur) (fun hHeld => ?_)
   clear hK K
   try simp only [Act.put, sA, sB, sC]
   refine tY 21 (v := ?_) rfl (by kernel_rfl) (.inl ⟨by rfl, ?_⟩) ‹_› ?_
   rotate_left 1
   ·intro w hSw
    (try dsimp only at hSw)
    first | (go_simp; done) | (go_simp; with_reducible rfl)
   try simp only [Act.put, sA, sB, sC]
   refine tY 22 (v := ?_) rfl (by kernel_rfl) (.inl ⟨by rfl, ?_⟩) ‹_› ?_
   rotate_left 1
   ·intro w hSw
    (try dsimp only at hSw)
    first | (go_simp; done) | (go_simp; with_reducible rfl)
   try simp only [Act.put, sA, sB, sC]
   refine tY 23 (v := ?_) rfl (by kernel_rfl) (.inl ⟨by rfl, ?_⟩) ‹_› ?_
   rotate_left 1
   ·intro w hSw
    (try dsimp only at hSw)
    first | (go_simp; done) | (go_simp; with_reducible rfl)
   try simp only [Act.put, sA, sB, sC]
   refine wpAnyH_ready (rs := [25]) (by kernel_rfl) (by simp) ?_
   refine rC rfl (fun K hK => ?_) AllReadyH.nil
   obtain ⟨z0, f0⟩ := Z5.2 0 _ rfl
   obtain ⟨z1, f1⟩ := Z5.2 1 _ rfl
   obtain ⟨z2, f2⟩ := Z5.2 2 _ rfl
   have hbz : w3.heap.size ≤ zb := Z5.1
   go_simp
   replace hcur := ((hcur.setCell (p := ⟨zb, 0, none⟩) hbz (.int .i64 x)).setCell (p := ⟨zb, 1, none⟩) hbz (.int .i64 y)).setCell (p := ⟨zb, 2, none⟩) hbz (.slice xa 0 xc)
   refine hK.out _ _ (by exact dU HS5 _ hcur) (fun hHeld => ?_)
   clear hK K
   try simp only [Act.put, sA, sB, sC]
   refine tY 26 (v := ?_) rfl (by kernel_rfl) (.inl ⟨by rfl, ?_⟩) ‹_› ?_
   rotate_left 1
   ·intro w hSw
    (try dsimp only at hSw)
    first | (go_simp; done) | (go_simp; with_reducible rfl)
   try simp only [Act.put, sA, sB, sC]
   refine wpAnyH_done (by kernel_rfl) ?_ _
   refine NoPanic.normal ?_
   have hB5 := dH (bT B3 hcur)
   have hdk : decide (kk = 0) = false := decide_eq_false hk0
   clear CS0 CA0 CN0 HS5 Z5 z0 z1 z2 f0 f1 f2 hcur
   go_wp2_with fail
   go_ret
   exact ⟨rfl, dU hB5⟩
 ·go_simp
  have hcz := hcur
  (try replace hsince := bT hsince (ba _ (.cells #[.int .i64 0, .int .i64 0, .slice none 0 0] 54)))
  replace hcur := bT hcur (ba _ (.cells #[.int .i64 0, .int .i64 0, .slice none 0 0] 54))
  have Z5 := BxZ.new (B := w3.heap.size) wd [.int .i64 0, .int .i64 0, .slice none 0 0] 54 (by have := hcz.size; omega)
  clear hcz
  generalize wd.heap.size = zb at *
  generalize wd.alloc (.cells #[.int .i64 0, .int .i64 0, .slice none 0 0] 54) = wd at *
  refine hK.out _ _ (by exact dU HS5 _ hcur) (fun hHeld => ?_)
  clear hK K
  try simp only [Act.put, sA, sB, sC]
  refine wpAnyH_ready (rs := [13]) (by kernel_rfl) (by simp) ?_
  refine rC rfl (fun K hK => ?_) AllReadyH.nil
  go_simp
  refine (dU CS0 _ (bT B3 hcur)).mono ?_
  rintro e wd ⟨rfl, b5⟩
  replace hcur := bT hcur b5
  (try replace Z5 := Z5.below b5)
  clear b5
  refine hK.out _ _ (by exact dU HS5 _ hcur) (fun hHeld => ?_)
  clear hK K
  try simp only [Act.put, sA, sB, sC]
  refine wpAnyH_ready (rs := [19]) (by kernel_rfl) (by simp) ?_
  refine rC rfl (fun K hK => ?_) AllReadyH.nil
  go_simp
  refine (dU CA0 _ (bT B3 hcur) _).mono ?_
  intro e wd h5
  obtain ⟨u, L, rfl, hA, hL, hfit, b5⟩ := h5
  obtain ⟨ua, uc, rfl, -⟩ := formAnswerS hA
  have HA := dH fun W (hb : Below wd.heap.size wd W) => RdAnswerS.below hA hb
  have CNX := dH fun W (hb : Below wd.heap.size wd W) => dU CN0 W (bT B3 (bT (bT hcur b5) hb)) _ L (dU HA W hb) hL hfit
  have hsince := Below.refl wd.heap.size wd
  replace hcur := bT hcur b5
  (try replace Z5 := Z5.below b5)
  clear b5 hA hfit HA
  refine hK.out _ _ (by exact dU HS5 _ hcur) (fun hHeld => ?_)
  clear hK K
  try simp only [Act.put, sA, sB, sC]
  refine wpAnyH_ready (rs := [20]) (by kernel_rfl) (by simp) ?_
  refine rC rfl (fun K hK => ?_) AllReadyH.nil
  go_simp
  refine (dU CNX _ hsince).mono ?_
  intro e wd h5
  obtain ⟨x, y, xa, xc, kk, rfl, hk0, hk1, b5⟩ := h5
  replace hcur := bT hcur b5
  (try replace Z5 := Z5.below b5)
  clear b5 CNX
  refine hK.out _ _ (by exact dU HS5 _ hcur) (fun hHeld => ?_)
  clear hK K
  try simp only [Act.put, sA, sB, sC]
  refine tY 21 (v := ?_) rfl (by kernel_rfl) (.inl ⟨by rfl, ?_⟩) ‹_› ?_
  rotate_left 1
  ·intro w hSw
   (try dsimp only at hSw)
   first | (go_simp; done) | (go_simp; with_reducible rfl)
  try simp only [Act.put, sA, sB, sC]
  refine tY 22 (v := ?_) rfl (by kernel_rfl) (.inl ⟨by rfl, ?_⟩) ‹_› ?_
  rotate_left 1
  ·intro w hSw
   (try dsimp only at hSw)
   first | (go_simp; done) | (go_simp; with_reducible rfl)
  try simp only [Act.put, sA, sB, sC]
  refine tY 23 (v := ?_) rfl (by kernel_rfl) (.inl ⟨by rfl, ?_⟩) ‹_› ?_
  rotate_left 1
  ·intro w hSw
   (try dsimp only at hSw)
   first | (go_simp; done) | (go_simp; with_reducible rfl)
  try simp only [Act.put, sA, sB, sC]
  refine wpAnyH_ready (rs := [25]) (by kernel_rfl) (by simp) ?_
  refine rC rfl (fun K hK => ?_) AllReadyH.nil
  obtain ⟨z0, f0⟩ := Z5.2 0 _ rfl
  obtain ⟨z1, f1⟩ := Z5.2 1 _ rfl
  obtain ⟨z2, f2⟩ := Z5.2 2 _ rfl
  have hbz : w3.heap.size ≤ zb := Z5.1
  go_simp
  replace hcur := ((hcur.setCell (p := ⟨zb, 0, none⟩) hbz (.int .i64 x)).setCell (p := ⟨zb, 1, none⟩) hbz (.int .i64 y)).setCell (p := ⟨zb, 2, none⟩) hbz (.slice xa 0 xc)
  refine hK.out _ _ (by exact dU HS5 _ hcur) (fun hHeld => ?_)
  clear hK K
  try simp only [Act.put, sA, sB, sC]
  refine tY 26 (v := ?_) rfl (by kernel_rfl) (.inl ⟨by rfl, ?_⟩) ‹_› ?_
  rotate_left 1
  ·intro w hSw
   (try dsimp only at hSw)
   first | (go_simp; done) | (go_simp; with_reducible rfl)
  try simp only [Act.put, sA, sB, sC]
  refine wpAnyH_done (by kernel_rfl) ?_ _
  refine NoPanic.normal ?_
  have hB5 := dH (bT B3 hcur)
  have hdk : decide (kk = 0) = false := decide_eq_false hk0
  clear CS0 CA0 CN0 HS5 Z5 z0 z1 z2 f0 f1 f2 hcur
  go_wp2_with fail
  go_ret
  exact ⟨rfl, dU hB5⟩
end Go.Proofs.YtodfgehicpejgaaGreatDoor
