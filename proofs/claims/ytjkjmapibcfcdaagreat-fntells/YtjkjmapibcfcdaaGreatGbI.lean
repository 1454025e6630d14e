/- Several texts in one: ImFa, ImpCa, ImpCb, ImFd. -/
import Derived.Test.YtjkjmapibcfcdaaGreatGaT
import Derived.Test.YtjkjmapibcfcdaaGreatGbE
import Derived.Deep.LoopGhost
import Derived.BigQuiet
import Derived.Test.YtjkjmapibcfcdaaGreatGbP
import Derived.Test.YtjkjmapibcfcdaaGreatGaA
import Derived.Deep.RegionHeld3
import Derived.Deep.DeepCutAuto
namespace Go.Proofs.YtjkjmapibcfcdaaGreat
open Go.ChangeShapes Go.WideShapes Go.ChangeAt Go.RowKit
set_option linter.unusedSimpArgs false
set_option linter.unusedVariables false
set_option maxRecDepth 100000
set_option maxHeartbeats 1000000 in
theorem waveOk_zero (x : Int) (h : Bool) (d : ByteArray) (w : World) :
  Calls Tryz.prog 61 #[.agg #[.int .i64 x, .int .i64 0, .bool h, .string d]] w fun e w' => e = .returned (.bool true) ∧ Below w.heap.size w w' := by
 go_enter Tryz.func61, Tryz.ntmps61
 go_wp2
 go_quiet (fail)
 go_wp2
 go_ret
 exact ⟨rfl, below_drewN ((Below.refl _ _).alloc (Nat.le_refl _) _) _⟩
set_option maxHeartbeats 1000000 in
theorem waveOk_above (x v : Int) (h : Bool) (d : ByteArray) (hp : isPl x) (v0 : v ≠ 0) (hv : x / 4294967296 < v) (w : World) :
  Calls Tryz.prog 61 #[.agg #[.int .i64 x, .int .i64 v, .bool h, .string d]] w fun e w' => e = .returned (.bool (decide (v ≤ 30))) ∧ Below w.heap.size w w' := by
 have C := dH (implEpoch_yes x hp)
 have hv0 : (v == 0) = false := beq_eq_false_iff_ne.2 v0
 clear hp v0
 go_enter Tryz.func61, Tryz.ntmps61
 go_wp2
 have F0 := Four.new w (.int .i64 x) (.int .i64 v) (.bool h) (.string d) 36
 have hw0 : Below w.heap.size w (w.alloc (.cells #[.int .i64 x, .int .i64 v, .bool h, .string d] 36)) := (Below.refl _ _).alloc (Nat.le_refl _) _
 generalize w.alloc (Obj.cells #[.int .i64 x, .int .i64 v, .bool h, .string d] 36) = w0 at *
 have HF := dH F0
 obtain ⟨c0, c1, c2, c3⟩ := F0
 go_region_held3 (fun W => W.cell? ⟨w.heap.size, 0, none⟩ = some (.int .i64 x) ∧ W.cell? ⟨w.heap.size, 1, none⟩ = some (.int .i64 v)) (go_keep)
  (first
   | (go_at_call 10; refine (dU C _).mono ?_; rintro e w1 ⟨rfl, b1⟩; obtain ⟨k0, k1, k2, k3⟩ := (dU HF).kept (bT (Below.refl _ _).drew b1); have hb1 := bT hw0 (bT (Below.refl _ _).drew b1)))
 go_wp2
 go_ret
 exact ⟨rfl, hb1⟩
set_option maxHeartbeats 1000000 in
theorem dataOk_data (x v : Int) (d : ByteArray) (w : World) :
  Calls Tryz.prog 62 #[.agg #[.int .i64 x, .int .i64 v, .bool false, .string d]] w fun e w' => e = .returned (.bool (decide ((d.size : Int) ≤ 40))) ∧ Below w.heap.size w w' := by
 go_enter Tryz.func62, Tryz.ntmps62
 go_wp2
 go_ret
 exact ⟨rfl, (Below.refl _ _).alloc (Nat.le_refl _) _⟩
set_option maxHeartbeats 1000000 in
theorem dataOk_hole0 (x v : Int) (d : ByteArray) (hv : ¬ 0 < v) (w : World) :
  Calls Tryz.prog 62 #[.agg #[.int .i64 x, .int .i64 v, .bool true, .string d]] w fun e w' => e = .returned (.bool false) ∧ Below w.heap.size w w' := by
 go_enter Tryz.func62, Tryz.ntmps62
 go_wp2
 go_ret
 exact ⟨rfl, (Below.refl _ _).alloc (Nat.le_refl _) _⟩
set_option maxHeartbeats 1000000 in
theorem dataOk_hole1 (x v : Int) (hv : 0 < v) (w : World) :
  Calls Tryz.prog 62 #[.agg #[.int .i64 x, .int .i64 v, .bool true, .string ⟨#[]⟩]] w fun e w' => e = .returned (.bool true) ∧ Below w.heap.size w w' := by
 go_enter Tryz.func62, Tryz.ntmps62
 go_wp2
 go_ret
 exact ⟨rfl, (Below.refl _ _).alloc (Nat.le_refl _) _⟩
set_option maxHeartbeats 1000000 in
theorem dataOk_hole2 (x v : Int) (d : ByteArray) (hv : 0 < v) (he : d.toList.isEmpty = false) (w : World) :
  Calls Tryz.prog 62 #[.agg #[.int .i64 x, .int .i64 v, .bool true, .string d]] w fun e w' => e = .returned (.bool false) ∧ Below w.heap.size w w' := by
 go_enter Tryz.func62, Tryz.ntmps62
 go_wp2
 go_ret
 exact ⟨rfl, (Below.refl _ _).alloc (Nat.le_refl _) _⟩
theorem implBetter_any (a b : Ent) (w : World) :
  Calls Tryz.prog 77 #[a.val, b.val] w fun r w' => r = .returned (better a b).val ∧ Below w.heap.size w w' := by
 obtain ⟨x, v, h, d⟩ := a
 obtain ⟨x', v', h', d'⟩ := b
 unfold better
 simp only
 by_cases hw : v < v'
 ·rw [if_pos hw]
  unfold Ent.val
  go_enter Tryz.func77, Tryz.ntmps77
  go_wp2
  go_returns
  exact ⟨rfl, by go_grown⟩
 ·rw [if_neg hw]
  unfold Ent.val
  go_enter Tryz.func77, Tryz.ntmps77
  go_wp2
  go_returns
  exact ⟨rfl, by go_grown⟩
set_option maxHeartbeats 1000000 in
theorem waveOk_below (x v : Int) (h : Bool) (d : ByteArray) (hp : isPl x) (v0 : v ≠ 0) (hv : v ≤ x / 4294967296) (w : World) :
  Calls Tryz.prog 61 #[.agg #[.int .i64 x, .int .i64 v, .bool h, .string d]] w fun e w' => e = .returned (.bool false) ∧ Below w.heap.size w w' := by
 have C := dH (implEpoch_yes x hp)
 have hv0 : (v == 0) = false := beq_eq_false_iff_ne.2 v0
 have hv1 : decide (x / 4294967296 < v) = false := decide_eq_false (by omega)
 clear hp v0
 go_enter Tryz.func61, Tryz.ntmps61
 go_wp2
 have F0 := Four.new w (.int .i64 x) (.int .i64 v) (.bool h) (.string d) 36
 have hw0 : Below w.heap.size w (w.alloc (.cells #[.int .i64 x, .int .i64 v, .bool h, .string d] 36)) := (Below.refl _ _).alloc (Nat.le_refl _) _
 generalize w.alloc (Obj.cells #[.int .i64 x, .int .i64 v, .bool h, .string d] 36) = w0 at *
 have HF := dH F0
 obtain ⟨c0, c1, c2, c3⟩ := F0
 refine wp_region_noPanic ?_
 refine wp_region_held_drew (S := fun W => W.cell? ⟨w.heap.size, 0, none⟩ = some (.int .i64 x) ∧ W.cell? ⟨w.heap.size, 1, none⟩ = some (.int .i64 v)) (by kernel_rfl) ?_ (fun hHeld => ?_)
 ·go_keep
 refine tY 0 (v := ?_) rfl (by kernel_rfl) (.inl ⟨by rfl, ?_⟩) ‹_› ?_
 rotate_left 1
 ·intro w hSw
  (try dsimp only at hSw)
  first | (go_simp; done) | (go_simp; with_reducible rfl)
 try simp only [Act.put, sA, sB, sC]
 refine tY 1 (v := ?_) rfl (by kernel_rfl) (.inl ⟨by rfl, ?_⟩) ‹_› ?_
 rotate_left 1
 ·intro w hSw
  (try dsimp only at hSw)
  first | (go_simp; done) | (go_simp; with_reducible rfl)
 try simp only [Act.put, sA, sB, sC]
 refine tY 2 (v := ?_) rfl (by kernel_rfl) (.inl ⟨by rfl, ?_⟩) ‹_› ?_
 rotate_left 1
 ·intro w hSw
  (try dsimp only at hSw)
  first | (go_simp; done) | (go_simp; with_reducible rfl)
 try simp only [Act.put, sA, sB, sC]
 refine tY 3 (v := ?_) rfl (by kernel_rfl) (.inl ⟨by rfl, ?_⟩) ‹_› ?_
 rotate_left 1
 ·intro w hSw
  (try dsimp only at hSw)
  first | (go_simp; done) | (go_simp; with_reducible rfl)
 try simp only [Act.put, sA, sB, sC]
 refine tY 4 (v := ?_) rfl (by kernel_rfl) (.inl ⟨by rfl, ?_⟩) ‹_› ?_
 rotate_left 1
 ·intro w hSw
  (try dsimp only at hSw)
  first | (go_simp; done) | (go_simp; with_reducible rfl)
 try simp only [Act.put, sA, sB, sC]
 refine tY 5 (v := ?_) rfl (by kernel_rfl) (.inl ⟨by rfl, ?_⟩) ‹_› ?_
 rotate_left 1
 ·intro w hSw
  (try dsimp only at hSw)
  first | (go_simp; done) | (go_simp; with_reducible rfl)
 try simp only [Act.put, sA, sB, sC]
 refine tY 6 (v := ?_) rfl (by kernel_rfl) (.inl ⟨by rfl, ?_⟩) ‹_› ?_
 rotate_left 1
 ·intro w hSw
  (try dsimp only at hSw)
  first | (go_simp; done) | (go_simp; with_reducible rfl)
 try simp only [Act.put, sA, sB, sC]
 refine tY 7 (v := ?_) rfl (by kernel_rfl) (.inl ⟨by rfl, ?_⟩) ‹_› ?_
 rotate_left 1
 ·intro w hSw
  (try dsimp only at hSw)
  first | (go_simp; done) | (go_simp; with_reducible rfl)
 try simp only [Act.put, sA, sB, sC]
 refine wpAnyH_ready (rs := [8]) (by kernel_rfl) (by simp) ?_
 refine rC rfl (fun K hK => ?_) AllReadyH.nil
 go_simp
 refine (dU C _).mono ?_
 rintro e w1 ⟨rfl, b1⟩
 obtain ⟨k0, k1, k2, k3⟩ := (dU HF).kept (bT (Below.refl _ _).drew b1)
 have hb1 := bT hw0 (bT (Below.refl _ _).drew b1)
 (try go_wp2_with fail)
 refine hK.out _ _ ?_ (fun hHeld => ?_)
 ·go_keep
 clear hK K
 try simp only [Act.put, sA, sB, sC]
 refine tY 9 (v := ?_) rfl (by kernel_rfl) (.inl ⟨by rfl, ?_⟩) ‹_› ?_
 rotate_left 1
 ·intro w hSw
  (try dsimp only at hSw)
  first | (go_simp; done) | (go_simp; with_reducible rfl)
 try simp only [Act.put, sA, sB, sC]
 refine tY 10 (v := ?_) rfl (by kernel_rfl) (.inl ⟨by rfl, ?_⟩) ‹_› ?_
 rotate_left 1
 ·intro w hSw
  (try dsimp only at hSw)
  first | (go_simp; done) | (go_simp; with_reducible rfl)
 try simp only [Act.put, sA, sB, sC]
 refine tY 11 rfl (by kernel_rfl) (.inr ⟨by rfl, rfl⟩) ‹_› ?_
 try simp only [Act.put, sA, sB, sC]
 refine tY 12 rfl (by kernel_rfl) (.inr ⟨by rfl, rfl⟩) ‹_› ?_
 try simp only [Act.put, sA, sB, sC]
 refine tY 13 rfl (by kernel_rfl) (.inr ⟨by rfl, rfl⟩) ‹_› ?_
 try simp only [Act.put, sA, sB, sC]
 refine tY 14 (v := ?_) rfl (by kernel_rfl) (.inl ⟨by rfl, ?_⟩) ‹_› ?_
 rotate_left 1
 ·intro w hSw
  (try dsimp only at hSw)
  first | (go_simp; done) | (go_simp; with_reducible rfl)
 try simp only [Act.put, sA, sB, sC]
 refine tY 15 (v := ?_) rfl (by kernel_rfl) (.inl ⟨by rfl, ?_⟩) ‹_› ?_
 rotate_left 1
 ·intro w hSw
  (try dsimp only at hSw)
  first | (go_simp; done) | (go_simp; with_reducible rfl)
 try simp only [Act.put, sA, sB, sC]
 refine tY 16 (v := ?_) rfl (by kernel_rfl) (.inl ⟨by rfl, ?_⟩) ‹_› ?_
 rotate_left 1
 ·intro w hSw
  (try dsimp only at hSw)
  first | (go_simp; done) | (go_simp; with_reducible rfl)
 try simp only [Act.put, sA, sB, sC]
 refine wpAnyH_done (by kernel_rfl) ?_ _
 refine NoPanic.normal ?_
 go_wp2
 go_ret
 exact ⟨rfl, hb1⟩
theorem implEntOk_noP (x v : Int) (h : Bool) (d : ByteArray) (l : -9223372036854775808 ≤ x) (u : x ≤ 9223372036854775807) (hp : ¬ isPl x) (w : World) :
  Calls Tryz.prog 19 #[.agg #[.int .i64 x, .int .i64 v, .bool h, .string d]] w fun e w' => e = .returned (.bool false) ∧ Below w.heap.size w w' := by
 have C := dH (implOk_no x l u hp)
 clear hp
 go_enter Tryz.func19, Tryz.ntmps19
 go_wp2_with fail
 have hw0 : Below w.heap.size w (w.alloc (.cells #[.int .i64 x, .int .i64 v, .bool h, .string d] 36)) := (Below.refl _ _).alloc (Nat.le_refl _) _
 refine (dU C _).mono ?_
 rintro e w1 ⟨rfl, b1⟩
 have hb1 := bT hw0 b1
 clear b1 hw0
 go_wp2
 go_ret
 exact ⟨rfl, hb1⟩
theorem implEntOk_P (x v : Int) (h : Bool) (d : ByteArray) (hp : isPl x) (b1 b2 : Bool)
  (h1 : ∀ w, Calls Tryz.prog 61 #[.agg #[.int .i64 x, .int .i64 v, .bool h, .string d]] w fun e w' => e = .returned (.bool b1) ∧ Below w.heap.size w w')
  (h2 : b1 = true → ∀ w, Calls Tryz.prog 62 #[.agg #[.int .i64 x, .int .i64 v, .bool h, .string d]] w fun e w' => e = .returned (.bool b2) ∧ Below w.heap.size w w') (w : World) :
  Calls Tryz.prog 19 #[.agg #[.int .i64 x, .int .i64 v, .bool h, .string d]] w fun e w' => e = .returned (.bool (b1 && b2)) ∧ Below w.heap.size w w' := by
 have C := dH (implOk_yes x hp)
 have C1 := dH h1
 clear h1 hp
 cases b1 with
 | false =>
  clear h2
  go_enter Tryz.func19, Tryz.ntmps19
  go_wp2_with fail
  have F0 := Four.new w (.int .i64 x) (.int .i64 v) (.bool h) (.string d) 36
  have hw0 : Below w.heap.size w (w.alloc (.cells #[.int .i64 x, .int .i64 v, .bool h, .string d] 36)) := (Below.refl _ _).alloc (Nat.le_refl _) _
  refine (dU C _).mono ?_
  rintro e w1 ⟨rfl, b1⟩
  have F1 := F0.kept b1
  have hb1 := bT hw0 b1
  obtain ⟨k0, k1, k2, k3⟩ := F1
  clear b1 hw0 F0
  go_wp2_with fail
  refine (dU C1 _).mono ?_
  rintro e w2 ⟨rfl, b2⟩
  have hb2 := bT hb1 b2
  clear b2 hb1
  go_wp2
  go_ret
  exact ⟨rfl, hb2⟩
 | true =>
  have C2 := dH (h2 rfl)
  clear h2
  go_enter Tryz.func19, Tryz.ntmps19
  go_wp2_with fail
  have F0 := Four.new w (.int .i64 x) (.int .i64 v) (.bool h) (.string d) 36
  have hw0 : Below w.heap.size w (w.alloc (.cells #[.int .i64 x, .int .i64 v, .bool h, .string d] 36)) := (Below.refl _ _).alloc (Nat.le_refl _) _
  refine (dU C _).mono ?_
  rintro e w1 ⟨rfl, b1⟩
  have F1 := F0.kept b1
  have hb1 := bT hw0 b1
  have HF1 := dH F1
  obtain ⟨k0, k1, k2, k3⟩ := F1
  clear b1 hw0 F0
  go_wp2_with fail
  refine (dU C1 _).mono ?_
  rintro e w2 ⟨rfl, b2⟩
  have F2 := (dU HF1).kept b2
  have hb2 := bT hb1 b2
  obtain ⟨q0, q1, q2, q3⟩ := F2
  clear b2 hb1 HF1 k0 k1 k2 k3
  go_wp2_with fail
  refine (dU C2 _).mono ?_
  rintro e w3 ⟨rfl, b3⟩
  have hb3 := bT hb2 b3
  clear b3 hb2
  go_wp2
  go_ret
  exact ⟨by simp, hb3⟩
theorem implEntOk_yes (e : Ent) (hf : e.fits) (h : entP e) (w : World) :
  Calls Tryz.prog 19 #[e.val] w fun r w' => r = .returned (.bool true) ∧ Below w.heap.size w w' := by
 obtain ⟨x, v, h0, d⟩ := e
 obtain ⟨hp, v0, v1, hv, hd, hh⟩ := h
 simp only at hp v0 v1 hv hd hh
 unfold Ent.val
 simp only
 have hp' := hp
 obtain ⟨p0, p1, p2, p3, p4⟩ := hp'
 have e30 : decide (v ≤ 30) = true := decide_eq_true v1
 have e40 : decide ((d.size : Int) ≤ 40) = true := decide_eq_true (by omega)
 rcases Int.lt_or_le 0 v with hv0 | hv0
 ·have hv' := hv hv0
  have h1 := waveOk_above x v h0 d hp (by omega) hv'
  rw [e30] at h1
  cases h0 with
  | false =>
   have h2 := dataOk_data x v d
   rw [e40] at h2
   exact implEntOk_P x v false d hp true true h1 (fun _ => h2) w
  | true =>
   obtain rfl := bytes_nil d (hh rfl).2
   exact implEntOk_P x v true _ hp true true h1 (fun _ => dataOk_hole1 x v hv0) w
 ·obtain rfl : v = 0 := by omega
  cases h0 with
  | false =>
   have h2 := dataOk_data x 0 d
   rw [e40] at h2
   exact implEntOk_P x 0 false d hp true true (waveOk_zero x false d) (fun _ => h2) w
  | true => exact absurd (hh rfl).1 (by omega)
theorem implEntOk_no (e : Ent) (hf : e.fits) (h : ¬ entP e) (w : World) :
  Calls Tryz.prog 19 #[e.val] w fun r w' => r = .returned (.bool false) ∧ Below w.heap.size w w' := by
 obtain ⟨x, v, h0, d⟩ := e
 obtain ⟨f1, f2, f3, f4, f5⟩ := hf
 simp only at f1 f2 f3 f4 f5
 unfold entP at h
 unfold Ent.val
 simp only at h ⊢
 by_cases hp : isPl x
 ·have hp' := hp
  obtain ⟨p0, p1, p2, p3, p4⟩ := hp'
  have D : ∀ v', (v' = 0 ∨ (0 < v' ∧ v' ≤ 30 ∧ x / 4294967296 < v')) → v = v' → ∀ w, Calls Tryz.prog 62 #[.agg #[.int .i64 x, .int .i64 v, .bool h0, .string d]] w fun e w' => e = .returned (.bool false) ∧ Below w.heap.size w w' := by
   rintro v' hv' rfl W
   cases h0 with
   | false =>
    have h2 := dataOk_data x v d W
    by_cases hd : (d.size : Int) ≤ 40
    ·refine absurd ⟨hp, by omega, by omega, fun _ => by omega, by omega, fun h => by cases h⟩ h
    ·rw [decide_eq_false hd] at h2
     exact h2
   | true =>
    by_cases hv0 : 0 < v
    ·refine dataOk_hole2 x v d hv0 (bytes_ne d fun h1 => ?_) W
     exact h ⟨hp, by omega, by omega, fun _ => by omega, by omega, fun _ => ⟨hv0, h1⟩⟩
    ·exact dataOk_hole0 x v d hv0 W
  by_cases hv0 : v = 0
  ·subst hv0
   exact implEntOk_P x 0 h0 d hp true false (waveOk_zero x h0 d) (fun _ => D 0 (.inl rfl) rfl) w
  ·by_cases hv : x / 4294967296 < v
   ·have h1 := waveOk_above x v h0 d hp hv0 hv
    by_cases h30 : v ≤ 30
    ·rw [decide_eq_true h30] at h1
     exact implEntOk_P x v h0 d hp true false h1 (fun _ => D v (.inr ⟨by omega, h30, hv⟩) rfl) w
    ·rw [decide_eq_false h30] at h1
     exact implEntOk_P x v h0 d hp false false h1 (fun h => by cases h) w
   ·exact implEntOk_P x v h0 d hp false false (waveOk_below x v h0 d hp hv0 (by omega)) (fun h => by cases h) w
 ·exact implEntOk_noP x v h0 d f1 f2 hp w
theorem implEntOk_any (e : Ent) (hf : e.fits) (w : World) : Calls Tryz.prog 19 #[e.val] w fun r w' => RetB (entP e) r ∧ Below w.heap.size w w' := by
 by_cases h : entP e
 ·exact (implEntOk_yes e hf h w).mono fun r w' ⟨h1, h2⟩ => ⟨h1 ▸ RetB.yes h, h2⟩
 ·exact (implEntOk_no e hf h w).mono fun r w' ⟨h1, h2⟩ => ⟨h1 ▸ RetB.no h, h2⟩
end Go.Proofs.YtjkjmapibcfcdaaGreat
