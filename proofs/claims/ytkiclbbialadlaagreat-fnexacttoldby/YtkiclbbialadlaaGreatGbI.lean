/- Several texts in one: ImFa, ImpCa, ImpCb, ImFd. -/
import Derived.Test.YtkiclbbialadlaaGreatGbG
import Derived.Test.YtkiclbbialadlaaGreatGbP
import Derived.Deep.LoopGhost
import Derived.BigQuiet
import Derived.Test.YtkiclbbialadlaaGreatGaT
import Derived.Test.YtkiclbbialadlaaGreatGaA
import Derived.Deep.RegionHeld3
import Derived.Deep.DeepCutAuto
namespace Go.Proofs.YtkiclbbialadlaaGreat
open Go.ChangeShapes Go.WideShapes Go.ChangeAt Go.RowKit
set_option linter.unusedSimpArgs false
set_option linter.unusedVariables false
set_option maxRecDepth 100000
theorem place_any (e : Ent) (w : World) : Calls Tryz.prog 269 #[e.val] w fun r w' => r = .returned (.int .i64 e.pl) ∧ Below w.heap.size w w' := by
 obtain ⟨x, wv, ho, d⟩ := e
 unfold Ent.val
 simp only
 go_enter Tryz.func269, Tryz.ntmps269
 go_wp2
 go_ret
 exact ⟨rfl, (Below.refl _ _).alloc (Nat.le_refl _) _⟩
theorem isNaN_any (x : Int) (w : World) : Calls Tryz.prog 153 #[.int .i64 x] w fun r w' => r = .returned (.bool false) ∧ w' = w := by
 go_enter Tryz.func153, Tryz.ntmps153
 go_wp2
 go_ret
 exact ⟨by simp, rfl⟩
def cmpI (x y : Int) : Int := if x < y then -1 else if y < x then 1 else 0
theorem cmpI_neg (x y : Int) : cmpI x y < 0 ↔ x < y := by unfold cmpI; split <;> (try split) <;> omega
theorem cmpI_zero (x y : Int) : cmpI x y = 0 ↔ x = y := by unfold cmpI; split <;> (try split) <;> omega
theorem compare_any (x y : Int) (w : World) : Calls Tryz.prog 97 #[.int .i64 x, .int .i64 y] w fun r w' => r = .returned (.int .i64 (cmpI x y)) ∧ w' = w := by
 by_cases h : x < y
 ·have e : cmpI x y = -1 := if_pos h
  rw [e]
  clear e
  have hd : decide (x < y) = true := decide_eq_true h
  go_enter Tryz.func97, Tryz.ntmps97
  go_wp2_with (go_at_call 153; refine (isNaN_any _ _).mono ?_; rintro e w' ⟨rfl, rfl⟩)
  go_ret
  exact ⟨rfl, rfl⟩
 ·by_cases h2 : y < x
  ·have e : cmpI x y = 1 := (if_neg h).trans (if_pos h2)
   rw [e]
   clear e
   have hd : decide (x < y) = false := decide_eq_false h
   have hd2 : decide (y < x) = true := decide_eq_true h2
   go_enter Tryz.func97, Tryz.ntmps97
   go_wp2_with (go_at_call 153; refine (isNaN_any _ _).mono ?_; rintro e w' ⟨rfl, rfl⟩)
   go_ret
   exact ⟨rfl, rfl⟩
  ·have e : cmpI x y = 0 := (if_neg h).trans (if_neg h2)
   rw [e]
   clear e
   have hd : decide (x < y) = false := decide_eq_false h
   have hd2 : decide (y < x) = false := decide_eq_false h2
   go_enter Tryz.func97, Tryz.ntmps97
   go_wp2_with (go_at_call 153; refine (isNaN_any _ _).mono ?_; rintro e w' ⟨rfl, rfl⟩)
   go_ret
   exact ⟨rfl, rfl⟩
set_option maxHeartbeats 1000000 in
theorem waveOk_zero (x : Int) (h : Bool) (d : ByteArray) (w : World) :
  Calls Tryz.prog 226 #[.agg #[.int .i64 x, .int .i64 0, .bool h, .string d]] w fun e w' => e = .returned (.bool true) ∧ Below w.heap.size w w' := by
 go_enter Tryz.func226, Tryz.ntmps226
 go_wp2
 go_quiet (fail)
 go_wp2
 go_ret
 exact ⟨rfl, below_drewN ((Below.refl _ _).alloc (Nat.le_refl _) _) _⟩
set_option maxHeartbeats 1000000 in
theorem waveOk_above (x v : Int) (h : Bool) (d : ByteArray) (hp : isPl x) (v0 : v ≠ 0) (hv : x / 4294967296 < v) (w : World) :
  Calls Tryz.prog 226 #[.agg #[.int .i64 x, .int .i64 v, .bool h, .string d]] w fun e w' => e = .returned (.bool (decide (v ≤ 30))) ∧ Below w.heap.size w w' := by
 have C := dH (implEpoch_yes x hp)
 have hv0 : (v == 0) = false := beq_eq_false_iff_ne.2 v0
 clear hp v0
 go_enter Tryz.func226, Tryz.ntmps226
 go_wp2
 have F0 := Four.new w (.int .i64 x) (.int .i64 v) (.bool h) (.string d) 207
 have hw0 : Below w.heap.size w (w.alloc (.cells #[.int .i64 x, .int .i64 v, .bool h, .string d] 207)) := (Below.refl _ _).alloc (Nat.le_refl _) _
 generalize w.alloc (Obj.cells #[.int .i64 x, .int .i64 v, .bool h, .string d] 207) = w0 at *
 have HF := dH F0
 obtain ⟨c0, c1, c2, c3⟩ := F0
 go_region_held3 (fun W => W.cell? ⟨w.heap.size, 0, none⟩ = some (.int .i64 x) ∧ W.cell? ⟨w.heap.size, 1, none⟩ = some (.int .i64 v)) (go_keep)
  (first
   | (go_at_call 193; refine (dU C _).mono ?_; rintro e w1 ⟨rfl, b1⟩; obtain ⟨k0, k1, k2, k3⟩ := (dU HF).kept (bT (Below.refl _ _).drew b1); have hb1 := bT hw0 (bT (Below.refl _ _).drew b1)))
 go_wp2
 go_ret
 exact ⟨rfl, hb1⟩
set_option maxHeartbeats 1000000 in
theorem dataOk_data (x v : Int) (d : ByteArray) (w : World) :
  Calls Tryz.prog 227 #[.agg #[.int .i64 x, .int .i64 v, .bool false, .string d]] w fun e w' => e = .returned (.bool (decide ((d.size : Int) ≤ 40))) ∧ Below w.heap.size w w' := by
 go_enter Tryz.func227, Tryz.ntmps227
 go_wp2
 go_ret
 exact ⟨rfl, (Below.refl _ _).alloc (Nat.le_refl _) _⟩
set_option maxHeartbeats 1000000 in
theorem dataOk_hole0 (x v : Int) (d : ByteArray) (hv : ¬ 0 < v) (w : World) :
  Calls Tryz.prog 227 #[.agg #[.int .i64 x, .int .i64 v, .bool true, .string d]] w fun e w' => e = .returned (.bool false) ∧ Below w.heap.size w w' := by
 go_enter Tryz.func227, Tryz.ntmps227
 go_wp2
 go_ret
 exact ⟨rfl, (Below.refl _ _).alloc (Nat.le_refl _) _⟩
set_option maxHeartbeats 1000000 in
theorem dataOk_hole1 (x v : Int) (hv : 0 < v) (w : World) :
  Calls Tryz.prog 227 #[.agg #[.int .i64 x, .int .i64 v, .bool true, .string ⟨#[]⟩]] w fun e w' => e = .returned (.bool true) ∧ Below w.heap.size w w' := by
 go_enter Tryz.func227, Tryz.ntmps227
 go_wp2
 go_ret
 exact ⟨rfl, (Below.refl _ _).alloc (Nat.le_refl _) _⟩
set_option maxHeartbeats 1000000 in
theorem dataOk_hole2 (x v : Int) (d : ByteArray) (hv : 0 < v) (he : d.toList.isEmpty = false) (w : World) :
  Calls Tryz.prog 227 #[.agg #[.int .i64 x, .int .i64 v, .bool true, .string d]] w fun e w' => e = .returned (.bool false) ∧ Below w.heap.size w w' := by
 go_enter Tryz.func227, Tryz.ntmps227
 go_wp2
 go_ret
 exact ⟨rfl, (Below.refl _ _).alloc (Nat.le_refl _) _⟩
set_option maxHeartbeats 1000000 in
theorem waveOk_below (x v : Int) (h : Bool) (d : ByteArray) (hp : isPl x) (v0 : v ≠ 0) (hv : v ≤ x / 4294967296) (w : World) :
  Calls Tryz.prog 226 #[.agg #[.int .i64 x, .int .i64 v, .bool h, .string d]] w fun e w' => e = .returned (.bool false) ∧ Below w.heap.size w w' := by
 have C := dH (implEpoch_yes x hp)
 have hv0 : (v == 0) = false := beq_eq_false_iff_ne.2 v0
 have hv1 : decide (x / 4294967296 < v) = false := decide_eq_false (by omega)
 clear hp v0
 go_enter Tryz.func226, Tryz.ntmps226
 go_wp2
 have F0 := Four.new w (.int .i64 x) (.int .i64 v) (.bool h) (.string d) 207
 have hw0 : Below w.heap.size w (w.alloc (.cells #[.int .i64 x, .int .i64 v, .bool h, .string d] 207)) := (Below.refl _ _).alloc (Nat.le_refl _) _
 generalize w.alloc (Obj.cells #[.int .i64 x, .int .i64 v, .bool h, .string d] 207) = w0 at *
 have HF := dH F0
 obtain ⟨c0, c1, c2, c3⟩ := F0
 refine wp_region_noPanic ?_
 refine wp_region_held_drew (S := fun W => W.cell? ⟨w.heap.size, 0, none⟩ = some (.int .i64 x) ∧ W.cell? ⟨w.heap.size, 1, none⟩ = some (.int .i64 v)) (by kernel_rfl) ?_ (fun hHeld => ?_)
 ·go_keep
 refine tY 0 (v := ?_) rfl (by kernel_rfl) (.inl ⟨by rfl, ?_⟩) ‹_› ?_
 rotate_left 1
 ·intro w hSw
  (try dsimp only at hSw)
  first | (go_simp; done) | (go_simp; with_reducible rfl)
 try simp only [Act.put, sA, sB, sC]
 refine tY 1 (v := ?_) rfl (by kernel_rfl) (.inl ⟨by rfl, ?_⟩) ‹_› ?_
 rotate_left 1
 ·intro w hSw
  (try dsimp only at hSw)
  first | (go_simp; done) | (go_simp; with_reducible rfl)
 try simp only [Act.put, sA, sB, sC]
 refine tY 2 (v := ?_) rfl (by kernel_rfl) (.inl ⟨by rfl, ?_⟩) ‹_› ?_
 rotate_left 1
 ·intro w hSw
  (try dsimp only at hSw)
  first | (go_simp; done) | (go_simp; with_reducible rfl)
 try simp only [Act.put, sA, sB, sC]
 refine tY 3 (v := ?_) rfl (by kernel_rfl) (.inl ⟨by rfl, ?_⟩) ‹_› ?_
 rotate_left 1
 ·intro w hSw
  (try dsimp only at hSw)
  first | (go_simp; done) | (go_simp; with_reducible rfl)
 try simp only [Act.put, sA, sB, sC]
 refine tY 4 (v := ?_) rfl (by kernel_rfl) (.inl ⟨by rfl, ?_⟩) ‹_› ?_
 rotate_left 1
 ·intro w hSw
  (try dsimp only at hSw)
  first | (go_simp; done) | (go_simp; with_reducible rfl)
 try simp only [Act.put, sA, sB, sC]
 refine tY 5 (v := ?_) rfl (by kernel_rfl) (.inl ⟨by rfl, ?_⟩) ‹_› ?_
 rotate_left 1
 ·intro w hSw
  (try dsimp only at hSw)
  first | (go_simp; done) | (go_simp; with_reducible rfl)
 try simp only [Act.put, sA, sB, sC]
 refine tY 6 (v := ?_) rfl (by kernel_rfl) (.inl ⟨by rfl, ?_⟩) ‹_› ?_
 rotate_left 1
 ·intro w hSw
  (try dsimp only at hSw)
  first | (go_simp; done) | (go_simp; with_reducible rfl)
 try simp only [Act.put, sA, sB, sC]
 refine tY 7 (v := ?_) rfl (by kernel_rfl) (.inl ⟨by rfl, ?_⟩) ‹_› ?_
 rotate_left 1
 ·intro w hSw
  (try dsimp only at hSw)
  first | (go_simp; done) | (go_simp; with_reducible rfl)
 try simp only [Act.put, sA, sB, sC]
 refine wpAnyH_ready (rs := [8]) (by kernel_rfl) (by simp) ?_
 refine rC rfl (fun K hK => ?_) AllReadyH.nil
 go_simp
 refine (dU C _).mono ?_
 rintro e w1 ⟨rfl, b1⟩
 obtain ⟨k0, k1, k2, k3⟩ := (dU HF).kept (bT (Below.refl _ _).drew b1)
 have hb1 := bT hw0 (bT (Below.refl _ _).drew b1)
 (try go_wp2_with fail)
 refine hK.out _ _ ?_ (fun hHeld => ?_)
 ·go_keep
 clear hK K
 try simp only [Act.put, sA, sB, sC]
 refine tY 9 (v := ?_) rfl (by kernel_rfl) (.inl ⟨by rfl, ?_⟩) ‹_› ?_
 rotate_left 1
 ·intro w hSw
  (try dsimp only at hSw)
  first | (go_simp; done) | (go_simp; with_reducible rfl)
 try simp only [Act.put, sA, sB, sC]
 refine tY 10 (v := ?_) rfl (by kernel_rfl) (.inl ⟨by rfl, ?_⟩) ‹_› ?_
 rotate_left 1
 ·intro w hSw
  (try dsimp only at hSw)
  first | (go_simp; done) | (go_simp; with_reducible rfl)
 try simp only [Act.put, sA, sB, sC]
 refine tY 11 rfl (by kernel_rfl) (.inr ⟨by rfl, rfl⟩) ‹_› ?_
 try simp only [Act.put, sA, sB, sC]
 refine tY 12 rfl (by kernel_rfl) (.inr ⟨by rfl, rfl⟩) ‹_› ?_
 try simp only [Act.put, sA, sB, sC]
 refine tY 13 rfl (by kernel_rfl) (.inr ⟨by rfl, rfl⟩) ‹_› ?_
 try simp only [Act.put, sA, sB, sC]
 refine tY 14 (v := ?_) rfl (by kernel_rfl) (.inl ⟨by rfl, ?_⟩) ‹_› ?_
 rotate_left 1
 ·intro w hSw
  (try dsimp only at hSw)
  first | (go_simp; done) | (go_simp; with_reducible rfl)
 try simp only [Act.put, sA, sB, sC]
 refine tY 15 (v := ?_) rfl (by kernel_rfl) (.inl ⟨by rfl, ?_⟩) ‹_› ?_
 rotate_left 1
 ·intro w hSw
  (try dsimp only at hSw)
  first | (go_simp; done) | (go_simp; with_reducible rfl)
 try simp only [Act.put, sA, sB, sC]
 refine tY 16 (v := ?_) rfl (by kernel_rfl) (.inl ⟨by rfl, ?_⟩) ‹_› ?_
 rotate_left 1
 ·intro w hSw
  (try dsimp only at hSw)
  first | (go_simp; done) | (go_simp; with_reducible rfl)
 try simp only [Act.put, sA, sB, sC]
 refine wpAnyH_done (by kernel_rfl) ?_ _
 refine NoPanic.normal ?_
 go_wp2
 go_ret
 exact ⟨rfl, hb1⟩
theorem implEntOk_noP (x v : Int) (h : Bool) (d : ByteArray) (l : -9223372036854775808 ≤ x) (u : x ≤ 9223372036854775807) (hp : ¬ isPl x) (w : World) :
  Calls Tryz.prog 201 #[.agg #[.int .i64 x, .int .i64 v, .bool h, .string d]] w fun e w' => e = .returned (.bool false) ∧ Below w.heap.size w w' := by
 have C := dH (implOk_no x l u hp)
 clear hp
 go_enter Tryz.func201, Tryz.ntmps201
 go_wp2_with fail
 have hw0 : Below w.heap.size w (w.alloc (.cells #[.int .i64 x, .int .i64 v, .bool h, .string d] 207)) := (Below.refl _ _).alloc (Nat.le_refl _) _
 refine (dU C _).mono ?_
 rintro e w1 ⟨rfl, b1⟩
 have hb1 := bT hw0 b1
 clear b1 hw0
 go_wp2
 go_ret
 exact ⟨rfl, hb1⟩
theorem implEntOk_P (x v : Int) (h : Bool) (d : ByteArray) (hp : isPl x) (b1 b2 : Bool)
  (h1 : ∀ w, Calls Tryz.prog 226 #[.agg #[.int .i64 x, .int .i64 v, .bool h, .string d]] w fun e w' => e = .returned (.bool b1) ∧ Below w.heap.size w w')
  (h2 : b1 = true → ∀ w, Calls Tryz.prog 227 #[.agg #[.int .i64 x, .int .i64 v, .bool h, .string d]] w fun e w' => e = .returned (.bool b2) ∧ Below w.heap.size w w') (w : World) :
  Calls Tryz.prog 201 #[.agg #[.int .i64 x, .int .i64 v, .bool h, .string d]] w fun e w' => e = .returned (.bool (b1 && b2)) ∧ Below w.heap.size w w' := by
 have C := dH (implOk_yes x hp)
 have C1 := dH h1
 clear h1 hp
 cases b1 with
 | false =>
  clear h2
  go_enter Tryz.func201, Tryz.ntmps201
  go_wp2_with fail
  have F0 := Four.new w (.int .i64 x) (.int .i64 v) (.bool h) (.string d) 207
  have hw0 : Below w.heap.size w (w.alloc (.cells #[.int .i64 x, .int .i64 v, .bool h, .string d] 207)) := (Below.refl _ _).alloc (Nat.le_refl _) _
  refine (dU C _).mono ?_
  rintro e w1 ⟨rfl, b1⟩
  have F1 := F0.kept b1
  have hb1 := bT hw0 b1
  obtain ⟨k0, k1, k2, k3⟩ := F1
  clear b1 hw0 F0
  go_wp2_with fail
  refine (dU C1 _).mono ?_
  rintro e w2 ⟨rfl, b2⟩
  have hb2 := bT hb1 b2
  clear b2 hb1
  go_wp2
  go_ret
  exact ⟨rfl, hb2⟩
 | true =>
  have C2 := dH (h2 rfl)
  clear h2
  go_enter Tryz.func201, Tryz.ntmps201
  go_wp2_with fail
  have F0 := Four.new w (.int .i64 x) (.int .i64 v) (.bool h) (.string d) 207
  have hw0 : Below w.heap.size w (w.alloc (.cells #[.int .i64 x, .int .i64 v, .bool h, .string d] 207)) := (Below.refl _ _).alloc (Nat.le_refl _) _
  refine (dU C _).mono ?_
  rintro e w1 ⟨rfl, b1⟩
  have F1 := F0.kept b1
  have hb1 := bT hw0 b1
  have HF1 := dH F1
  obtain ⟨k0, k1, k2, k3⟩ := F1
  clear b1 hw0 F0
  go_wp2_with fail
  refine (dU C1 _).mono ?_
  rintro e w2 ⟨rfl, b2⟩
  have F2 := (dU HF1).kept b2
  have hb2 := bT hb1 b2
  obtain ⟨q0, q1, q2, q3⟩ := F2
  clear b2 hb1 HF1 k0 k1 k2 k3
  go_wp2_with fail
  refine (dU C2 _).mono ?_
  rintro e w3 ⟨rfl, b3⟩
  have hb3 := bT hb2 b3
  clear b3 hb2
  go_wp2
  go_ret
  exact ⟨by simp, hb3⟩
theorem implEntOk_yes (e : Ent) (hf : e.fits) (h : entP e) (w : World) :
  Calls Tryz.prog 201 #[e.val] w fun r w' => r = .returned (.bool true) ∧ Below w.heap.size w w' := by
 obtain ⟨x, v, h0, d⟩ := e
 obtain ⟨hp, v0, v1, hv, hd, hh⟩ := h
 simp only at hp v0 v1 hv hd hh
 unfold Ent.val
 simp only
 have hp' := hp
 obtain ⟨p0, p1, p2, p3, p4⟩ := hp'
 have e30 : decide (v ≤ 30) = true := decide_eq_true v1
 have e40 : decide ((d.size : Int) ≤ 40) = true := decide_eq_true (by omega)
 rcases Int.lt_or_le 0 v with hv0 | hv0
 ·have hv' := hv hv0
  have h1 := waveOk_above x v h0 d hp (by omega) hv'
  rw [e30] at h1
  cases h0 with
  | false =>
   have h2 := dataOk_data x v d
   rw [e40] at h2
   exact implEntOk_P x v false d hp true true h1 (fun _ => h2) w
  | true =>
   obtain rfl := bytes_nil d (hh rfl).2
   exact implEntOk_P x v true _ hp true true h1 (fun _ => dataOk_hole1 x v hv0) w
 ·obtain rfl : v = 0 := by omega
  cases h0 with
  | false =>
   have h2 := dataOk_data x 0 d
   rw [e40] at h2
   exact implEntOk_P x 0 false d hp true true (waveOk_zero x false d) (fun _ => h2) w
  | true => exact absurd (hh rfl).1 (by omega)
theorem implEntOk_no (e : Ent) (hf : e.fits) (h : ¬ entP e) (w : World) :
  Calls Tryz.prog 201 #[e.val] w fun r w' => r = .returned (.bool false) ∧ Below w.heap.size w w' := by
 obtain ⟨x, v, h0, d⟩ := e
 obtain ⟨f1, f2, f3, f4, f5⟩ := hf
 simp only at f1 f2 f3 f4 f5
 unfold entP at h
 unfold Ent.val
 simp only at h ⊢
 by_cases hp : isPl x
 ·have hp' := hp
  obtain ⟨p0, p1, p2, p3, p4⟩ := hp'
  have D : ∀ v', (v' = 0 ∨ (0 < v' ∧ v' ≤ 30 ∧ x / 4294967296 < v')) → v = v' → ∀ w, Calls Tryz.prog 227 #[.agg #[.int .i64 x, .int .i64 v, .bool h0, .string d]] w fun e w' => e = .returned (.bool false) ∧ Below w.heap.size w w' := by
   rintro v' hv' rfl W
   cases h0 with
   | false =>
    have h2 := dataOk_data x v d W
    by_cases hd : (d.size : Int) ≤ 40
    ·refine absurd ⟨hp, by omega, by omega, fun _ => by omega, by omega, fun h => by cases h⟩ h
    ·rw [decide_eq_false hd] at h2
     exact h2
   | true =>
    by_cases hv0 : 0 < v
    ·refine dataOk_hole2 x v d hv0 (bytes_ne d fun h1 => ?_) W
     exact h ⟨hp, by omega, by omega, fun _ => by omega, by omega, fun _ => ⟨hv0, h1⟩⟩
    ·exact dataOk_hole0 x v d hv0 W
  by_cases hv0 : v = 0
  ·subst hv0
   exact implEntOk_P x 0 h0 d hp true false (waveOk_zero x h0 d) (fun _ => D 0 (.inl rfl) rfl) w
  ·by_cases hv : x / 4294967296 < v
   ·have h1 := waveOk_above x v h0 d hp hv0 hv
    by_cases h30 : v ≤ 30
    ·rw [decide_eq_true h30] at h1
     exact implEntOk_P x v h0 d hp true false h1 (fun _ => D v (.inr ⟨by omega, h30, hv⟩) rfl) w
    ·rw [decide_eq_false h30] at h1
     exact implEntOk_P x v h0 d hp false false h1 (fun h => by cases h) w
   ·exact implEntOk_P x v h0 d hp false false (waveOk_below x v h0 d hp hv0 (by omega)) (fun h => by cases h) w
 ·exact implEntOk_noP x v h0 d f1 f2 hp w
theorem implEntOk_any (e : Ent) (hf : e.fits) (w : World) : Calls Tryz.prog 201 #[e.val] w fun r w' => RetB (entP e) r ∧ Below w.heap.size w w' := by
 by_cases h : entP e
 ·exact (implEntOk_yes e hf h w).mono fun r w' ⟨h1, h2⟩ => ⟨h1 ▸ RetB.yes h, h2⟩
 ·exact (implEntOk_no e hf h w).mono fun r w' ⟨h1, h2⟩ => ⟨h1 ▸ RetB.no h, h2⟩
set_option maxHeartbeats 2000000 in
theorem allOk_any (v : Value) (es : List Ent) (w : World) (hv : Rw 4 Ent.cl w v es) (hf : fitE es) :
  Calls Tryz.prog 168 #[v] w fun e w' => RetB (∀ e ∈ es, entP e) e ∧ Below w.heap.size w w' := by
 have HV := dH fun W (hb : Below w.heap.size w W) => hv.below hb
 have HF := dH hf
 obtain ⟨h0, a, cap, rfl, -, -⟩ := hv
 clear hf
 go_enter Tryz.func168, Tryz.ntmps168
 go_wp2
 go_loopw [7] (fun x wr => ∃ k : Nat, x = .int .i64 (k : Int) ∧ k ≤ es.length ∧ Hid (∀ i (h : i < es.length), i < k → entP es[i]) ∧ Below w.heap.size w wr) (fun x _ => es.length - (intOf x).toNat)
 case atStart => exact ⟨0, rfl, Nat.zero_le _, (fun i h h' => by omega), Below.refl _ _⟩
 case round =>
  obtain ⟨k, rfl, hk, hinv, hb⟩ := hrel
  by_cases hlt : (k : Int) < (es.length : Int)
  ·have hkl : k < es.length := by omega
   obtain ⟨b, off, rfl, hc⟩ := (dU HV wr hb).ent hkl
   obtain ⟨k0, k1, k2, k3⟩ := hc k hkl
   have CE := dH fun W => implEntOk_any es[k] (dU HF _ (List.getElem_mem hkl)) W
   have hst : Hid (entP es[k] → ∀ i (h : i < es.length), i < k + 1 → entP es[i]) := fun he i h h' => by
    rcases Nat.lt_or_ge i k with hlt' | hge
    ·exact dU hinv i h hlt'
    ·obtain rfl : i = k := by omega
     exact he
   have hno : Hid (¬ entP es[k] → ¬ ∀ e ∈ es, entP e) := fun he h => he (h _ (List.getElem_mem hkl))
   generalize es[k] = e at *
   obtain ⟨x, wv, ho, d⟩ := e
   unfold Ent.val at CE
   simp only at *
   clear hc hinv
   go_wp2_with fail
   refine (dU CE _).mono ?_
   rintro r w1 ⟨⟨bb, rfl, hbb⟩, b1⟩
   have hb1 := bT (hb.alloc hb.size (.cells #[.int .i64 x, .int .i64 wv, .bool ho, .string d] 207)) b1
   clear b1 CE k0 k1 k2 k3 hb
   cases bb
   ·have R := dH (dU hno fun h => by have := hbb.2 h; cases this)
    clear hbb
    go_wp2
    go_ret
    exact ⟨RetB.no (dU R), hb1⟩
   ·have R := dH (dU hst (hbb.1 rfl))
    clear hbb
    go_wp2
    go_roundw
    case rel => exact ⟨k + 1, by go_num, by omega, R, hb1⟩
    case measure => simp [intOf]; omega
  ·have hyes : Hid (∀ e ∈ es, entP e) := fun e he => by
    obtain ⟨i, hi, rfl⟩ := List.getElem_of_mem he
    exact dU hinv i hi (by omega)
   clear hinv HV HF
   go_wp2
   go_ret
   exact ⟨RetB.yes (dU hyes), hb⟩
set_option maxHeartbeats 4000000 in
theorem ascending_any (v : Value) (es : List Ent) (w : World) (hv : Rw 4 Ent.cl w v es) :
  Calls Tryz.prog 170 #[v] w fun e w' => RetB (ascE es) e ∧ Below w.heap.size w w' := by
 have HV := dH fun W (hb : Below w.heap.size w W) => hv.below hb
 obtain ⟨h0, a, cap, rfl, -, -⟩ := hv
 go_enter Tryz.func170, Tryz.ntmps170
 go_wp2
 go_loopw [3] (fun x wr => ∃ k : Nat, x = .int .i64 ((k + 1 : Nat) : Int) ∧ (k ≤ es.length) ∧ Hid (∀ i (h : i + 1 < es.length), i < k → es[i].pl < es[i + 1].pl) ∧ Below w.heap.size w wr) (fun x _ => es.length + 1 - (intOf x).toNat)
 case atStart => exact ⟨0, rfl, Nat.zero_le _, (fun i h h' => by omega), Below.refl _ _⟩
 case round =>
  obtain ⟨k, rfl, hk, hinv, hb⟩ := hrel
  by_cases hlt : ((k + 1 : Nat) : Int) < (es.length : Int)
  ·have hkl : k + 1 < es.length := by omega
   obtain ⟨b, off, rfl, hc⟩ := (dU HV wr hb).ent hkl
   have EA := hc k (by omega)
   have EB := hc (k + 1) hkl
   have hst : Hid (es[k].pl < es[k + 1].pl → ∀ i (h : i + 1 < es.length), i < k + 1 → es[i].pl < es[i + 1].pl) := fun he i h h' => by
    rcases Nat.lt_or_ge i k with hlt' | hge
    ·exact dU hinv i h hlt'
    ·obtain rfl : i = k := by omega
     exact he
   have hno : Hid (¬ es[k].pl < es[k + 1].pl → ¬ ascE es) := fun he h => he (h k hkl)
   have PA := dH fun W => place_any es[k] W
   have PB := dH fun W => place_any es[k + 1] W
   generalize es[k] = ea at *
   generalize es[k + 1] = eb at *
   obtain ⟨x, wv, ho, d⟩ := ea
   obtain ⟨y, wv', ho', d'⟩ := eb
   unfold Ent.val at PA PB
   simp only at *
   have HEA := dH EA
   have HEB := dH EB
   obtain ⟨k0, k1, k2, k3⟩ := EA
   obtain ⟨j0, j1, j2, j3⟩ := EB
   simp only at k0 k1 k2 k3 j0 j1 j2 j3
   generalize hm : k + 1 = m at *
   have HM := dH hm
   have t1 : (0 : Int) ≤ (k : Int) := by omega
   have t2 : (k : Int) < (es.length : Int) := by omega
   have t3 : IntKind.i64.wrap ((m : Int) - 1) = (k : Int) := by rw [IntKind.wrap_i64]; omega
   have t4 : (0 : Int) ≤ (m : Int) := by omega
   clear hc hinv HV hm
   go_wp2
   go_region_held3 (fun W => W.cell? ⟨b, off + k * 4, none⟩ = some (.int .i64 x) ∧ W.cell? ⟨b, off + k * 4 + 1, none⟩ = some (.int .i64 wv) ∧ W.cell? ⟨b, off + k * 4 + 2, none⟩ = some (.bool ho) ∧ W.cell? ⟨b, off + k * 4 + 3, none⟩ = some (.string d) ∧ W.cell? ⟨b, off + m * 4, none⟩ = some (.int .i64 y) ∧ W.cell? ⟨b, off + m * 4 + 1, none⟩ = some (.int .i64 wv') ∧ W.cell? ⟨b, off + m * 4 + 2, none⟩ = some (.bool ho') ∧ W.cell? ⟨b, off + m * 4 + 3, none⟩ = some (.string d')) (first | exact ⟨q0, q1, q2, q3, r0, r1, r2, r3⟩ | exact ⟨p0, p1, p2, p3, s0, s1, s2, s3⟩ | go_keep)
    (first
     | (go_at_call 269; refine (dU PA _).mono ?_; rintro e w2 ⟨rfl, b2⟩; have hb2 := bT hb1 b2; obtain ⟨q0, q1, q2, q3⟩ := (dU HEA).below hb2; obtain ⟨r0, r1, r2, r3⟩ := (dU HEB).below hb2)
     | (go_at_call 269; refine (dU PB _).mono ?_; rintro e w2 ⟨rfl, b2⟩; have hb2 := bT hb1 b2; obtain ⟨q0, q1, q2, q3⟩ := (dU HEA).below hb2; obtain ⟨r0, r1, r2, r3⟩ := (dU HEB).below hb2)
     | (go_at_call 269; refine (dU PA _).mono ?_; rintro e w1 ⟨rfl, b1⟩; have hb1 := bT (Below.refl wr.heap.size wr).drew b1; obtain ⟨p0, p1, p2, p3⟩ := (dU HEA).below hb1; obtain ⟨s0, s1, s2, s3⟩ := (dU HEB).below hb1)
     | (go_at_call 269; refine (dU PB _).mono ?_; rintro e w1 ⟨rfl, b1⟩; have hb1 := bT (Below.refl wr.heap.size wr).drew b1; obtain ⟨p0, p1, p2, p3⟩ := (dU HEA).below hb1; obtain ⟨s0, s1, s2, s3⟩ := (dU HEB).below hb1))
   all_goals
    have BB := bT hb hb2
    clear hb1 b2 b1 q0 q1 q2 q3 r0 r1 r2 r3 p0 p1 p2 p3 s0 s1 s2 s3 k0 k1 k2 k3 j0 j1 j2 j3 HEA HEB PA PB hb hb2
    by_cases hxy : y ≤ x
    ·have hd : decide (y ≤ x) = true := decide_eq_true hxy
     have R := dH (dU hno (by omega))
     go_wp2
     go_ret
     exact ⟨RetB.no (dU R), BB⟩
    ·have hd : decide (y ≤ x) = false := decide_eq_false hxy
     have R := dH (dU hst (by omega))
     go_wp2
     go_roundw
     case rel => have := dU HM; subst this; exact ⟨k + 1, by go_num, by omega, R, BB⟩
     case measure => have := dU HM; subst this; simp [intOf]; omega
  ·have hyes : Hid (ascE es) := fun i h => dU hinv i h (by omega)
   clear hinv HV
   go_wp2
   go_ret
   exact ⟨RetB.yes (dU hyes), hb⟩
end Go.Proofs.YtkiclbbialadlaaGreat
