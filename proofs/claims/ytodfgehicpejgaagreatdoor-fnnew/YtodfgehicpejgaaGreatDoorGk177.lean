/- Several texts in one: ImpCb, EzP, SitB, SitE. -/
import Derived.Test.YtodfgehicpejgaaGreatDoorGk172
import Derived.Deep.RegionHeld3
import Derived.Test.YtodfgehicpejgaaGreatDoorGk171
import Derived.Laws.MakeOwn
import Derived.OwnWalk
namespace Go.Proofs.YtodfgehicpejgaaGreatDoor
open Go.ChangeShapes Go.WideShapes Go.ChangeAt Go.RowKit
set_option linter.unusedSimpArgs false
set_option linter.unusedVariables false
set_option maxRecDepth 100000
set_option maxHeartbeats 1000000 in
theorem waveOk_below (x v : Int) (h : Bool) (d : ByteArray) (hp : isPl x) (v0 : v ≠ 0) (hv : v ≤ x / 4294967296) (w : World) :
  Calls Tryz.prog 283 #[.agg #[.int .i64 x, .int .i64 v, .bool h, .string d]] w fun e w' => e = .returned (.bool false) ∧ Below w.heap.size w w' := by
 have C := dH (implEpoch_yes x hp)
 have hv0 : (v == 0) = false := beq_eq_false_iff_ne.2 v0
 have hv1 : decide (x / 4294967296 < v) = false := decide_eq_false (by omega)
 clear hp v0
 go_enter Tryz.func283, Tryz.ntmps283
 go_wp2
 have F0 := Four.new w (.int .i64 x) (.int .i64 v) (.bool h) (.string d) 156
 have hw0 : Below w.heap.size w (w.alloc (.cells #[.int .i64 x, .int .i64 v, .bool h, .string d] 156)) := (Below.refl _ _).alloc (Nat.le_refl _) _
 generalize w.alloc (Obj.cells #[.int .i64 x, .int .i64 v, .bool h, .string d] 156) = w0 at *
 have HF := dH F0
 obtain ⟨c0, c1, c2, c3⟩ := F0
 refine wp_region_noPanic ?_
 refine wp_region_held_drew (S := fun W => W.cell? ⟨w.heap.size, 0, none⟩ = some (.int .i64 x) ∧ W.cell? ⟨w.heap.size, 1, none⟩ = some (.int .i64 v)) (by kernel_rfl) ?_ (fun hHeld => ?_)
 ·go_keep
 refine tY 0 (v := ?_) rfl (by kernel_rfl) (.inl ⟨by rfl, ?_⟩) ‹_› ?_
 rotate_left 1
 ·intro w hSw
  (try dsimp only at hSw)
  first | (go_simp; done) | (go_simp; with_reducible rfl)
 try simp only [Act.put, sA, sB, sC]
 refine tY 1 (v := ?_) rfl (by kernel_rfl) (.inl ⟨by rfl, ?_⟩) ‹_› ?_
 rotate_left 1
 ·intro w hSw
  (try dsimp only at hSw)
  first | (go_simp; done) | (go_simp; with_reducible rfl)
 try simp only [Act.put, sA, sB, sC]
 refine tY 2 (v := ?_) rfl (by kernel_rfl) (.inl ⟨by rfl, ?_⟩) ‹_› ?_
 rotate_left 1
 ·intro w hSw
  (try dsimp only at hSw)
  first | (go_simp; done) | (go_simp; with_reducible rfl)
 try simp only [Act.put, sA, sB, sC]
 refine tY 3 (v := ?_) rfl (by kernel_rfl) (.inl ⟨by rfl, ?_⟩) ‹_› ?_
 rotate_left 1
 ·intro w hSw
  (try dsimp only at hSw)
  first | (go_simp; done) | (go_simp; with_reducible rfl)
 try simp only [Act.put, sA, sB, sC]
 refine tY 4 (v := ?_) rfl (by kernel_rfl) (.inl ⟨by rfl, ?_⟩) ‹_› ?_
 rotate_left 1
 ·intro w hSw
  (try dsimp only at hSw)
  first | (go_simp; done) | (go_simp; with_reducible rfl)
 try simp only [Act.put, sA, sB, sC]
 refine tY 5 (v := ?_) rfl (by kernel_rfl) (.inl ⟨by rfl, ?_⟩) ‹_› ?_
 rotate_left 1
 ·intro w hSw
  (try dsimp only at hSw)
  first | (go_simp; done) | (go_simp; with_reducible rfl)
 try simp only [Act.put, sA, sB, sC]
 refine tY 6 (v := ?_) rfl (by kernel_rfl) (.inl ⟨by rfl, ?_⟩) ‹_› ?_
 rotate_left 1
 ·intro w hSw
  (try dsimp only at hSw)
  first | (go_simp; done) | (go_simp; with_reducible rfl)
 try simp only [Act.put, sA, sB, sC]
 refine tY 7 (v := ?_) rfl (by kernel_rfl) (.inl ⟨by rfl, ?_⟩) ‹_› ?_
 rotate_left 1
 ·intro w hSw
  (try dsimp only at hSw)
  first | (go_simp; done) | (go_simp; with_reducible rfl)
 try simp only [Act.put, sA, sB, sC]
 refine wpAnyH_ready (rs := [8]) (by kernel_rfl) (by simp) ?_
 refine rC rfl (fun K hK => ?_) AllReadyH.nil
 go_simp
 refine (dU C _).mono ?_
 rintro e w1 ⟨rfl, b1⟩
 obtain ⟨k0, k1, k2, k3⟩ := (dU HF).kept (bT (Below.refl _ _).drew b1)
 have hb1 := bT hw0 (bT (Below.refl _ _).drew b1)
 (try go_wp2_with fail)
 refine hK.out _ _ ?_ (fun hHeld => ?_)
 ·go_keep
 clear hK K
 try simp only [Act.put, sA, sB, sC]
 refine tY 9 (v := ?_) rfl (by kernel_rfl) (.inl ⟨by rfl, ?_⟩) ‹_› ?_
 rotate_left 1
 ·intro w hSw
  (try dsimp only at hSw)
  first | (go_simp; done) | (go_simp; with_reducible rfl)
 try simp only [Act.put, sA, sB, sC]
 refine tY 10 (v := ?_) rfl (by kernel_rfl) (.inl ⟨by rfl, ?_⟩) ‹_› ?_
 rotate_left 1
 ·intro w hSw
  (try dsimp only at hSw)
  first | (go_simp; done) | (go_simp; with_reducible rfl)
 try simp only [Act.put, sA, sB, sC]
 refine tY 11 rfl (by kernel_rfl) (.inr ⟨by rfl, rfl⟩) ‹_› ?_
 try simp only [Act.put, sA, sB, sC]
 refine tY 12 rfl (by kernel_rfl) (.inr ⟨by rfl, rfl⟩) ‹_› ?_
 try simp only [Act.put, sA, sB, sC]
 refine tY 13 rfl (by kernel_rfl) (.inr ⟨by rfl, rfl⟩) ‹_› ?_
 try simp only [Act.put, sA, sB, sC]
 refine tY 14 (v := ?_) rfl (by kernel_rfl) (.inl ⟨by rfl, ?_⟩) ‹_› ?_
 rotate_left 1
 ·intro w hSw
  (try dsimp only at hSw)
  first | (go_simp; done) | (go_simp; with_reducible rfl)
 try simp only [Act.put, sA, sB, sC]
 refine tY 15 (v := ?_) rfl (by kernel_rfl) (.inl ⟨by rfl, ?_⟩) ‹_› ?_
 rotate_left 1
 ·intro w hSw
  (try dsimp only at hSw)
  first | (go_simp; done) | (go_simp; with_reducible rfl)
 try simp only [Act.put, sA, sB, sC]
 refine tY 16 (v := ?_) rfl (by kernel_rfl) (.inl ⟨by rfl, ?_⟩) ‹_› ?_
 rotate_left 1
 ·intro w hSw
  (try dsimp only at hSw)
  first | (go_simp; done) | (go_simp; with_reducible rfl)
 try simp only [Act.put, sA, sB, sC]
 refine wpAnyH_done (by kernel_rfl) ?_ _
 refine NoPanic.normal ?_
 go_wp2
 go_ret
 exact ⟨rfl, hb1⟩
theorem implEntOk_noP (x v : Int) (h : Bool) (d : ByteArray) (l : -9223372036854775808 ≤ x) (u : x ≤ 9223372036854775807) (hp : ¬ isPl x) (w : World) :
  Calls Tryz.prog 228 #[.agg #[.int .i64 x, .int .i64 v, .bool h, .string d]] w fun e w' => e = .returned (.bool false) ∧ Below w.heap.size w w' := by
 have C := dH (implOk_no x l u hp)
 clear hp
 go_enter Tryz.func228, Tryz.ntmps228
 go_wp2_with fail
 have hw0 : Below w.heap.size w (w.alloc (.cells #[.int .i64 x, .int .i64 v, .bool h, .string d] 156)) := (Below.refl _ _).alloc (Nat.le_refl _) _
 refine (dU C _).mono ?_
 rintro e w1 ⟨rfl, b1⟩
 have hb1 := bT hw0 b1
 clear b1 hw0
 go_wp2
 go_ret
 exact ⟨rfl, hb1⟩
theorem implEntOk_P (x v : Int) (h : Bool) (d : ByteArray) (hp : isPl x) (b1 b2 : Bool)
  (h1 : ∀ w, Calls Tryz.prog 283 #[.agg #[.int .i64 x, .int .i64 v, .bool h, .string d]] w fun e w' => e = .returned (.bool b1) ∧ Below w.heap.size w w')
  (h2 : b1 = true → ∀ w, Calls Tryz.prog 284 #[.agg #[.int .i64 x, .int .i64 v, .bool h, .string d]] w fun e w' => e = .returned (.bool b2) ∧ Below w.heap.size w w') (w : World) :
  Calls Tryz.prog 228 #[.agg #[.int .i64 x, .int .i64 v, .bool h, .string d]] w fun e w' => e = .returned (.bool (b1 && b2)) ∧ Below w.heap.size w w' := by
 have C := dH (implOk_yes x hp)
 have C1 := dH h1
 clear h1 hp
 cases b1 with
 | false =>
  clear h2
  go_enter Tryz.func228, Tryz.ntmps228
  go_wp2_with fail
  have F0 := Four.new w (.int .i64 x) (.int .i64 v) (.bool h) (.string d) 156
  have hw0 : Below w.heap.size w (w.alloc (.cells #[.int .i64 x, .int .i64 v, .bool h, .string d] 156)) := (Below.refl _ _).alloc (Nat.le_refl _) _
  refine (dU C _).mono ?_
  rintro e w1 ⟨rfl, b1⟩
  have F1 := F0.kept b1
  have hb1 := bT hw0 b1
  obtain ⟨k0, k1, k2, k3⟩ := F1
  clear b1 hw0 F0
  go_wp2_with fail
  refine (dU C1 _).mono ?_
  rintro e w2 ⟨rfl, b2⟩
  have hb2 := bT hb1 b2
  clear b2 hb1
  go_wp2
  go_ret
  exact ⟨rfl, hb2⟩
 | true =>
  have C2 := dH (h2 rfl)
  clear h2
  go_enter Tryz.func228, Tryz.ntmps228
  go_wp2_with fail
  have F0 := Four.new w (.int .i64 x) (.int .i64 v) (.bool h) (.string d) 156
  have hw0 : Below w.heap.size w (w.alloc (.cells #[.int .i64 x, .int .i64 v, .bool h, .string d] 156)) := (Below.refl _ _).alloc (Nat.le_refl _) _
  refine (dU C _).mono ?_
  rintro e w1 ⟨rfl, b1⟩
  have F1 := F0.kept b1
  have hb1 := bT hw0 b1
  have HF1 := dH F1
  obtain ⟨k0, k1, k2, k3⟩ := F1
  clear b1 hw0 F0
  go_wp2_with fail
  refine (dU C1 _).mono ?_
  rintro e w2 ⟨rfl, b2⟩
  have F2 := (dU HF1).kept b2
  have hb2 := bT hb1 b2
  obtain ⟨q0, q1, q2, q3⟩ := F2
  clear b2 hb1 HF1 k0 k1 k2 k3
  go_wp2_with fail
  refine (dU C2 _).mono ?_
  rintro e w3 ⟨rfl, b3⟩
  have hb3 := bT hb2 b3
  clear b3 hb2
  go_wp2
  go_ret
  exact ⟨by simp, hb3⟩
theorem implEntOk_yes (e : Ent) (hf : e.fits) (h : entP e) (w : World) :
  Calls Tryz.prog 228 #[e.val] w fun r w' => r = .returned (.bool true) ∧ Below w.heap.size w w' := by
 obtain ⟨x, v, h0, d⟩ := e
 obtain ⟨hp, v0, v1, hv, hd, hh⟩ := h
 simp only at hp v0 v1 hv hd hh
 unfold Ent.val
 simp only
 have hp' := hp
 obtain ⟨p0, p1, p2, p3, p4⟩ := hp'
 have e30 : decide (v ≤ 30) = true := decide_eq_true v1
 have e40 : decide ((d.size : Int) ≤ 40) = true := decide_eq_true (by omega)
 rcases Int.lt_or_le 0 v with hv0 | hv0
 ·have hv' := hv hv0
  have h1 := waveOk_above x v h0 d hp (by omega) hv'
  rw [e30] at h1
  cases h0 with
  | false =>
   have h2 := dataOk_data x v d
   rw [e40] at h2
   exact implEntOk_P x v false d hp true true h1 (fun _ => h2) w
  | true =>
   obtain rfl := bytes_nil d (hh rfl).2
   exact implEntOk_P x v true _ hp true true h1 (fun _ => dataOk_hole1 x v hv0) w
 ·obtain rfl : v = 0 := by omega
  cases h0 with
  | false =>
   have h2 := dataOk_data x 0 d
   rw [e40] at h2
   exact implEntOk_P x 0 false d hp true true (waveOk_zero x false d) (fun _ => h2) w
  | true => exact absurd (hh rfl).1 (by omega)
theorem implEntOk_no (e : Ent) (hf : e.fits) (h : ¬ entP e) (w : World) :
  Calls Tryz.prog 228 #[e.val] w fun r w' => r = .returned (.bool false) ∧ Below w.heap.size w w' := by
 obtain ⟨x, v, h0, d⟩ := e
 obtain ⟨f1, f2, f3, f4, f5⟩ := hf
 simp only at f1 f2 f3 f4 f5
 unfold entP at h
 unfold Ent.val
 simp only at h ⊢
 by_cases hp : isPl x
 ·have hp' := hp
  obtain ⟨p0, p1, p2, p3, p4⟩ := hp'
  have D : ∀ v', (v' = 0 ∨ (0 < v' ∧ v' ≤ 30 ∧ x / 4294967296 < v')) → v = v' → ∀ w, Calls Tryz.prog 284 #[.agg #[.int .i64 x, .int .i64 v, .bool h0, .string d]] w fun e w' => e = .returned (.bool false) ∧ Below w.heap.size w w' := by
   rintro v' hv' rfl W
   cases h0 with
   | false =>
    have h2 := dataOk_data x v d W
    by_cases hd : (d.size : Int) ≤ 40
    ·refine absurd ⟨hp, by omega, by omega, fun _ => by omega, by omega, fun h => by cases h⟩ h
    ·rw [decide_eq_false hd] at h2
     exact h2
   | true =>
    by_cases hv0 : 0 < v
    ·refine dataOk_hole2 x v d hv0 (bytes_ne d fun h1 => ?_) W
     exact h ⟨hp, by omega, by omega, fun _ => by omega, by omega, fun _ => ⟨hv0, h1⟩⟩
    ·exact dataOk_hole0 x v d hv0 W
  by_cases hv0 : v = 0
  ·subst hv0
   exact implEntOk_P x 0 h0 d hp true false (waveOk_zero x h0 d) (fun _ => D 0 (.inl rfl) rfl) w
  ·by_cases hv : x / 4294967296 < v
   ·have h1 := waveOk_above x v h0 d hp hv0 hv
    by_cases h30 : v ≤ 30
    ·rw [decide_eq_true h30] at h1
     exact implEntOk_P x v h0 d hp true false h1 (fun _ => D v (.inr ⟨by omega, h30, hv⟩) rfl) w
    ·rw [decide_eq_false h30] at h1
     exact implEntOk_P x v h0 d hp false false h1 (fun h => by cases h) w
   ·exact implEntOk_P x v h0 d hp false false (waveOk_below x v h0 d hp hv0 (by omega)) (fun h => by cases h) w
 ·exact implEntOk_noP x v h0 d f1 f2 hp w
def EntZ (w : World) (b o : Nat) (e : Ent) : Prop := ∀ j u, e.cl[j]? = some u → w.cell? ⟨b, o + j, none⟩ = some u ∧ w.frozen? ⟨b, o + j, none⟩ = false
theorem EntZ.at {w : World} {b o : Nat} {e : Ent} (h : EntZ w b o e) : EntAt w b o e := ⟨(h 0 _ rfl).1, (h 1 _ rfl).1, (h 2 _ rfl).1, (h 3 _ rfl).1⟩
theorem EntZ.below {w w' : World} {b o : Nat} {e : Ent} (h : EntZ w b o e) (hb : Below w.heap.size w w') : EntZ w' b o e := fun j u hu =>
 ⟨(hb.cell (p := ⟨b, o + j, none⟩) (dCell_lt (h j u hu).1)).trans (h j u hu).1, (hb.frozen (p := ⟨b, o + j, none⟩) (dCell_lt (h j u hu).1)).trans (h j u hu).2⟩
theorem cl_lt {e : Ent} {j : Nat} {u : Value} (h : e.cl[j]? = some u) : j < 4 := by
 rcases Nat.lt_or_ge j 4 with h' | h'
 ·exact h'
 ·rw [List.getElem?_eq_none (by simpa [Ent.cl] using h')] at h
  cases h
theorem EntZ.far {w : World} {b o b' o' : Nat} {e : Ent} (h : EntZ w b o e) (hn : b' ≠ b ∨ o' < o ∨ o + 4 ≤ o') (u : Value) : EntZ (w.setCell ⟨b', o', none⟩ u) b o e := fun j v hv => by
 have := cl_lt hv
 exact ⟨sO (h j v hv).1 (by omega), (World.frozen?_setCell _ _ _ _).trans (h j v hv).2⟩
theorem EntZ.pl {w : World} {b o : Nat} {e : Ent} (h : EntZ w b o e) (x : Int) : EntZ (w.setCell ⟨b, o, none⟩ (.int .i64 x)) b o ⟨x, e.wave, e.hole, e.data⟩ := fun j v hv => by
 have hj := cl_lt hv
 have hf : ∀ j u, e.cl[j]? = some u → (w.setCell ⟨b, o, none⟩ (.int .i64 x)).frozen? ⟨b, o + j, none⟩ = false := fun j u hu => (World.frozen?_setCell _ _ _ _).trans (h j u hu).2
 match j, hj with
 | 0, _ => cases hv; exact ⟨World.cell?_setCell_same _ _ _ (h 0 _ rfl).1, hf 0 _ rfl⟩
 | 1, _ => cases hv; exact ⟨sO (h 1 _ rfl).1 (by omega), hf 1 _ rfl⟩
 | 2, _ => cases hv; exact ⟨sO (h 2 _ rfl).1 (by omega), hf 2 _ rfl⟩
 | 3, _ => cases hv; exact ⟨sO (h 3 _ rfl).1 (by omega), hf 3 _ rfl⟩
theorem EntZ.wave {w : World} {b o : Nat} {e : Ent} (h : EntZ w b o e) (x : Int) : EntZ (w.setCell ⟨b, o + 1, none⟩ (.int .i64 x)) b o ⟨e.pl, x, e.hole, e.data⟩ := fun j v hv => by
 have hj := cl_lt hv
 have hf : ∀ j u, e.cl[j]? = some u → (w.setCell ⟨b, o + 1, none⟩ (.int .i64 x)).frozen? ⟨b, o + j, none⟩ = false := fun j u hu => (World.frozen?_setCell _ _ _ _).trans (h j u hu).2
 match j, hj with
 | 0, _ => cases hv; exact ⟨sO (h 0 _ rfl).1 (by omega), hf 0 _ rfl⟩
 | 1, _ => cases hv; exact ⟨World.cell?_setCell_same _ _ _ (h 1 _ rfl).1, hf 1 _ rfl⟩
 | 2, _ => cases hv; exact ⟨sO (h 2 _ rfl).1 (by omega), hf 2 _ rfl⟩
 | 3, _ => cases hv; exact ⟨sO (h 3 _ rfl).1 (by omega), hf 3 _ rfl⟩
theorem EntZ.hole {w : World} {b o : Nat} {e : Ent} (h : EntZ w b o e) (x : Bool) : EntZ (w.setCell ⟨b, o + 2, none⟩ (.bool x)) b o ⟨e.pl, e.wave, x, e.data⟩ := fun j v hv => by
 have hj := cl_lt hv
 have hf : ∀ j u, e.cl[j]? = some u → (w.setCell ⟨b, o + 2, none⟩ (.bool x)).frozen? ⟨b, o + j, none⟩ = false := fun j u hu => (World.frozen?_setCell _ _ _ _).trans (h j u hu).2
 match j, hj with
 | 0, _ => cases hv; exact ⟨sO (h 0 _ rfl).1 (by omega), hf 0 _ rfl⟩
 | 1, _ => cases hv; exact ⟨sO (h 1 _ rfl).1 (by omega), hf 1 _ rfl⟩
 | 2, _ => cases hv; exact ⟨World.cell?_setCell_same _ _ _ (h 2 _ rfl).1, hf 2 _ rfl⟩
 | 3, _ => cases hv; exact ⟨sO (h 3 _ rfl).1 (by omega), hf 3 _ rfl⟩
theorem EntZ.data {w : World} {b o : Nat} {e : Ent} (h : EntZ w b o e) (x : ByteArray) : EntZ (w.setCell ⟨b, o + 3, none⟩ (.string x)) b o ⟨e.pl, e.wave, e.hole, x⟩ := fun j v hv => by
 have hj := cl_lt hv
 have hf : ∀ j u, e.cl[j]? = some u → (w.setCell ⟨b, o + 3, none⟩ (.string x)).frozen? ⟨b, o + j, none⟩ = false := fun j u hu => (World.frozen?_setCell _ _ _ _).trans (h j u hu).2
 match j, hj with
 | 0, _ => cases hv; exact ⟨sO (h 0 _ rfl).1 (by omega), hf 0 _ rfl⟩
 | 1, _ => cases hv; exact ⟨sO (h 1 _ rfl).1 (by omega), hf 1 _ rfl⟩
 | 2, _ => cases hv; exact ⟨sO (h 2 _ rfl).1 (by omega), hf 2 _ rfl⟩
 | 3, _ => cases hv; exact ⟨World.cell?_setCell_same _ _ _ (h 3 _ rfl).1, hf 3 _ rfl⟩
def RowZ (w : World) (b off n : Nat) (f : Nat → Ent) : Prop := ∀ i, i < n → EntZ w b (off + i * 4) (f i)
def putF (f : Nat → Ent) (k : Nat) (e : Ent) : Nat → Ent := fun i => if i = k then e else f i
theorem RowZ.below {w w' : World} {b off n : Nat} {f : Nat → Ent} (h : RowZ w b off n f) (hb : Below w.heap.size w w') : RowZ w' b off n f := fun i hi => (h i hi).below hb
theorem RowZ.part {w w' : World} {b off n k : Nat} {f : Nat → Ent} {e : Ent} (h : RowZ w b off n f) (hk : k < n) (he : EntZ w' b (off + k * 4) e) (ho : ∀ i, i < n → i ≠ k → EntZ w' b (off + i * 4) (f i)) : RowZ w' b off n (putF f k e) := fun i hi => by
 unfold putF
 split
 ·rename_i e1; subst e1; exact he
 ·rename_i e1; exact ho i hi e1
theorem RowZ.pl {w : World} {b off n k : Nat} {f : Nat → Ent} (h : RowZ w b off n f) (hk : k < n) (x : Int) : RowZ (w.setCell ⟨b, off + k * 4, none⟩ (.int .i64 x)) b off n (putF f k ⟨x, (f k).wave, (f k).hole, (f k).data⟩) :=
 h.part hk ((h k hk).pl x) fun i hi hn => (h i hi).far (by omega) _
theorem RowZ.wave {w : World} {b off n k : Nat} {f : Nat → Ent} (h : RowZ w b off n f) (hk : k < n) (x : Int) : RowZ (w.setCell ⟨b, off + k * 4 + 1, none⟩ (.int .i64 x)) b off n (putF f k ⟨(f k).pl, x, (f k).hole, (f k).data⟩) :=
 h.part hk ((h k hk).wave x) fun i hi hn => (h i hi).far (by omega) _
theorem RowZ.hole {w : World} {b off n k : Nat} {f : Nat → Ent} (h : RowZ w b off n f) (hk : k < n) (x : Bool) : RowZ (w.setCell ⟨b, off + k * 4 + 2, none⟩ (.bool x)) b off n (putF f k ⟨(f k).pl, (f k).wave, x, (f k).data⟩) :=
 h.part hk ((h k hk).hole x) fun i hi hn => (h i hi).far (by omega) _
theorem RowZ.data {w : World} {b off n k : Nat} {f : Nat → Ent} (h : RowZ w b off n f) (hk : k < n) (x : ByteArray) : RowZ (w.setCell ⟨b, off + k * 4 + 3, none⟩ (.string x)) b off n (putF f k ⟨(f k).pl, (f k).wave, (f k).hole, x⟩) :=
 h.part hk ((h k hk).data x) fun i hi hn => (h i hi).far (by omega) _
theorem putF_same (f : Nat → Ent) (k : Nat) (e : Ent) : putF f k e k = e := if_pos rfl
theorem putF_twice (f : Nat → Ent) (k : Nat) (e e' : Ent) : putF (putF f k e) k e' = putF f k e' := by
 funext i
 unfold putF
 split <;> rfl
theorem RowZ.all {w : World} {b off n k : Nat} {f : Nat → Ent} (h : RowZ w b off n f) (hk : k < n) (e : Ent) :
  RowZ ((((w.setCell ⟨b, off + k * 4, none⟩ (.int .i64 e.pl)).setCell ⟨b, off + k * 4 + 1, none⟩ (.int .i64 e.wave)).setCell ⟨b, off + k * 4 + 2, none⟩ (.bool e.hole)).setCell ⟨b, off + k * 4 + 3, none⟩ (.string e.data)) b off n (putF f k e) := by
 have h1 := (((h.pl hk e.pl).wave hk e.wave).hole hk e.hole).data hk e.data
 simpa [putF_same, putF_twice] using h1
def zeroEnt : Ent := ⟨0, 0, false, ⟨#[]⟩⟩
def zerosE (n : Nat) : Array Value := madeCells (Value.agg #[.int .i64 0, .int .i64 0, .bool false, .string ⟨#[]⟩]).cells (n * 4)
theorem zerosE_at (n i j : Nat) (u : Value) (h : i < n) (hu : zeroEnt.cl[j]? = some u) : (zerosE n)[i * 4 + j]? = some u := by
 have hj := cl_lt hu
 have e : (Value.agg #[.int .i64 0, .int .i64 0, .bool false, .string ⟨#[]⟩]).cells = #[.int .i64 0, .int .i64 0, .bool false, .string ⟨#[]⟩] := by kernel_rfl
 unfold zerosE
 rw [e]
 have hm : (i * 4 + j) % 4 = j := by omega
 have hlt : i * 4 + j < n * 4 := by omega
 rw [← hu]
 match j, hj with
 | 0, _ =>
  have h0 : i * 4 < n * 4 := by omega
  have m0 : i * 4 % 4 = 0 := by omega
  simp [madeCells, h0, m0, Ent.cl, zeroEnt]
 | 1, _ => simp [madeCells, hlt, hm, Ent.cl, zeroEnt]
 | 2, _ => simp [madeCells, hlt, hm, Ent.cl, zeroEnt]
 | 3, _ => simp [madeCells, hlt, hm, Ent.cl, zeroEnt]
theorem makeE (n : Nat) (h : n ≤ 1073741824) (w : World) : (Instr.makeSlice 78 (.int .i64 (n : Int)) (.int .i64 (n : Int))).run Tryz.prog w = .ok (.slice (some ⟨w.heap.size, 0, none⟩) n n) (w.alloc (.cells (zerosE n) 156)) := by
 obtain ⟨i0, hi, hz0, hz1, hz2⟩ := info_parts (elemE).info
 have := run_make (P := Tryz.prog) w 78 156 i0 _ Tryz.underlying78 hi hz0 .i64 .i64 (n : Int) (n : Int) (by omega) (by omega) (by rw [hz2]; omega) (by omega)
 rw [hz1] at this
 simpa [zerosE] using this
theorem RowZ.made (w : World) (n : Nat) (T : TypeId) : RowZ (w.alloc (.cells (zerosE n) T)) w.heap.size 0 n (fun _ => zeroEnt) := fun i hi j u hu => by
 have := MapKept.heap_alloc w (.cells (zerosE n) T)
 refine ⟨?_, ?_⟩
 ·simp only [World.cell?, this.1]
  rw [Nat.zero_add]
  exact zerosE_at n i j u hi hu
 ·simp only [World.frozen?, this.1]
  simp
theorem RowZ.own {w : World} {b off n base cap : Nat} {f : Nat → Ent} {es : List Ent} (h : RowZ w b off n f) (hn : n = es.length) (hf : ∀ i (hi : i < es.length), f i = es[i]) (hb : base ≤ b) (hl : es.length ≤ 9223372036854775807) (hc : es.length ≤ cap ∧ cap ≤ 9223372036854775807) : OwnRw 4 Ent.cl w base (.slice (some ⟨b, off, none⟩) es.length cap) es := by
 refine ⟨hl, some ⟨b, off, none⟩, cap, rfl, hc, .inr ⟨b, off, rfl, hb, fun i hi j u hu => ?_⟩⟩
 subst hn
 have := h i hi j u (by rw [hf i hi]; exact hu)
 exact this
def okInt (m : Int) : Prop := -9223372036854775808 ≤ m ∧ m ≤ 9223372036854775807
def sumD (es : List Ent) : Nat := (es.map fun e => e.data.size).sum
def RdEntryS (v : Value) (m : List Ent) (W : World) : Prop := Rw 4 Ent.cl W v m
def OwEntryS (lo hi : Nat) (v : Value) (m : List Ent) (W : World) : Prop := OwnRw 4 Ent.cl W lo v m ∧ (m = [] ∨ bO v < hi)
def sizEntryS (m : List Ent) : Nat := m.length + sumD m
def cntEntryS (m : List Ent) : Nat := 4 * m.length
def mkEnt (k : Nat) : Ent := ⟨((k : Nat) : Int), ((k + 1 : Nat) : Int), ((k + 2) % 3 == 0), markT (k + 3)⟩
def mkEntryS (k : Nat) (m : List Ent) : List Ent := (List.range m.length).map fun i => mkEnt (k + 4 * i)
theorem mkEntryS_len (k : Nat) (m : List Ent) : (mkEntryS k m).length = m.length := by simp [mkEntryS]
theorem OwEntryS.rd {lo hi : Nat} {v : Value} {m : List Ent} {W : World} (h : OwEntryS lo hi v m W) : RdEntryS v m W := OwnRw.rw h.1
theorem RdEntryS.below {v : Value} {m : List Ent} {W W' : World} (h : RdEntryS v m W) (b : Below W.heap.size W W') : RdEntryS v m W' := Rw.below h b
theorem formEntryS {v : Value} {m : List Ent} {W : World} (h : RdEntryS v m W) : ∃ a cap, v = .slice a m.length cap ∧ m.length ≤ 9223372036854775807 := by
 obtain ⟨h0, a, cap, rfl, -, -⟩ := h
 exact ⟨a, cap, rfl, h0⟩
theorem OwEntryS.sits {lo hi : Nat} {w : World} {v : Value} {m : List Ent} (h : OwEntryS lo hi v m w) (hf : hi ≤ w.heap.size) : Sits (OwEntryS lo hi v m) lo hi w := by
 refine ⟨hf, fun W hW => ⟨?_, h.2⟩⟩
 obtain ⟨⟨h0, a, cap, rfl, hcap, h⟩, hl⟩ := h
 refine ⟨h0, a, cap, rfl, hcap, ?_⟩
 rcases hl with hl | hl
 ·exact .inl hl
 ·rcases h with h | ⟨b, off, rfl, hb, hc⟩
  ·exact .inl h
  ·have e := hW b hb hl
   exact .inr ⟨b, off, rfl, hb, fun i hi j u hu => ⟨(World.cell?_of_block (a := ⟨b, off + i * 4 + j, none⟩) e).trans (hc i hi j u hu).1, (World.frozen?_of_block (a := ⟨b, off + i * 4 + j, none⟩) e).trans (hc i hi j u hu).2⟩⟩
theorem OwnRw.lt {w : World} {base : Nat} {v : Value} {m : List Ent} (h : OwnRw 4 Ent.cl w base v m) : m = [] ∨ bO v < w.heap.size := by
 obtain ⟨-, a, cap, rfl, -, h⟩ := h
 rcases h with h | ⟨b, off, rfl, hb, hc⟩
 ·exact .inl h
 ·rcases Nat.eq_zero_or_pos m.length with h1 | h1
  ·exact .inl (List.length_eq_zero_iff.1 h1)
  ·exact .inr (dCell_lt (hc 0 h1 0 _ rfl).1)
theorem OwnRw.ge {w : World} {base : Nat} {v : Value} {m : List Ent} (h : OwnRw 4 Ent.cl w base v m) : m = [] ∨ base ≤ bO v := by
 obtain ⟨-, a, cap, rfl, -, h⟩ := h
 rcases h with h | ⟨b, off, rfl, hb, hc⟩
 ·exact .inl h
 ·exact .inr hb
theorem OwnRw.sits {w : World} {base : Nat} {v : Value} {m : List Ent} (h : OwnRw 4 Ent.cl w base v m) : Sits (OwEntryS base w.heap.size v m) base w.heap.size w := OwEntryS.sits ⟨h, h.lt⟩ (Nat.le_refl _)
theorem Wr.set {lo hi b o : Nat} {w wr : World} (h : Wr lo hi w wr) (h1 : lo ≤ b) (h2 : b < hi) (u : Value) : Wr lo hi w (wr.setCell ⟨b, o, none⟩ u) :=
 h.trans ⟨rfl, rfl, rfl, by simp, fun k hk hn => Below.heap_setCell _ _ _ k (fun e => by simp at e; omega)⟩
end Go.Proofs.YtodfgehicpejgaaGreatDoor
