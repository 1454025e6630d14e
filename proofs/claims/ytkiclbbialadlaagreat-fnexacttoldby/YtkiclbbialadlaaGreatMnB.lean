/- spec's MendOk (printed by tools/mkmnb.py). -/
import Derived.Test.YtkiclbbialadlaaGreatGz18
import Derived.Test.YtkiclbbialadlaaGreatGbO
import Derived.Test.YtkiclbbialadlaaGreatGaT
import Derived.Deep.RegionHeld3
import Derived.Deep.DeepCutAuto
namespace Go.Proofs.YtkiclbbialadlaaGreat
open Go.ChangeShapes Go.WideShapes Go.ChangeAt Go.RowKit
set_option linter.unusedVariables false
set_option linter.unusedSimpArgs false
set_option maxRecDepth 100000

set_option maxHeartbeats 2000000 in
theorem specLast_any (v : Value) (m : Mn) (w : World) (hv : RdMend v m w) (hs : ∀ i (h : i < m.seen.length), isPl m.seen[i].pl) :
  Calls Tryz.prog 162 #[v] w fun e w' => e = .returned (.int .i64 (lastO m.seen)) ∧ Below w.heap.size w w' := by
 have ba : ∀ (w : World) o, Below w.heap.size w (w.alloc o) := fun w o => (Below.refl _ _).alloc (Nat.le_refl _) o
 obtain ⟨sv, ev, wv, rfl, h1, h2, h3⟩ := hv
 obtain ⟨-, sa, sc, rfl, -, -⟩ := h1
 have HR := h2
 obtain ⟨ea, ec, rfl, hl⟩ := formEntryS h2
 obtain ⟨wa, wc, rfl, -⟩ := formK h3
 generalize m.bye = f0 at *
 generalize m.epoch = f1 at *
 generalize m.planned = f4 at *
 generalize m.sealed.length = l2 at *
 generalize m.wrote.length = l5 at *
 clear h3
 by_cases h0 : m.seen.length = 0
 ·have e1 : lastO m.seen = 0 := by rw [List.length_eq_zero_iff.1 h0]; rfl
  rw [e1]
  clear HR hs h2
  generalize m.seen.length = n at *
  subst h0
  go_enter Tryz.func162, Tryz.ntmps162
  go_wp2
  go_ret
  exact ⟨rfl, ba _ _⟩
 ·obtain ⟨k, hk⟩ : ∃ k, m.seen.length = k + 1 := ⟨m.seen.length - 1, by omega⟩
  have e1 : lastO m.seen = (m.seen[k]'(by omega)).pl % 4294967296 := by
   rw [lastO_at _ (by omega)]
   simp only [hk, Nat.add_sub_cancel]
  rw [e1]
  obtain ⟨b, off, rfl, hc⟩ := Rw.ent HR (show k < m.seen.length by omega)
  have CO := dH fun W => specOff_yes (m.seen[k]'(by omega)).pl (hs k (by omega)) W
  have k0 := (hc k (by omega)).1
  have bA := ba w (.cells #[.int .i64 f0, .int .i64 f1, .slice sa l2 sc, .slice (some ⟨b, off, none⟩) (k + 1) ec, .bool f4, .slice wa l5 wc] 133)
  have k0' := (bA.cell (p := ⟨b, off + k * 4, none⟩) (dCell_lt k0)).trans k0
  generalize (m.seen[k]'(by omega)).pl = x at *
  rw [hk]
  have t1 : IntKind.i64.wrap (((k + 1 : Nat) : Int) - 1) = (k : Int) := by rw [IntKind.wrap_i64]; omega
  have t2 : IntKind.i64.wrap ((k : Int) + 1 - 1) = (k : Int) := by rw [IntKind.wrap_i64]; omega
  have t3 : (k : Int) < ((k + 1 : Nat) : Int) := by omega
  have t4 : (0 : Int) ≤ (k : Int) := by omega
  have t5 : (((k + 1 : Nat) : Int) == 0) = false := by simp; omega
  have t6 : (k : Int) ≤ 9223372036854775806 := by omega
  have t7 : wrap64 (k : Int) = (k : Int) := by unfold wrap64; omega
  clear hc HR h2 hs e1 k0 h0 hk hl
  go_enter Tryz.func162, Tryz.ntmps162
  go_wp2_with fail
  refine (dU CO _).mono ?_
  rintro e w1 ⟨rfl, rfl⟩
  clear CO
  go_wp2
  go_ret
  exact ⟨rfl, bA⟩
set_option maxHeartbeats 8000000 in
theorem specMendOk_any (cv v : Value) (c : List Int × Int) (m : Mn) (w : World) (hc : RdConfig cv c w) (hv : RdMend v m w) (hf : fitE m.seen) :
  Calls Tryz.prog 111 #[cv, v] w fun e w' => RetB (mnP c.1 c.2 m) e ∧ Below w.heap.size w w' := by
 have ba : ∀ (w : World) o, Below w.heap.size w (w.alloc o) := fun w o => (Below.refl _ _).alloc (Nat.le_refl _) o
 obtain ⟨ds, cop⟩ := c
 obtain ⟨sc, rfl, hc⟩ := hc
 have CL := dH fun W (hb : Below w.heap.size w W) (hs : ∀ i (h : i < m.seen.length), isPl m.seen[i].pl) => specLast_any v m W (hv.below hb) hs
 obtain ⟨sv, ev, wv, rfl, h1, h2, h3⟩ := hv
 simp only at *
 have CC := dH fun W (hb : Below w.heap.size w W) => specCfg_any sc ds cop W (hc.below hb)
 have CN := dH fun W (hb : Below w.heap.size w W) => specNodes_any sc sv ds m.sealed cop W (hc.below hb) (h1.below hb)
 have CA := dH fun W (hb : Below w.heap.size w W) => l6Asc_any ev m.seen W (Rw.below h2 hb)
 obtain ⟨rs, hm, hr, hn⟩ := h3
 have hrl : m.wrote.length = rs.length := by rw [← hm, List.length_map]
 have CW : Hid (∀ W, Below w.heap.size w W → ∀ k (hk : k < rs.length), Calls Tryz.prog 104 #[.agg #[sc, .int .i64 cop], .slice rs[k].a rs[k].m.length rs[k].c] W fun e w' => RetB (nodesP ds cop rs[k].m) e ∧ Below W.heap.size W w') := fun W hb k hk => specNodes_any sc (Sv idL rs[k]) ds rs[k].m cop W (hc.below hb) ((hn _ (List.getElem_mem hk)).below hb)
 have CE := dH fun k (hk : k < m.seen.length) W => specEntOk_any m.seen[k] (hf _ (List.getElem_mem hk)) W
 have HE := dH fun W (hb : Below w.heap.size w W) => Rw.below h2 hb
 have HR := dH fun W (hb : Below w.heap.size w W) => hr.below hb
 have PD : Hid (mnP ds cop m ↔ mnH ds cop m ∧ (∀ i (h : i < m.seen.length), seenP m m.seen[i]) ∧ (∀ i (h : i < rs.length), nodesP ds cop rs[i].m) ∧ wroteP m) := by
  unfold mnP Hid
  obtain ⟨e0, e1, e2, e3, e4, e5⟩ := m
  simp only at hm
  subst hm
  simp only [List.length_map, List.getElem_map]
 have PW : Hid (wroteP m ↔ (rs.length : Int) = if m.planned then lastO m.seen else 0) := by unfold wroteP Hid; rw [hrl]
 have PH : Hid (mnH ds cop m ↔ cfgP ds cop ∧ (1 ≤ m.epoch ∧ m.epoch ≤ 30) ∧ (m.epoch + 1 ≤ m.bye ∧ m.bye ≤ 30) ∧ nodesP ds cop m.sealed ∧ ascE m.seen) := Iff.rfl
 have PS : Hid (∀ e, seenP m e ↔ (entP e ∧ e.pl / 4294967296 = m.epoch ∧ e.wave < m.bye)) := fun e => Iff.rfl
 generalize mnP ds cop m = P at *
 generalize mnH ds cop m = PHm at *
 generalize wroteP m = PWm at *
 generalize seenP m = SP at *
 obtain ⟨-, ca, cc, rfl, -, -⟩ := hc
 obtain ⟨-, sa, sc, rfl, -, -⟩ := h1
 obtain ⟨ea, ec, rfl, hel⟩ := formEntryS h2
 obtain ⟨hrl2, wa, wc, rfl, -, -⟩ := hr
 generalize m.bye = f0 at *
 generalize m.epoch = f1 at *
 generalize m.planned = f4 at *
 generalize m.sealed = ss at *
 generalize m.seen = es at *
 clear hn hm hrl h2 hf
 have B0 := bT (ba w (.cells #[.slice ca ds.length cc, .int .i64 cop] 38)) (ba _ (.cells #[.int .i64 f0, .int .i64 f1, .slice sa ss.length sc, .slice ea es.length ec, .bool f4, .slice wa rs.length wc] 133))
 have X0 := (Bx.new w [.slice ca ds.length cc, .int .i64 cop] 38).below (ba _ (.cells #[.int .i64 f0, .int .i64 f1, .slice sa ss.length sc, .slice ea es.length ec, .bool f4, .slice wa rs.length wc] 133))
 have Y0 := Bx.new (w.alloc (.cells #[.slice ca ds.length cc, .int .i64 cop] 38)) [.int .i64 f0, .int .i64 f1, .slice sa ss.length sc, .slice ea es.length ec, .bool f4, .slice wa rs.length wc] 133
 have e1 : (w.alloc (.cells #[.slice ca ds.length cc, .int .i64 cop] 38)).heap.size = w.heap.size + 1 := by simp
 rw [e1] at Y0
 clear e1
 go_enter Tryz.func111, Tryz.ntmps111
 go_wp2_with fail
 generalize (w.alloc (.cells #[.slice ca ds.length cc, .int .i64 cop] 38)).alloc (.cells #[.int .i64 f0, .int .i64 f1, .slice sa ss.length sc, .slice ea es.length ec, .bool f4, .slice wa rs.length wc] 133) = w0 at *
 have HX := dH fun W (hb : Below w0.heap.size w0 W) => X0.below hb
 have HY := dH fun W (hb : Below w0.heap.size w0 W) => Y0.below hb
 clear X0 Y0
 refine (dU CC _ B0).mono ?_
 rintro e w1 ⟨⟨b1, rfl, h1⟩, bl1⟩
 have k0 := dU HX _ bl1 0 _ rfl
 have k1 := dU HX _ bl1 1 _ rfl
 have j0 := dU HY _ bl1 0 _ rfl
 have j1 := dU HY _ bl1 1 _ rfl
 have j2 := dU HY _ bl1 2 _ rfl
 clear CC
 cases b1
 ·have R : RetB P (.returned (.bool false)) := RetB.no fun h => by have := h1.2 ((dU PH).1 ((dU PD).1 h).1).1; cases this
  clear h1
  go_wp2
  go_ret
  exact ⟨R, bT B0 bl1⟩
 have H1 := dH (h1.1 rfl)
 clear h1
 have CI := dH fun W => l1In_any f1 1 30 W
 go_wp2_with fail
 refine (dU CI _).mono ?_
 rintro e w2 ⟨⟨b2, rfl, h2⟩, rfl⟩
 clear CI
 cases b2
 ·have R : RetB P (.returned (.bool false)) := RetB.no fun h => by have := h2.2 ((dU PH).1 ((dU PD).1 h).1).2.1; cases this
  clear h2
  go_wp2
  go_ret
  exact ⟨R, bT B0 bl1⟩
 have H2 := h2.1 rfl
 clear h2
 have CI := dH fun W => l1In_any f0 (f1 + 1) 30 W
 go_wp2_with fail
 refine (dU CI _).mono ?_
 rintro e w2 ⟨⟨b2, rfl, h2⟩, rfl⟩
 clear CI
 cases b2
 ·have R : RetB P (.returned (.bool false)) := RetB.no fun h => by have := h2.2 ((dU PH).1 ((dU PD).1 h).1).2.2.1; cases this
  clear h2
  go_wp2
  go_ret
  exact ⟨R, bT B0 bl1⟩
 have H3 := h2.1 rfl
 clear h2
 go_wp2_with fail
 refine (dU CN _ (bT B0 bl1)).mono ?_
 rintro e w3 ⟨⟨b3, rfl, h3⟩, bl3⟩
 have bl3' := bT bl1 bl3
 have j3 := dU HY _ bl3' 3 _ rfl
 clear CN bl3 bl1 k0 k1 j0 j1 j2
 cases b3
 ·have R : RetB P (.returned (.bool false)) := RetB.no fun h => by have := h3.2 ((dU PH).1 ((dU PD).1 h).1).2.2.2.1; cases this
  clear h3
  go_wp2
  go_ret
  exact ⟨R, bT B0 bl3'⟩
 have H4 := dH (h3.1 rfl)
 clear h3
 go_wp2_with fail
 refine (dU CA _ (bT B0 bl3')).mono ?_
 rintro e w4 ⟨⟨b4, rfl, h4⟩, dr4⟩
 have bl4 := bT bl3' dr4.below
 clear CA dr4 bl3' j3
 cases b4
 ·have R : RetB P (.returned (.bool false)) := RetB.no fun h => by have := h4.2 ((dU PH).1 ((dU PD).1 h).1).2.2.2.2; cases this
  clear h4
  go_wp2
  go_ret
  exact ⟨R, bT B0 bl4⟩
 have HH : Hid PHm := (dU PH).2 ⟨dU H1, H2, H3, dU H4, h4.1 rfl⟩
 clear h4 H1 H4 PH
 go_wp2
 go_loopw [5] (fun x wr => ∃ k : Nat, x = .int .i64 (k : Int) ∧ k ≤ es.length ∧ Hid (∀ i (h : i < es.length), i < k → SP es[i]) ∧ Below w0.heap.size w0 wr) (fun x _ => es.length - (intOf x).toNat)
 case atStart => exact ⟨0, rfl, Nat.zero_le _, fun i h h' => by omega, bl4⟩
 case round =>
  obtain ⟨k, rfl, hk, hinv, hb⟩ := hrel
  have j3 := dU HY _ hb 3 _ rfl
  by_cases hlt : (k : Int) < (es.length : Int)
  ·have hkl : k < es.length := by omega
   obtain ⟨b, off, rfl, hce⟩ := (dU HE wr (bT B0 hb)).ent hkl
   have EE := hce k hkl
   have CEk := dH (dU CE k hkl)
   have GYk : Hid (SP es[k] → ∀ i (h : i < es.length), i < k + 1 → SP es[i]) := fun he i h h' => by
    rcases Nat.lt_or_ge i k with hlt' | hge
    ·exact dU hinv i h hlt'
    ·obtain rfl : i = k := by omega
     exact he
   have GNk : Hid (¬ SP es[k] → ¬ P) := fun he h => he (((dU PD).1 h).2.1 k hkl)
   have PSk := dH (dU PS es[k])
   have CEp : Hid (∀ h : entP es[k], ∀ W, Calls Tryz.prog 114 #[.int .i64 es[k].pl] W fun e w' => e = .returned (.int .i64 (es[k].pl / 4294967296)) ∧ W = w') := fun h W => specEpoch_yes es[k].pl h.1 W
   generalize es[k] = y at *
   obtain ⟨yp, yw, yh, yd⟩ := y
   simp only [Ent.val] at *
   have PP : Hid (∀ W, Below wr.heap.size wr W → (W.cell? ⟨w.heap.size + 1, 0, none⟩ = some (.int .i64 f0) ∧ W.cell? ⟨w.heap.size + 1, 1, none⟩ = some (.int .i64 f1) ∧ W.cell? ⟨w.heap.size + 1, 3, none⟩ = some (.slice (some ⟨b, off, none⟩) es.length ec)) ∧ W.cell? ⟨b, off + k * 4, none⟩ = some (.int .i64 yp) ∧ W.cell? ⟨b, off + k * 4 + 1, none⟩ = some (.int .i64 yw) ∧ W.cell? ⟨b, off + k * 4 + 2, none⟩ = some (.bool yh) ∧ W.cell? ⟨b, off + k * 4 + 3, none⟩ = some (.string yd)) := fun W hW => ⟨⟨dU HY W (bT hb hW) 0 _ rfl, dU HY W (bT hb hW) 1 _ rfl, dU HY W (bT hb hW) 3 _ rfl⟩, EE.below hW⟩
   have bd : Below wr.heap.size wr wr.drew := (Below.refl _ _).drew
   clear hce hinv EE
   have BR := bT B0 hb
   go_wp2_with fail
   by_cases hE : entP ⟨yp, yw, yh, yd⟩
   ·have CE1 := dH fun W => retB_yes (dU CEk W) hE
    have CEp1 := dH (dU CEp hE)
    by_cases hP : yp / 4294967296 = f1
    ·have hq1 : ((yp / 4294967296) == f1) = true := by simpa using hP
     have hq2 : ((yp / 4294967296) != f1) = false := by simp [hP]
     by_cases hW : yw < f0
     ·have G := dH (dU GYk ((dU PSk).2 ⟨hE, hP, hW⟩))
      have hw1 : decide (f0 ≤ yw) = false := by simpa using hW
      clear GYk GNk CEk CEp hE PSk hP
      refine wp_region_noPanic ?_
      refine wp_region_held_drew (S := fun W => (W.cell? ⟨w.heap.size + 1, 0, none⟩ = some (.int .i64 f0) ∧ W.cell? ⟨w.heap.size + 1, 1, none⟩ = some (.int .i64 f1) ∧ W.cell? ⟨w.heap.size + 1, 3, none⟩ = some (.slice (some ⟨b, off, none⟩) es.length ec)) ∧ W.cell? ⟨b, off + k * 4, none⟩ = some (.int .i64 yp) ∧ W.cell? ⟨b, off + k * 4 + 1, none⟩ = some (.int .i64 yw) ∧ W.cell? ⟨b, off + k * 4 + 2, none⟩ = some (.bool yh) ∧ W.cell? ⟨b, off + k * 4 + 3, none⟩ = some (.string yd)) (by kernel_rfl) (by first | exact dU PP _ b3' | exact dU PP _ (Below.refl _ _) | exact dU PP _ bd) (fun hHeld => ?_)
      refine tY 0 (v := ?_) rfl (by kernel_rfl) (.inl ⟨by rfl, ?_⟩) ‹_› ?_
      rotate_left 1
      ·intro w hSw
       (try dsimp only at hSw)
       first | (go_simp; done) | (go_simp; with_reducible rfl)
      try simp only [Act.put, sA, sB, sC]
      refine tY 1 (v := ?_) rfl (by kernel_rfl) (.inl ⟨by rfl, ?_⟩) ‹_› ?_
      rotate_left 1
      ·intro w hSw
       (try dsimp only at hSw)
       first | (go_simp; done) | (go_simp; with_reducible rfl)
      try simp only [Act.put, sA, sB, sC]
      refine tY 2 (v := ?_) rfl (by kernel_rfl) (.inl ⟨by rfl, ?_⟩) ‹_› ?_
      rotate_left 1
      ·intro w hSw
       (try dsimp only at hSw)
       first | (go_simp; done) | (go_simp; with_reducible rfl)
      try simp only [Act.put, sA, sB, sC]
      refine tY 3 (v := ?_) rfl (by kernel_rfl) (.inl ⟨by rfl, ?_⟩) ‹_› ?_
      rotate_left 1
      ·intro w hSw
       (try dsimp only at hSw)
       first | (go_simp; done) | (go_simp; with_reducible rfl)
      try simp only [Act.put, sA, sB, sC]
      refine tY 4 (v := ?_) rfl (by kernel_rfl) (.inl ⟨by rfl, ?_⟩) ‹_› ?_
      rotate_left 1
      ·intro w hSw
       (try dsimp only at hSw)
       first | (go_simp; done) | (go_simp; with_reducible rfl)
      try simp only [Act.put, sA, sB, sC]
      refine wpAnyH_ready (rs := [5]) (by kernel_rfl) (by simp) ?_
      refine rC rfl (fun K hK => ?_) AllReadyH.nil
      go_simp
      refine (dU CE1 _).mono ?_
      rintro e w3 ⟨rfl, b3⟩
      have b3' := bT bd b3
      (try go_wp2_with fail)
      refine hK.out _ _ (by first | exact dU PP _ b3' | exact dU PP _ (Below.refl _ _) | exact dU PP _ bd) (fun hHeld => ?_)
      clear hK K
      try simp only [Act.put, sA, sB, sC]
      refine tY 6 (v := ?_) rfl (by kernel_rfl) (.inl ⟨by rfl, ?_⟩) ‹_› ?_
      rotate_left 1
      ·intro w hSw
       (try dsimp only at hSw)
       first | (go_simp; done) | (go_simp; with_reducible rfl)
      try simp only [Act.put, sA, sB, sC]
      refine tY 7 (v := ?_) rfl (by kernel_rfl) (.inl ⟨by rfl, ?_⟩) ‹_› ?_
      rotate_left 1
      ·intro w hSw
       (try dsimp only at hSw)
       first | (go_simp; done) | (go_simp; with_reducible rfl)
      try simp only [Act.put, sA, sB, sC]
      refine tY 8 (v := ?_) rfl (by kernel_rfl) (.inl ⟨by rfl, ?_⟩) ‹_› ?_
      rotate_left 1
      ·intro w hSw
       (try dsimp only at hSw)
       first | (go_simp; done) | (go_simp; with_reducible rfl)
      try simp only [Act.put, sA, sB, sC]
      refine tY 9 (v := ?_) rfl (by kernel_rfl) (.inl ⟨by rfl, ?_⟩) ‹_› ?_
      rotate_left 1
      ·intro w hSw
       (try dsimp only at hSw)
       first | (go_simp; done) | (go_simp; with_reducible rfl)
      try simp only [Act.put, sA, sB, sC]
      refine tY 10 (v := ?_) rfl (by kernel_rfl) (.inl ⟨by rfl, ?_⟩) ‹_› ?_
      rotate_left 1
      ·intro w hSw
       (try dsimp only at hSw)
       first | (go_simp; done) | (go_simp; with_reducible rfl)
      try simp only [Act.put, sA, sB, sC]
      refine tY 11 (v := ?_) rfl (by kernel_rfl) (.inl ⟨by rfl, ?_⟩) ‹_› ?_
      rotate_left 1
      ·intro w hSw
       (try dsimp only at hSw)
       first | (go_simp; done) | (go_simp; with_reducible rfl)
      try simp only [Act.put, sA, sB, sC]
      refine tY 12 (v := ?_) rfl (by kernel_rfl) (.inl ⟨by rfl, ?_⟩) ‹_› ?_
      rotate_left 1
      ·intro w hSw
       (try dsimp only at hSw)
       first | (go_simp; done) | (go_simp; with_reducible rfl)
      try simp only [Act.put, sA, sB, sC]
      refine tY 13 (v := ?_) rfl (by kernel_rfl) (.inl ⟨by rfl, ?_⟩) ‹_› ?_
      rotate_left 1
      ·intro w hSw
       (try dsimp only at hSw)
       first | (go_simp; done) | (go_simp; with_reducible rfl)
      try simp only [Act.put, sA, sB, sC]
      refine tY 15 (v := ?_) rfl (by kernel_rfl) (.inl ⟨by rfl, ?_⟩) ‹_› ?_
      rotate_left 1
      ·intro w hSw
       (try dsimp only at hSw)
       first | (go_simp; done) | (go_simp; with_reducible rfl)
      try simp only [Act.put, sA, sB, sC]
      refine tY 16 (v := ?_) rfl (by kernel_rfl) (.inl ⟨by rfl, ?_⟩) ‹_› ?_
      rotate_left 1
      ·intro w hSw
       (try dsimp only at hSw)
       first | (go_simp; done) | (go_simp; with_reducible rfl)
      try simp only [Act.put, sA, sB, sC]
      refine wpAnyH_ready (rs := [14]) (by kernel_rfl) (by simp) ?_
      refine rC rfl (fun K hK => ?_) AllReadyH.nil
      go_simp
      refine (dU CEp1 _).mono ?_
      rintro e w4 ⟨rfl, rfl⟩
      (try go_wp2_with fail)
      refine hK.out _ _ (by first | exact dU PP _ b3' | exact dU PP _ (Below.refl _ _) | exact dU PP _ bd) (fun hHeld => ?_)
      clear hK K
      try simp only [Act.put, sA, sB, sC]
      refine tY 17 (v := ?_) rfl (by kernel_rfl) (.inl ⟨by rfl, ?_⟩) ‹_› ?_
      rotate_left 1
      ·intro w hSw
       (try dsimp only at hSw)
       first | (go_simp; done) | (go_simp; with_reducible rfl)
      try simp only [Act.put, sA, sB, sC]
      refine tY 18 (v := ?_) rfl (by kernel_rfl) (.inl ⟨by rfl, ?_⟩) ‹_› ?_
      rotate_left 1
      ·intro w hSw
       (try dsimp only at hSw)
       first | (go_simp; done) | (go_simp; with_reducible rfl)
      try simp only [Act.put, sA, sB, sC]
      refine tY 19 (v := ?_) rfl (by kernel_rfl) (.inl ⟨by rfl, ?_⟩) ‹_› ?_
      rotate_left 1
      ·intro w hSw
       (try dsimp only at hSw)
       first | (go_simp; done) | (go_simp; with_reducible rfl)
      try simp only [Act.put, sA, sB, sC]
      refine tY 20 (v := ?_) rfl (by kernel_rfl) (.inl ⟨by rfl, ?_⟩) ‹_› ?_
      rotate_left 1
      ·intro w hSw
       (try dsimp only at hSw)
       first | (go_simp; done) | (go_simp; with_reducible rfl)
      try simp only [Act.put, sA, sB, sC]
      refine tY 21 (v := ?_) rfl (by kernel_rfl) (.inl ⟨by rfl, ?_⟩) ‹_› ?_
      rotate_left 1
      ·intro w hSw
       (try dsimp only at hSw)
       first | (go_simp; done) | (go_simp; with_reducible rfl)
      try simp only [Act.put, sA, sB, sC]
      refine tY 22 (v := ?_) rfl (by kernel_rfl) (.inl ⟨by rfl, ?_⟩) ‹_› ?_
      rotate_left 1
      ·intro w hSw
       (try dsimp only at hSw)
       first | (go_simp; done) | (go_simp; with_reducible rfl)
      try simp only [Act.put, sA, sB, sC]
      refine tY 23 (v := ?_) rfl (by kernel_rfl) (.inl ⟨by rfl, ?_⟩) ‹_› ?_
      rotate_left 1
      ·intro w hSw
       (try dsimp only at hSw)
       first | (go_simp; done) | (go_simp; with_reducible rfl)
      try simp only [Act.put, sA, sB, sC]
      refine tY 24 (v := ?_) rfl (by kernel_rfl) (.inl ⟨by rfl, ?_⟩) ‹_› ?_
      rotate_left 1
      ·intro w hSw
       (try dsimp only at hSw)
       first | (go_simp; done) | (go_simp; with_reducible rfl)
      try simp only [Act.put, sA, sB, sC]
      refine tY 25 (v := ?_) rfl (by kernel_rfl) (.inl ⟨by rfl, ?_⟩) ‹_› ?_
      rotate_left 1
      ·intro w hSw
       (try dsimp only at hSw)
       first | (go_simp; done) | (go_simp; with_reducible rfl)
      try simp only [Act.put, sA, sB, sC]
      refine tY 26 (v := ?_) rfl (by kernel_rfl) (.inl ⟨by rfl, ?_⟩) ‹_› ?_
      rotate_left 1
      ·intro w hSw
       (try dsimp only at hSw)
       first | (go_simp; done) | (go_simp; with_reducible rfl)
      try simp only [Act.put, sA, sB, sC]
      refine tY 27 (v := ?_) rfl (by kernel_rfl) (.inl ⟨by rfl, ?_⟩) ‹_› ?_
      rotate_left 1
      ·intro w hSw
       (try dsimp only at hSw)
       first | (go_simp; done) | (go_simp; with_reducible rfl)
      try simp only [Act.put, sA, sB, sC]
      refine tY 28 (v := ?_) rfl (by kernel_rfl) (.inl ⟨by rfl, ?_⟩) ‹_› ?_
      rotate_left 1
      ·intro w hSw
       (try dsimp only at hSw)
       first | (go_simp; done) | (go_simp; with_reducible rfl)
      try simp only [Act.put, sA, sB, sC]
      refine tY 29 (v := ?_) rfl (by kernel_rfl) (.inl ⟨by rfl, ?_⟩) ‹_› ?_
      rotate_left 1
      ·intro w hSw
       (try dsimp only at hSw)
       first | (go_simp; done) | (go_simp; with_reducible rfl)
      try simp only [Act.put, sA, sB, sC]
      refine wpAnyH_done (by kernel_rfl) ?_ _
      refine NoPanic.normal ?_
      go_wp2
      go_roundw
      case rel => exact ⟨k + 1, by go_num, by omega, G, bT hb b3'⟩
      case measure => simp [intOf]; omega
     ·have R : RetB P (.returned (.bool false)) := RetB.no (dU GNk fun h => hW ((dU PSk).1 h).2.2)
      have hw1 : decide (f0 ≤ yw) = true := by simpa using hW
      clear GYk GNk CEk CEp hE PSk hP
      refine wp_region_noPanic ?_
      refine wp_region_held_drew (S := fun W => (W.cell? ⟨w.heap.size + 1, 0, none⟩ = some (.int .i64 f0) ∧ W.cell? ⟨w.heap.size + 1, 1, none⟩ = some (.int .i64 f1) ∧ W.cell? ⟨w.heap.size + 1, 3, none⟩ = some (.slice (some ⟨b, off, none⟩) es.length ec)) ∧ W.cell? ⟨b, off + k * 4, none⟩ = some (.int .i64 yp) ∧ W.cell? ⟨b, off + k * 4 + 1, none⟩ = some (.int .i64 yw) ∧ W.cell? ⟨b, off + k * 4 + 2, none⟩ = some (.bool yh) ∧ W.cell? ⟨b, off + k * 4 + 3, none⟩ = some (.string yd)) (by kernel_rfl) (by first | exact dU PP _ b3' | exact dU PP _ (Below.refl _ _) | exact dU PP _ bd) (fun hHeld => ?_)
      refine tY 0 (v := ?_) rfl (by kernel_rfl) (.inl ⟨by rfl, ?_⟩) ‹_› ?_
      rotate_left 1
      ·intro w hSw
       (try dsimp only at hSw)
       first | (go_simp; done) | (go_simp; with_reducible rfl)
      try simp only [Act.put, sA, sB, sC]
      refine tY 1 (v := ?_) rfl (by kernel_rfl) (.inl ⟨by rfl, ?_⟩) ‹_› ?_
      rotate_left 1
      ·intro w hSw
       (try dsimp only at hSw)
       first | (go_simp; done) | (go_simp; with_reducible rfl)
      try simp only [Act.put, sA, sB, sC]
      refine tY 2 (v := ?_) rfl (by kernel_rfl) (.inl ⟨by rfl, ?_⟩) ‹_› ?_
      rotate_left 1
      ·intro w hSw
       (try dsimp only at hSw)
       first | (go_simp; done) | (go_simp; with_reducible rfl)
      try simp only [Act.put, sA, sB, sC]
      refine tY 3 (v := ?_) rfl (by kernel_rfl) (.inl ⟨by rfl, ?_⟩) ‹_› ?_
      rotate_left 1
      ·intro w hSw
       (try dsimp only at hSw)
       first | (go_simp; done) | (go_simp; with_reducible rfl)
      try simp only [Act.put, sA, sB, sC]
      refine tY 4 (v := ?_) rfl (by kernel_rfl) (.inl ⟨by rfl, ?_⟩) ‹_› ?_
      rotate_left 1
      ·intro w hSw
       (try dsimp only at hSw)
       first | (go_simp; done) | (go_simp; with_reducible rfl)
      try simp only [Act.put, sA, sB, sC]
      refine wpAnyH_ready (rs := [5]) (by kernel_rfl) (by simp) ?_
      refine rC rfl (fun K hK => ?_) AllReadyH.nil
      go_simp
      refine (dU CE1 _).mono ?_
      rintro e w3 ⟨rfl, b3⟩
      have b3' := bT bd b3
      (try go_wp2_with fail)
      refine hK.out _ _ (by first | exact dU PP _ b3' | exact dU PP _ (Below.refl _ _) | exact dU PP _ bd) (fun hHeld => ?_)
      clear hK K
      try simp only [Act.put, sA, sB, sC]
      refine tY 6 (v := ?_) rfl (by kernel_rfl) (.inl ⟨by rfl, ?_⟩) ‹_› ?_
      rotate_left 1
      ·intro w hSw
       (try dsimp only at hSw)
       first | (go_simp; done) | (go_simp; with_reducible rfl)
      try simp only [Act.put, sA, sB, sC]
      refine tY 7 (v := ?_) rfl (by kernel_rfl) (.inl ⟨by rfl, ?_⟩) ‹_› ?_
      rotate_left 1
      ·intro w hSw
       (try dsimp only at hSw)
       first | (go_simp; done) | (go_simp; with_reducible rfl)
      try simp only [Act.put, sA, sB, sC]
      refine tY 8 (v := ?_) rfl (by kernel_rfl) (.inl ⟨by rfl, ?_⟩) ‹_› ?_
      rotate_left 1
      ·intro w hSw
       (try dsimp only at hSw)
       first | (go_simp; done) | (go_simp; with_reducible rfl)
      try simp only [Act.put, sA, sB, sC]
      refine tY 9 (v := ?_) rfl (by kernel_rfl) (.inl ⟨by rfl, ?_⟩) ‹_› ?_
      rotate_left 1
      ·intro w hSw
       (try dsimp only at hSw)
       first | (go_simp; done) | (go_simp; with_reducible rfl)
      try simp only [Act.put, sA, sB, sC]
      refine tY 10 (v := ?_) rfl (by kernel_rfl) (.inl ⟨by rfl, ?_⟩) ‹_› ?_
      rotate_left 1
      ·intro w hSw
       (try dsimp only at hSw)
       first | (go_simp; done) | (go_simp; with_reducible rfl)
      try simp only [Act.put, sA, sB, sC]
      refine tY 11 (v := ?_) rfl (by kernel_rfl) (.inl ⟨by rfl, ?_⟩) ‹_› ?_
      rotate_left 1
      ·intro w hSw
       (try dsimp only at hSw)
       first | (go_simp; done) | (go_simp; with_reducible rfl)
      try simp only [Act.put, sA, sB, sC]
      refine tY 12 (v := ?_) rfl (by kernel_rfl) (.inl ⟨by rfl, ?_⟩) ‹_› ?_
      rotate_left 1
      ·intro w hSw
       (try dsimp only at hSw)
       first | (go_simp; done) | (go_simp; with_reducible rfl)
      try simp only [Act.put, sA, sB, sC]
      refine tY 13 (v := ?_) rfl (by kernel_rfl) (.inl ⟨by rfl, ?_⟩) ‹_› ?_
      rotate_left 1
      ·intro w hSw
       (try dsimp only at hSw)
       first | (go_simp; done) | (go_simp; with_reducible rfl)
      try simp only [Act.put, sA, sB, sC]
      refine tY 15 (v := ?_) rfl (by kernel_rfl) (.inl ⟨by rfl, ?_⟩) ‹_› ?_
      rotate_left 1
      ·intro w hSw
       (try dsimp only at hSw)
       first | (go_simp; done) | (go_simp; with_reducible rfl)
      try simp only [Act.put, sA, sB, sC]
      refine tY 16 (v := ?_) rfl (by kernel_rfl) (.inl ⟨by rfl, ?_⟩) ‹_› ?_
      rotate_left 1
      ·intro w hSw
       (try dsimp only at hSw)
       first | (go_simp; done) | (go_simp; with_reducible rfl)
      try simp only [Act.put, sA, sB, sC]
      refine wpAnyH_ready (rs := [14]) (by kernel_rfl) (by simp) ?_
      refine rC rfl (fun K hK => ?_) AllReadyH.nil
      go_simp
      refine (dU CEp1 _).mono ?_
      rintro e w4 ⟨rfl, rfl⟩
      (try go_wp2_with fail)
      refine hK.out _ _ (by first | exact dU PP _ b3' | exact dU PP _ (Below.refl _ _) | exact dU PP _ bd) (fun hHeld => ?_)
      clear hK K
      try simp only [Act.put, sA, sB, sC]
      refine tY 17 (v := ?_) rfl (by kernel_rfl) (.inl ⟨by rfl, ?_⟩) ‹_› ?_
      rotate_left 1
      ·intro w hSw
       (try dsimp only at hSw)
       first | (go_simp; done) | (go_simp; with_reducible rfl)
      try simp only [Act.put, sA, sB, sC]
      refine tY 18 (v := ?_) rfl (by kernel_rfl) (.inl ⟨by rfl, ?_⟩) ‹_› ?_
      rotate_left 1
      ·intro w hSw
       (try dsimp only at hSw)
       first | (go_simp; done) | (go_simp; with_reducible rfl)
      try simp only [Act.put, sA, sB, sC]
      refine tY 19 (v := ?_) rfl (by kernel_rfl) (.inl ⟨by rfl, ?_⟩) ‹_› ?_
      rotate_left 1
      ·intro w hSw
       (try dsimp only at hSw)
       first | (go_simp; done) | (go_simp; with_reducible rfl)
      try simp only [Act.put, sA, sB, sC]
      refine tY 20 (v := ?_) rfl (by kernel_rfl) (.inl ⟨by rfl, ?_⟩) ‹_› ?_
      rotate_left 1
      ·intro w hSw
       (try dsimp only at hSw)
       first | (go_simp; done) | (go_simp; with_reducible rfl)
      try simp only [Act.put, sA, sB, sC]
      refine tY 21 (v := ?_) rfl (by kernel_rfl) (.inl ⟨by rfl, ?_⟩) ‹_› ?_
      rotate_left 1
      ·intro w hSw
       (try dsimp only at hSw)
       first | (go_simp; done) | (go_simp; with_reducible rfl)
      try simp only [Act.put, sA, sB, sC]
      refine tY 22 (v := ?_) rfl (by kernel_rfl) (.inl ⟨by rfl, ?_⟩) ‹_› ?_
      rotate_left 1
      ·intro w hSw
       (try dsimp only at hSw)
       first | (go_simp; done) | (go_simp; with_reducible rfl)
      try simp only [Act.put, sA, sB, sC]
      refine tY 23 (v := ?_) rfl (by kernel_rfl) (.inl ⟨by rfl, ?_⟩) ‹_› ?_
      rotate_left 1
      ·intro w hSw
       (try dsimp only at hSw)
       first | (go_simp; done) | (go_simp; with_reducible rfl)
      try simp only [Act.put, sA, sB, sC]
      refine tY 24 (v := ?_) rfl (by kernel_rfl) (.inl ⟨by rfl, ?_⟩) ‹_› ?_
      rotate_left 1
      ·intro w hSw
       (try dsimp only at hSw)
       first | (go_simp; done) | (go_simp; with_reducible rfl)
      try simp only [Act.put, sA, sB, sC]
      refine tY 25 (v := ?_) rfl (by kernel_rfl) (.inl ⟨by rfl, ?_⟩) ‹_› ?_
      rotate_left 1
      ·intro w hSw
       (try dsimp only at hSw)
       first | (go_simp; done) | (go_simp; with_reducible rfl)
      try simp only [Act.put, sA, sB, sC]
      refine tY 26 (v := ?_) rfl (by kernel_rfl) (.inl ⟨by rfl, ?_⟩) ‹_› ?_
      rotate_left 1
      ·intro w hSw
       (try dsimp only at hSw)
       first | (go_simp; done) | (go_simp; with_reducible rfl)
      try simp only [Act.put, sA, sB, sC]
      refine tY 27 (v := ?_) rfl (by kernel_rfl) (.inl ⟨by rfl, ?_⟩) ‹_› ?_
      rotate_left 1
      ·intro w hSw
       (try dsimp only at hSw)
       first | (go_simp; done) | (go_simp; with_reducible rfl)
      try simp only [Act.put, sA, sB, sC]
      refine tY 28 (v := ?_) rfl (by kernel_rfl) (.inl ⟨by rfl, ?_⟩) ‹_› ?_
      rotate_left 1
      ·intro w hSw
       (try dsimp only at hSw)
       first | (go_simp; done) | (go_simp; with_reducible rfl)
      try simp only [Act.put, sA, sB, sC]
      refine tY 29 (v := ?_) rfl (by kernel_rfl) (.inl ⟨by rfl, ?_⟩) ‹_› ?_
      rotate_left 1
      ·intro w hSw
       (try dsimp only at hSw)
       first | (go_simp; done) | (go_simp; with_reducible rfl)
      try simp only [Act.put, sA, sB, sC]
      refine wpAnyH_done (by kernel_rfl) ?_ _
      refine NoPanic.normal ?_
      go_wp2
      go_ret
      exact ⟨R, bT BR b3'⟩
    ·have R : RetB P (.returned (.bool false)) := RetB.no (dU GNk fun h => hP ((dU PSk).1 h).2.1)
     have hq1 : ((yp / 4294967296) == f1) = false := by simpa using hP
     have hq2 : ((yp / 4294967296) != f1) = true := by simp [hP]
     clear GYk GNk CEk CEp hE PSk
     refine wp_region_noPanic ?_
     refine wp_region_held_drew (S := fun W => (W.cell? ⟨w.heap.size + 1, 0, none⟩ = some (.int .i64 f0) ∧ W.cell? ⟨w.heap.size + 1, 1, none⟩ = some (.int .i64 f1) ∧ W.cell? ⟨w.heap.size + 1, 3, none⟩ = some (.slice (some ⟨b, off, none⟩) es.length ec)) ∧ W.cell? ⟨b, off + k * 4, none⟩ = some (.int .i64 yp) ∧ W.cell? ⟨b, off + k * 4 + 1, none⟩ = some (.int .i64 yw) ∧ W.cell? ⟨b, off + k * 4 + 2, none⟩ = some (.bool yh) ∧ W.cell? ⟨b, off + k * 4 + 3, none⟩ = some (.string yd)) (by kernel_rfl) (by first | exact dU PP _ b3' | exact dU PP _ (Below.refl _ _) | exact dU PP _ bd) (fun hHeld => ?_)
     refine tY 0 (v := ?_) rfl (by kernel_rfl) (.inl ⟨by rfl, ?_⟩) ‹_› ?_
     rotate_left 1
     ·intro w hSw
      (try dsimp only at hSw)
      first | (go_simp; done) | (go_simp; with_reducible rfl)
     try simp only [Act.put, sA, sB, sC]
     refine tY 1 (v := ?_) rfl (by kernel_rfl) (.inl ⟨by rfl, ?_⟩) ‹_› ?_
     rotate_left 1
     ·intro w hSw
      (try dsimp only at hSw)
      first | (go_simp; done) | (go_simp; with_reducible rfl)
     try simp only [Act.put, sA, sB, sC]
     refine tY 2 (v := ?_) rfl (by kernel_rfl) (.inl ⟨by rfl, ?_⟩) ‹_› ?_
     rotate_left 1
     ·intro w hSw
      (try dsimp only at hSw)
      first | (go_simp; done) | (go_simp; with_reducible rfl)
     try simp only [Act.put, sA, sB, sC]
     refine tY 3 (v := ?_) rfl (by kernel_rfl) (.inl ⟨by rfl, ?_⟩) ‹_› ?_
     rotate_left 1
     ·intro w hSw
      (try dsimp only at hSw)
      first | (go_simp; done) | (go_simp; with_reducible rfl)
     try simp only [Act.put, sA, sB, sC]
     refine tY 4 (v := ?_) rfl (by kernel_rfl) (.inl ⟨by rfl, ?_⟩) ‹_› ?_
     rotate_left 1
     ·intro w hSw
      (try dsimp only at hSw)
      first | (go_simp; done) | (go_simp; with_reducible rfl)
     try simp only [Act.put, sA, sB, sC]
     refine wpAnyH_ready (rs := [5]) (by kernel_rfl) (by simp) ?_
     refine rC rfl (fun K hK => ?_) AllReadyH.nil
     go_simp
     refine (dU CE1 _).mono ?_
     rintro e w3 ⟨rfl, b3⟩
     have b3' := bT bd b3
     (try go_wp2_with fail)
     refine hK.out _ _ (by first | exact dU PP _ b3' | exact dU PP _ (Below.refl _ _) | exact dU PP _ bd) (fun hHeld => ?_)
     clear hK K
     try simp only [Act.put, sA, sB, sC]
     refine tY 6 (v := ?_) rfl (by kernel_rfl) (.inl ⟨by rfl, ?_⟩) ‹_› ?_
     rotate_left 1
     ·intro w hSw
      (try dsimp only at hSw)
      first | (go_simp; done) | (go_simp; with_reducible rfl)
     try simp only [Act.put, sA, sB, sC]
     refine tY 7 (v := ?_) rfl (by kernel_rfl) (.inl ⟨by rfl, ?_⟩) ‹_› ?_
     rotate_left 1
     ·intro w hSw
      (try dsimp only at hSw)
      first | (go_simp; done) | (go_simp; with_reducible rfl)
     try simp only [Act.put, sA, sB, sC]
     refine tY 8 (v := ?_) rfl (by kernel_rfl) (.inl ⟨by rfl, ?_⟩) ‹_› ?_
     rotate_left 1
     ·intro w hSw
      (try dsimp only at hSw)
      first | (go_simp; done) | (go_simp; with_reducible rfl)
     try simp only [Act.put, sA, sB, sC]
     refine tY 9 (v := ?_) rfl (by kernel_rfl) (.inl ⟨by rfl, ?_⟩) ‹_› ?_
     rotate_left 1
     ·intro w hSw
      (try dsimp only at hSw)
      first | (go_simp; done) | (go_simp; with_reducible rfl)
     try simp only [Act.put, sA, sB, sC]
     refine tY 10 (v := ?_) rfl (by kernel_rfl) (.inl ⟨by rfl, ?_⟩) ‹_› ?_
     rotate_left 1
     ·intro w hSw
      (try dsimp only at hSw)
      first | (go_simp; done) | (go_simp; with_reducible rfl)
     try simp only [Act.put, sA, sB, sC]
     refine tY 11 (v := ?_) rfl (by kernel_rfl) (.inl ⟨by rfl, ?_⟩) ‹_› ?_
     rotate_left 1
     ·intro w hSw
      (try dsimp only at hSw)
      first | (go_simp; done) | (go_simp; with_reducible rfl)
     try simp only [Act.put, sA, sB, sC]
     refine tY 12 (v := ?_) rfl (by kernel_rfl) (.inl ⟨by rfl, ?_⟩) ‹_› ?_
     rotate_left 1
     ·intro w hSw
      (try dsimp only at hSw)
      first | (go_simp; done) | (go_simp; with_reducible rfl)
     try simp only [Act.put, sA, sB, sC]
     refine tY 13 (v := ?_) rfl (by kernel_rfl) (.inl ⟨by rfl, ?_⟩) ‹_› ?_
     rotate_left 1
     ·intro w hSw
      (try dsimp only at hSw)
      first | (go_simp; done) | (go_simp; with_reducible rfl)
     try simp only [Act.put, sA, sB, sC]
     refine tY 15 (v := ?_) rfl (by kernel_rfl) (.inl ⟨by rfl, ?_⟩) ‹_› ?_
     rotate_left 1
     ·intro w hSw
      (try dsimp only at hSw)
      first | (go_simp; done) | (go_simp; with_reducible rfl)
     try simp only [Act.put, sA, sB, sC]
     refine tY 16 (v := ?_) rfl (by kernel_rfl) (.inl ⟨by rfl, ?_⟩) ‹_› ?_
     rotate_left 1
     ·intro w hSw
      (try dsimp only at hSw)
      first | (go_simp; done) | (go_simp; with_reducible rfl)
     try simp only [Act.put, sA, sB, sC]
     refine wpAnyH_ready (rs := [14]) (by kernel_rfl) (by simp) ?_
     refine rC rfl (fun K hK => ?_) AllReadyH.nil
     go_simp
     refine (dU CEp1 _).mono ?_
     rintro e w4 ⟨rfl, rfl⟩
     (try go_wp2_with fail)
     refine hK.out _ _ (by first | exact dU PP _ b3' | exact dU PP _ (Below.refl _ _) | exact dU PP _ bd) (fun hHeld => ?_)
     clear hK K
     try simp only [Act.put, sA, sB, sC]
     refine tY 17 (v := ?_) rfl (by kernel_rfl) (.inl ⟨by rfl, ?_⟩) ‹_› ?_
     rotate_left 1
     ·intro w hSw
      (try dsimp only at hSw)
      first | (go_simp; done) | (go_simp; with_reducible rfl)
     try simp only [Act.put, sA, sB, sC]
     refine tY 18 (v := ?_) rfl (by kernel_rfl) (.inl ⟨by rfl, ?_⟩) ‹_› ?_
     rotate_left 1
     ·intro w hSw
      (try dsimp only at hSw)
      first | (go_simp; done) | (go_simp; with_reducible rfl)
     try simp only [Act.put, sA, sB, sC]
     refine tY 19 (v := ?_) rfl (by kernel_rfl) (.inl ⟨by rfl, ?_⟩) ‹_› ?_
     rotate_left 1
     ·intro w hSw
      (try dsimp only at hSw)
      first | (go_simp; done) | (go_simp; with_reducible rfl)
     try simp only [Act.put, sA, sB, sC]
     refine tY 20 rfl (by kernel_rfl) (.inr ⟨by rfl, rfl⟩) ‹_› ?_
     try simp only [Act.put, sA, sB, sC]
     refine tY 21 rfl (by kernel_rfl) (.inr ⟨by rfl, rfl⟩) ‹_› ?_
     try simp only [Act.put, sA, sB, sC]
     refine tY 22 rfl (by kernel_rfl) (.inr ⟨by rfl, rfl⟩) ‹_› ?_
     try simp only [Act.put, sA, sB, sC]
     refine tY 23 rfl (by kernel_rfl) (.inr ⟨by rfl, rfl⟩) ‹_› ?_
     try simp only [Act.put, sA, sB, sC]
     refine tY 24 rfl (by kernel_rfl) (.inr ⟨by rfl, rfl⟩) ‹_› ?_
     try simp only [Act.put, sA, sB, sC]
     refine tY 25 rfl (by kernel_rfl) (.inr ⟨by rfl, rfl⟩) ‹_› ?_
     try simp only [Act.put, sA, sB, sC]
     refine tY 26 rfl (by kernel_rfl) (.inr ⟨by rfl, rfl⟩) ‹_› ?_
     try simp only [Act.put, sA, sB, sC]
     refine tY 27 rfl (by kernel_rfl) (.inr ⟨by rfl, rfl⟩) ‹_› ?_
     try simp only [Act.put, sA, sB, sC]
     refine tY 28 rfl (by kernel_rfl) (.inr ⟨by rfl, rfl⟩) ‹_› ?_
     try simp only [Act.put, sA, sB, sC]
     refine tY 29 (v := ?_) rfl (by kernel_rfl) (.inl ⟨by rfl, ?_⟩) ‹_› ?_
     rotate_left 1
     ·intro w hSw
      (try dsimp only at hSw)
      first | (go_simp; done) | (go_simp; with_reducible rfl)
     try simp only [Act.put, sA, sB, sC]
     refine wpAnyH_done (by kernel_rfl) ?_ _
     refine NoPanic.normal ?_
     go_wp2
     go_ret
     exact ⟨R, bT BR b3'⟩
   ·have CE1 := dH fun W => retB_no (dU CEk W) hE
    have R : RetB P (.returned (.bool false)) := RetB.no (dU GNk fun h => hE ((dU PSk).1 h).1)
    clear GYk GNk CEk CEp hE PSk
    refine wp_region_noPanic ?_
    refine wp_region_held_drew (S := fun W => (W.cell? ⟨w.heap.size + 1, 0, none⟩ = some (.int .i64 f0) ∧ W.cell? ⟨w.heap.size + 1, 1, none⟩ = some (.int .i64 f1) ∧ W.cell? ⟨w.heap.size + 1, 3, none⟩ = some (.slice (some ⟨b, off, none⟩) es.length ec)) ∧ W.cell? ⟨b, off + k * 4, none⟩ = some (.int .i64 yp) ∧ W.cell? ⟨b, off + k * 4 + 1, none⟩ = some (.int .i64 yw) ∧ W.cell? ⟨b, off + k * 4 + 2, none⟩ = some (.bool yh) ∧ W.cell? ⟨b, off + k * 4 + 3, none⟩ = some (.string yd)) (by kernel_rfl) (by first | exact dU PP _ b3' | exact dU PP _ (Below.refl _ _) | exact dU PP _ bd) (fun hHeld => ?_)
    refine tY 0 (v := ?_) rfl (by kernel_rfl) (.inl ⟨by rfl, ?_⟩) ‹_› ?_
    rotate_left 1
    ·intro w hSw
     (try dsimp only at hSw)
     first | (go_simp; done) | (go_simp; with_reducible rfl)
    try simp only [Act.put, sA, sB, sC]
    refine tY 1 (v := ?_) rfl (by kernel_rfl) (.inl ⟨by rfl, ?_⟩) ‹_› ?_
    rotate_left 1
    ·intro w hSw
     (try dsimp only at hSw)
     first | (go_simp; done) | (go_simp; with_reducible rfl)
    try simp only [Act.put, sA, sB, sC]
    refine tY 2 (v := ?_) rfl (by kernel_rfl) (.inl ⟨by rfl, ?_⟩) ‹_› ?_
    rotate_left 1
    ·intro w hSw
     (try dsimp only at hSw)
     first | (go_simp; done) | (go_simp; with_reducible rfl)
    try simp only [Act.put, sA, sB, sC]
    refine tY 3 (v := ?_) rfl (by kernel_rfl) (.inl ⟨by rfl, ?_⟩) ‹_› ?_
    rotate_left 1
    ·intro w hSw
     (try dsimp only at hSw)
     first | (go_simp; done) | (go_simp; with_reducible rfl)
    try simp only [Act.put, sA, sB, sC]
    refine tY 4 (v := ?_) rfl (by kernel_rfl) (.inl ⟨by rfl, ?_⟩) ‹_› ?_
    rotate_left 1
    ·intro w hSw
     (try dsimp only at hSw)
     first | (go_simp; done) | (go_simp; with_reducible rfl)
    try simp only [Act.put, sA, sB, sC]
    refine wpAnyH_ready (rs := [5]) (by kernel_rfl) (by simp) ?_
    refine rC rfl (fun K hK => ?_) AllReadyH.nil
    go_simp
    refine (dU CE1 _).mono ?_
    rintro e w3 ⟨rfl, b3⟩
    have b3' := bT bd b3
    (try go_wp2_with fail)
    refine hK.out _ _ (by first | exact dU PP _ b3' | exact dU PP _ (Below.refl _ _) | exact dU PP _ bd) (fun hHeld => ?_)
    clear hK K
    try simp only [Act.put, sA, sB, sC]
    refine tY 6 (v := ?_) rfl (by kernel_rfl) (.inl ⟨by rfl, ?_⟩) ‹_› ?_
    rotate_left 1
    ·intro w hSw
     (try dsimp only at hSw)
     first | (go_simp; done) | (go_simp; with_reducible rfl)
    try simp only [Act.put, sA, sB, sC]
    refine tY 7 (v := ?_) rfl (by kernel_rfl) (.inl ⟨by rfl, ?_⟩) ‹_› ?_
    rotate_left 1
    ·intro w hSw
     (try dsimp only at hSw)
     first | (go_simp; done) | (go_simp; with_reducible rfl)
    try simp only [Act.put, sA, sB, sC]
    refine tY 8 rfl (by kernel_rfl) (.inr ⟨by rfl, rfl⟩) ‹_› ?_
    try simp only [Act.put, sA, sB, sC]
    refine tY 9 rfl (by kernel_rfl) (.inr ⟨by rfl, rfl⟩) ‹_› ?_
    try simp only [Act.put, sA, sB, sC]
    refine tY 10 rfl (by kernel_rfl) (.inr ⟨by rfl, rfl⟩) ‹_› ?_
    try simp only [Act.put, sA, sB, sC]
    refine tY 11 rfl (by kernel_rfl) (.inr ⟨by rfl, rfl⟩) ‹_› ?_
    try simp only [Act.put, sA, sB, sC]
    refine tY 12 rfl (by kernel_rfl) (.inr ⟨by rfl, rfl⟩) ‹_› ?_
    try simp only [Act.put, sA, sB, sC]
    refine tY 13 rfl (by kernel_rfl) (.inr ⟨by rfl, rfl⟩) ‹_› ?_
    try simp only [Act.put, sA, sB, sC]
    refine tY 14 rfl (by kernel_rfl) (.inr ⟨by rfl, rfl⟩) ‹_› ?_
    try simp only [Act.put, sA, sB, sC]
    refine tY 15 rfl (by kernel_rfl) (.inr ⟨by rfl, rfl⟩) ‹_› ?_
    try simp only [Act.put, sA, sB, sC]
    refine tY 16 rfl (by kernel_rfl) (.inr ⟨by rfl, rfl⟩) ‹_› ?_
    try simp only [Act.put, sA, sB, sC]
    refine tY 17 rfl (by kernel_rfl) (.inr ⟨by rfl, rfl⟩) ‹_› ?_
    try simp only [Act.put, sA, sB, sC]
    refine tY 18 (v := ?_) rfl (by kernel_rfl) (.inl ⟨by rfl, ?_⟩) ‹_› ?_
    rotate_left 1
    ·intro w hSw
     (try dsimp only at hSw)
     first | (go_simp; done) | (go_simp; with_reducible rfl)
    try simp only [Act.put, sA, sB, sC]
    refine tY 19 (v := ?_) rfl (by kernel_rfl) (.inl ⟨by rfl, ?_⟩) ‹_› ?_
    rotate_left 1
    ·intro w hSw
     (try dsimp only at hSw)
     first | (go_simp; done) | (go_simp; with_reducible rfl)
    try simp only [Act.put, sA, sB, sC]
    refine tY 20 rfl (by kernel_rfl) (.inr ⟨by rfl, rfl⟩) ‹_› ?_
    try simp only [Act.put, sA, sB, sC]
    refine tY 21 rfl (by kernel_rfl) (.inr ⟨by rfl, rfl⟩) ‹_› ?_
    try simp only [Act.put, sA, sB, sC]
    refine tY 22 rfl (by kernel_rfl) (.inr ⟨by rfl, rfl⟩) ‹_› ?_
    try simp only [Act.put, sA, sB, sC]
    refine tY 23 rfl (by kernel_rfl) (.inr ⟨by rfl, rfl⟩) ‹_› ?_
    try simp only [Act.put, sA, sB, sC]
    refine tY 24 rfl (by kernel_rfl) (.inr ⟨by rfl, rfl⟩) ‹_› ?_
    try simp only [Act.put, sA, sB, sC]
    refine tY 25 rfl (by kernel_rfl) (.inr ⟨by rfl, rfl⟩) ‹_› ?_
    try simp only [Act.put, sA, sB, sC]
    refine tY 26 rfl (by kernel_rfl) (.inr ⟨by rfl, rfl⟩) ‹_› ?_
    try simp only [Act.put, sA, sB, sC]
    refine tY 27 rfl (by kernel_rfl) (.inr ⟨by rfl, rfl⟩) ‹_› ?_
    try simp only [Act.put, sA, sB, sC]
    refine tY 28 rfl (by kernel_rfl) (.inr ⟨by rfl, rfl⟩) ‹_› ?_
    try simp only [Act.put, sA, sB, sC]
    refine tY 29 (v := ?_) rfl (by kernel_rfl) (.inl ⟨by rfl, ?_⟩) ‹_› ?_
    rotate_left 1
    ·intro w hSw
     (try dsimp only at hSw)
     first | (go_simp; done) | (go_simp; with_reducible rfl)
    try simp only [Act.put, sA, sB, sC]
    refine wpAnyH_done (by kernel_rfl) ?_ _
    refine NoPanic.normal ?_
    go_wp2
    go_ret
    exact ⟨R, bT BR b3'⟩
  ·have HS : Hid (∀ i (h : i < es.length), SP es[i]) := fun i hi => dU hinv i hi (by omega)
   have HSP : ∀ i (h : i < es.length), isPl es[i].pl := fun i hi => ((dU PS _).1 (dU hinv i hi (by omega))).1.1
   have CL1 := dH fun W hb => dU CL W hb HSP
   clear hinv CE HE PS CL HSP
   go_wp2
   go_loopw [6] (fun x wr => ∃ k : Nat, x = .int .i64 (k : Int) ∧ k ≤ rs.length ∧ Hid (∀ i (h : i < rs.length), i < k → nodesP ds cop rs[i].m) ∧ Below w0.heap.size w0 wr) (fun x _ => rs.length - (intOf x).toNat)
   case atStart => exact ⟨0, rfl, Nat.zero_le _, fun i h h' => by omega, hb⟩
   case round =>
    clear hb j3
    obtain ⟨k, rfl, hk, hinv, hb⟩ := hrel
    have j5 := dU HY _ hb 5 _ rfl
    by_cases hlt : (k : Int) < (rs.length : Int)
    ·have hkl : k < rs.length := by omega
     obtain ⟨b, off, rfl, hce⟩ := (dU HR wr (bT B0 hb)).ls hkl
     have EE := hce k hkl
     have CWk := dH fun W (hW : Below wr.heap.size wr W) => dU CW W (bT B0 (bT hb hW)) k hkl
     have GYk : Hid (nodesP ds cop rs[k].m → ∀ i (h : i < rs.length), i < k + 1 → nodesP ds cop rs[i].m) := fun he i h h' => by
      rcases Nat.lt_or_ge i k with hlt' | hge
      ·exact dU hinv i h hlt'
      ·obtain rfl : i = k := by omega
       exact he
     have GNk : Hid (¬ nodesP ds cop rs[k].m → ¬ P) := fun he h => he (((dU PD).1 h).2.2.1 k hkl)
     generalize rs[k] = y at *
     obtain ⟨ya, yc, yn⟩ := y
     simp only at *
     generalize nodesP ds cop yn = NP at *
     have PP : Hid (∀ W, Below wr.heap.size wr W → (W.cell? ⟨w.heap.size, 0, none⟩ = some (.slice ca ds.length cc) ∧ W.cell? ⟨w.heap.size, 1, none⟩ = some (.int .i64 cop)) ∧ W.cell? ⟨w.heap.size + 1, 5, none⟩ = some (.slice (some ⟨b, off, none⟩) rs.length wc) ∧ W.cell? ⟨b, off + k, none⟩ = some (.slice ya yn.length yc)) := fun W hW => ⟨⟨dU HX W (bT hb hW) 0 _ rfl, dU HX W (bT hb hW) 1 _ rfl⟩, dU HY W (bT hb hW) 5 _ rfl, (hW.cell (p := ⟨b, off + k, none⟩) (dCell_lt EE)).trans EE⟩
     have bd : Below wr.heap.size wr wr.drew := (Below.refl _ _).drew
     have BR := bT B0 hb
     clear hce hinv EE
     go_wp2_with fail
     go_region_held3 (fun W => (W.cell? ⟨w.heap.size, 0, none⟩ = some (.slice ca ds.length cc) ∧ W.cell? ⟨w.heap.size, 1, none⟩ = some (.int .i64 cop)) ∧ W.cell? ⟨w.heap.size + 1, 5, none⟩ = some (.slice (some ⟨b, off, none⟩) rs.length wc) ∧ W.cell? ⟨b, off + k, none⟩ = some (.slice ya yn.length yc)) (first | exact dU PP _ b5' | exact dU PP _ (Below.refl _ _) | exact dU PP _ bd | go_keep)
      (first
       | (go_at_call 104; refine (dU CWk _ bd).mono ?_; rintro e w5 ⟨⟨b5, rfl, h5⟩, bl5⟩; have b5' := bT bd bl5))
     all_goals
      cases b5
      ·have R : RetB P (.returned (.bool false)) := RetB.no (dU GNk fun h => by have := h5.2 h; cases this)
       clear GYk GNk h5 CWk
       go_wp2
       go_ret
       exact ⟨R, bT BR b5'⟩
      ·have G := dH (dU GYk (h5.1 rfl))
       clear GYk GNk h5 CWk
       go_wp2
       go_roundw
       case rel => exact ⟨k + 1, by go_num, by omega, G, bT hb b5'⟩
       case measure => simp [intOf]; omega
    ·have HN : Hid (∀ i (h : i < rs.length), nodesP ds cop rs[i].m) := fun i hi => dU hinv i hi (by omega)
     have GY : Hid (PWm → P) := fun h => (dU PD).2 ⟨dU HH, dU HS, dU HN, h⟩
     have GN : Hid (¬ PWm → ¬ P) := fun h hP => h ((dU PD).1 hP).2.2.2
     have j4 := dU HY _ hb 4 _ rfl
     clear hinv HR CW PD HH HS HN HX
     cases f4
     ·have R : Hid (RetB P (.returned (.bool ((rs.length : Int) == 0)))) := ⟨_, rfl, by
       constructor
       ·intro h
        exact dU GY ((dU PW).2 (by simpa using h))
       ·intro h
        have := (dU PW).1 (Classical.byContradiction fun hno => dU GN hno h)
        simpa using this⟩
      clear GY GN PW CL1
      go_wp2
      go_ret
      exact ⟨dU R, bT B0 hb⟩
     ·have R : Hid (RetB P (.returned (.bool ((rs.length : Int) == lastO es)))) := ⟨_, rfl, by
       constructor
       ·intro h
        exact dU GY ((dU PW).2 (by simpa using h))
       ·intro h
        have := (dU PW).1 (Classical.byContradiction fun hno => dU GN hno h)
        simpa using this⟩
      generalize lastO es = lo at *
      have PP : Hid (∀ W, Below wr.heap.size wr W → (W.cell? ⟨w.heap.size + 1, 0, none⟩ = some (.int .i64 f0) ∧ W.cell? ⟨w.heap.size + 1, 1, none⟩ = some (.int .i64 f1) ∧ W.cell? ⟨w.heap.size + 1, 2, none⟩ = some (.slice sa ss.length sc)) ∧ W.cell? ⟨w.heap.size + 1, 3, none⟩ = some (.slice ea es.length ec) ∧ W.cell? ⟨w.heap.size + 1, 4, none⟩ = some (.bool true) ∧ W.cell? ⟨w.heap.size + 1, 5, none⟩ = some (.slice wa rs.length wc)) := fun W hW => ⟨⟨dU HY W (bT hb hW) 0 _ rfl, dU HY W (bT hb hW) 1 _ rfl, dU HY W (bT hb hW) 2 _ rfl⟩, dU HY W (bT hb hW) 3 _ rfl, dU HY W (bT hb hW) 4 _ rfl, dU HY W (bT hb hW) 5 _ rfl⟩
      have bd : Below wr.heap.size wr wr.drew := (Below.refl _ _).drew
      have BR := bT B0 hb
      have CL2 := dH (dU CL1 _ (bT BR bd))
      clear GY GN PW CL1 HY
      go_wp2_with fail
      go_region_held3 (fun W => (W.cell? ⟨w.heap.size + 1, 0, none⟩ = some (.int .i64 f0) ∧ W.cell? ⟨w.heap.size + 1, 1, none⟩ = some (.int .i64 f1) ∧ W.cell? ⟨w.heap.size + 1, 2, none⟩ = some (.slice sa ss.length sc)) ∧ W.cell? ⟨w.heap.size + 1, 3, none⟩ = some (.slice ea es.length ec) ∧ W.cell? ⟨w.heap.size + 1, 4, none⟩ = some (.bool true) ∧ W.cell? ⟨w.heap.size + 1, 5, none⟩ = some (.slice wa rs.length wc)) (first | exact dU PP _ b5' | exact dU PP _ (Below.refl _ _) | exact dU PP _ bd | go_keep)
       (first
        | (go_at_call 162; refine (dU CL2).mono ?_; rintro e w5 ⟨rfl, bl5⟩; have b5' := bT bd bl5))
      all_goals
       clear CL2
       go_wp2
       go_ret
       exact ⟨dU R, bT BR b5'⟩
end Go.Proofs.YtkiclbbialadlaaGreat
