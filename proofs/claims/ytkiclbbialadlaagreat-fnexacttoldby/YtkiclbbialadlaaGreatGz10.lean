/- Several texts in one: WkDa, WkD. -/
import Derived.Test.YtkiclbbialadlaaGreatGz14
import Derived.BigQuiet
import Derived.Deep.QuietTactic
import Derived.Test.YtkiclbbialadlaaGreatWkC
namespace Go.Proofs.YtkiclbbialadlaaGreat
open Go.ChangeShapes Go.WideShapes Go.ChangeAt Go.RowKit
set_option linter.unusedSimpArgs false
set_option linter.unusedVariables false
set_option maxRecDepth 100000
set_option maxHeartbeats 4000000 in
theorem l12Sent_any (v : Value) (m : Wo) (w : World) (ok : okWorld m) (hs : sizWorld m ≤ 1048576) (hv : RdWorld v m w) :
  Calls Tryz.prog 67 #[v] w fun e w' => RetB (senP m) e ∧ Below w.heap.size w w' := by
 obtain ⟨da, dc, sa, sc, la, lc, ea, ec, wa, wc, na, nc, ra, rc', ta, tc, rfl, -, -, -, -, -, -, -, hse⟩ := partsWorld hv
 obtain ⟨⟨ds, cop⟩, stores, lost, ⟨eras, trim⟩, writers, mends, readers, sent, torn⟩ := m
 obtain ⟨-, -, -, -, -, -, -, okX⟩ := ok
 simp only at *
 have hl0 := hse.1
 have PD : Hid (senP ⟨(ds, cop), stores, lost, ⟨eras, trim⟩, writers, mends, readers, sent, torn⟩ ↔ (sent.length : Int) ≤ 120 ∧ ∀ i (h : i < sent.length), plIn eras.length sent[i].pl ∧ (sent[i].data.size : Int) ≤ 40 ∧ (0 < i → (sent[i - 1]'(by omega)).pl < sent[i].pl)) := by
  unfold senP senQ Hid
  rw [show ((sent.length : Int) ≤ 120 ↔ sent.length ≤ 120) from by omega]
  constructor
  ·rintro ⟨h1, h2⟩
   exact ⟨h1, fun i h => ⟨(h2 i h).1, by have := (h2 i h).2.1; simp only at this; omega, (h2 i h).2.2⟩⟩
  ·rintro ⟨h1, h2⟩
   exact ⟨h1, fun i h => ⟨(h2 i h).1, by have := (h2 i h).2.1; simp only at *; omega, (h2 i h).2.2⟩⟩
 generalize senP ⟨(ds, cop), stores, lost, ⟨eras, trim⟩, writers, mends, readers, sent, torn⟩ = P at *
 have B0 : Below w.heap.size w (w.alloc (.cells #[.slice da ds.length dc, .int .i64 cop, .slice sa stores.length sc, .slice la lost.length lc, .slice ea eras.length ec, .int .i64 trim, .slice wa writers.length wc, .slice na mends.length nc, .slice ra readers.length rc', .slice ta sent.length tc, .bool torn] 47)) := (Below.refl _ _).alloc (Nat.le_refl _) _
 have X0 := Bx.new w [.slice da ds.length dc, .int .i64 cop, .slice sa stores.length sc, .slice la lost.length lc, .slice ea eras.length ec, .int .i64 trim, .slice wa writers.length wc, .slice na mends.length nc, .slice ra readers.length rc', .slice ta sent.length tc, .bool torn] 47
 have HV := dH fun W (hb : Below w.heap.size w W) => Rw.below hse hb
 have HO : Hid (∀ k (hk : k < sent.length), okSent sent[k]) := fun k hk => okX _ (List.getElem_mem hk)
 clear hv hs okX hse
 generalize eras.length = en at *
 by_cases d1 : 120 < (sent.length : Int)
 ·have R := RetB.no (fun h => by have := ((dU PD).1 h).1; omega)
  clear PD HV HO X0
  go_enter Tryz.func67, Tryz.ntmps67
  go_wp2
  go_ret
  exact ⟨R, B0⟩
 have PD' : Hid ((∀ i (h : i < sent.length), plIn en sent[i].pl ∧ (sent[i].data.size : Int) ≤ 40 ∧ (0 < i → (sent[i - 1]'(by omega)).pl < sent[i].pl)) ↔ P) := ⟨fun h => (dU PD).2 ⟨by omega, h⟩, fun h => ((dU PD).1 h).2⟩
 clear PD
 go_enter Tryz.func67, Tryz.ntmps67
 go_wp2
 have HX := dH X0
 generalize w.alloc (.cells #[.slice da ds.length dc, .int .i64 cop, .slice sa stores.length sc, .slice la lost.length lc, .slice ea en ec, .int .i64 trim, .slice wa writers.length wc, .slice na mends.length nc, .slice ra readers.length rc', .slice ta sent.length tc, .bool torn] 47) = w0 at *
 clear X0 d1
 go_loopw [3] (fun y wr => ∃ k : Nat, y = .int .i64 (k : Int) ∧ k ≤ sent.length ∧ Hid (∀ i (h : i < sent.length), i < k → plIn en sent[i].pl ∧ (sent[i].data.size : Int) ≤ 40 ∧ (0 < i → (sent[i - 1]'(by omega)).pl < sent[i].pl)) ∧ Below w0.heap.size w0 wr) (fun y _ => sent.length - (intOf y).toNat)
 case atStart => exact ⟨0, rfl, Nat.zero_le _, fun i h h' => by omega, Below.refl _ _⟩
 case round =>
  obtain ⟨k, rfl, hk, hc, hb⟩ := hrel
  have hB := bT B0 hb
  have X2 := (dU HX).below hb
  have k9 := X2 9 _ rfl
  by_cases hlt : (k : Int) < (sent.length : Int)
  ·have hkl : k < sent.length := by omega
   obtain ⟨b, off, rfl, he⟩ := (dU HV _ hB).atSe hkl
   have hck := he k hkl
   have hjk : Hid (∀ j, j + 1 = k → ∀ hj : j < sent.length, wr.cell? ⟨b, off + j * 3, none⟩ = some (.int .i64 sent[j].pl)) := fun j _ hj => (he j hj).1
   have hoK := dU HO k hkl
   have HI : Hid (plIn en sent[k].pl ∧ (sent[k].data.size : Int) ≤ 40 ∧ (0 < k → (sent[k - 1]'(by omega)).pl < sent[k].pl) → ∀ i (h : i < sent.length), i < k + 1 → plIn en sent[i].pl ∧ (sent[i].data.size : Int) ≤ 40 ∧ (0 < i → (sent[i - 1]'(by omega)).pl < sent[i].pl)) := fun hq i h hi => by
    by_cases e : i = k
    ·subst e; exact hq
    ·exact dU hc i h (by omega)
   have NO : Hid (¬ (plIn en sent[k].pl ∧ (sent[k].data.size : Int) ≤ 40 ∧ (0 < k → (sent[k - 1]'(by omega)).pl < sent[k].pl)) → ¬ P) := fun hq h => hq ((dU PD').2 h k hkl)
   have HJ : Hid (∀ j, j + 1 = k → ∃ pe : Int, wr.cell? ⟨b, off + j * 3, none⟩ = some (.int .i64 pe) ∧ (0 < k → (sent[k - 1]'(by omega)).pl = pe)) := fun j hj => ⟨_, dU hjk j hj (by omega), fun _ => by subst hj; rfl⟩
   clear he hc hjk
   generalize hy : sent[k] = y at *
   obtain ⟨x, dt, su⟩ := y
   unfold SeAt at hck
   unfold okSent okInt at hoK
   simp only at *
   obtain ⟨c0, c1, c2⟩ := hck
   obtain ⟨⟨x0, x1⟩, d0⟩ := hoK
   clear hy
   go_wp2_with fail
   have Y4 := Bx.new wr [.int .i64 x, .string dt, .bool su] 68
   have b4 : Below wr.heap.size wr (wr.alloc (.cells #[.int .i64 x, .string dt, .bool su] 68)) := (Below.refl _ _).alloc (Nat.le_refl _) _
   have hb4 := bT hb b4
   have hB4 := bT hB b4
   have X4 := X2.below b4
   have HJ' : Hid (∀ j, j + 1 = k → ∃ pe : Int, (wr.alloc (.cells #[.int .i64 x, .string dt, .bool su] 68)).cell? ⟨b, off + j * 3, none⟩ = some (.int .i64 pe) ∧ (0 < k → (sent[k - 1]'(by omega)).pl = pe)) := fun j hj => by
    obtain ⟨pe, h1, h2⟩ := dU HJ j hj
    exact ⟨pe, (b4.cell (p := ⟨b, off + j * 3, none⟩) (dCell_lt h1)).trans h1, h2⟩
   generalize hws : wr.heap.size = ws at *
   generalize wr.alloc (.cells #[.int .i64 x, .string dt, .bool su] 68) = w5 at *
   have y0 := Y4 0 _ rfl
   have y1 := Y4 1 _ rfl
   have k4 := X4 4 _ rfl
   have k9' := X4 9 _ rfl
   clear Y4 X4 X2 c0 c1 c2 k9 hws b4 hb hB HJ
   by_cases hp : isPl x
   case neg =>
    have R := RetB.no (dU NO fun h => hp h.1.1)
    clear NO HI HJ' HV HO HX PD'
    go_quiet (first | (go_at_call 113; refine Calls.quiet_of_same (flip (specOk_no x x1 hp _))))
    go_wp2
    go_ret
    exact ⟨R, below_drewN hB4 _⟩
   have HP := dH hp
   by_cases dn : (en : Int) < x / 4294967296
   ·have R := RetB.no (dU NO fun h => by have := h.1.2; omega)
    have cn : decide ((en : Int) < x / 4294967296) = true := decide_eq_true dn
    clear NO HI HJ' HV HO HX PD'
    go_quiet (first | (go_at_call 113; refine Calls.quiet_of_same (flip (specOk_yes x (dU HP) _))) | (go_at_call 114; refine Calls.quiet_of_same (flip (specEpoch_yes x (dU HP) _))))
    go_wp2
    go_ret
    exact ⟨R, below_drewN hB4 _⟩
   have cn : decide ((en : Int) < x / 4294967296) = false := decide_eq_false dn
   by_cases dd : 40 < (dt.size : Int)
   ·have R := RetB.no (dU NO fun h => by have := h.2.1; omega)
    have cd : decide (40 < (dt.size : Int)) = true := decide_eq_true dd
    clear NO HI HJ' HV HO HX PD'
    go_quiet (first | (go_at_call 113; refine Calls.quiet_of_same (flip (specOk_yes x (dU HP) _))) | (go_at_call 114; refine Calls.quiet_of_same (flip (specEpoch_yes x (dU HP) _))))
    go_wp2
    go_ret
    exact ⟨R, below_drewN hB4 _⟩
   have cd : decide (40 < (dt.size : Int)) = false := decide_eq_false dd
   by_cases k00 : k = 0
   ·have H2 := dH (dU HI ⟨⟨hp, by omega⟩, by omega, fun h => by omega⟩)
    have cz : decide ((0 : Int) < (k : Int)) = false := decide_eq_false (by omega)
    have cz2 : ¬ 0 < k := by omega
    clear NO HI HJ' k00
    go_quiet (first | (go_at_call 113; refine Calls.quiet_of_same (flip (specOk_yes x (dU HP) _))) | (go_at_call 114; refine Calls.quiet_of_same (flip (specEpoch_yes x (dU HP) _))))
    go_wp2
    go_roundw
    case rel => exact ⟨k + 1, by go_num, by omega, dU H2, below_drewN hb4 _⟩
    case measure => simp [intOf]; omega
   obtain ⟨j, hj⟩ : ∃ j, j + 1 = k := ⟨k - 1, by omega⟩
   obtain ⟨pe, cj, hpe⟩ := dU HJ' j hj
   have HK := dH hj
   have t1 : (0 : Int) ≤ (j : Int) := by omega
   have t2 : (j : Int) < (sent.length : Int) := by omega
   have t3 : IntKind.i64.wrap ((k : Int) - 1) = (j : Int) := by rw [IntKind.wrap_i64]; omega
   have t4 : (0 : Int) < (k : Int) := by omega
   have t5 : 0 < k := by omega
   have t6 : decide ((0 : Int) < (k : Int)) = true := decide_eq_true t4
   by_cases dp : x ≤ pe
   ·have R := RetB.no (dU NO fun h => by have := h.2.2 (by omega); rw [hpe (by omega)] at this; omega)
    have cp : decide (x ≤ pe) = true := decide_eq_true dp
    clear NO HI HJ' HV HO HX PD' hpe hj HK
    go_quiet (first | (go_at_call 113; refine Calls.quiet_of_same (flip (specOk_yes x (dU HP) _))) | (go_at_call 114; refine Calls.quiet_of_same (flip (specEpoch_yes x (dU HP) _))))
    go_wp2
    go_ret
    exact ⟨R, below_drewN hB4 _⟩
   ·have H2 := dH (dU HI ⟨⟨hp, by omega⟩, by omega, fun h => by rw [hpe (by omega)]; omega⟩)
    have cp : decide (x ≤ pe) = false := decide_eq_false dp
    clear NO HI HJ' hpe hj
    go_quiet (first | (go_at_call 113; refine Calls.quiet_of_same (flip (specOk_yes x (dU HP) _))) | (go_at_call 114; refine Calls.quiet_of_same (flip (specEpoch_yes x (dU HP) _))))
    go_wp2
    go_roundw
    case rel => have := dU HK; subst this; exact ⟨j + 1 + 1, by go_num, by omega, dU H2, below_drewN hb4 _⟩
    case measure => have := dU HK; subst this; simp [intOf]; omega
  ·have R := RetB.yes ((dU PD').1 fun i h => dU hc i h (by omega))
   clear hc PD' HV HO HX X2
   go_wp2
   go_ret
   exact ⟨R, hB⟩
set_option maxHeartbeats 2000000 in
theorem specWorldOk_any (v : Value) (m : Wo) (w : World) (ok : okWorld m) (hs : sizWorld m ≤ 1048576) (hv : RdWorld v m w) :
  Calls Tryz.prog 27 #[v] w fun e w' => RetB (woP m) e ∧ Below w.heap.size w w' := by
 have C1 := dH fun W (hb : Below w.heap.size w W) => l12Nodes_any v m W ok hs (hv.below hb)
 have C2 := dH fun W (hb : Below w.heap.size w W) => l12Epochs_any v m W ok hs (hv.below hb)
 have C3 := dH fun W (hb : Below w.heap.size w W) => l12Sent_any v m W ok hs (hv.below hb)
 obtain ⟨da, dc, sa, sc, la, lc, ea, ec, wa, wc, na, nc, ra, rc', ta, tc, rfl, -, -, -, -, -, -, hrd, -⟩ := partsWorld hv
 have PD : Hid (woP m ↔ nodP m ∧ epoP m ∧ (m.readers.length : Int) = 2 ∧ (∀ x ∈ m.readers, rrP x) ∧ senP m) := by
  unfold woP reaP Hid
  rw [show ((m.readers.length : Int) = 2 ↔ m.readers.length = 2) from by omega]
  exact ⟨fun h => ⟨h.1, h.2.1, h.2.2.1.1, h.2.2.1.2, h.2.2.2⟩, fun h => ⟨h.1, h.2.1, ⟨h.2.2.1, h.2.2.2.1⟩, h.2.2.2.2⟩⟩
 clear ok hs hv
 generalize woP m = P at *
 generalize nodP m = P1 at *
 generalize epoP m = P2 at *
 generalize senP m = P5 at *
 obtain ⟨⟨ds, cop⟩, stores, lost, ⟨eras, trim⟩, writers, mends, readers, sent, torn⟩ := m
 simp only at *
 obtain ⟨rs, rfl, hr, hn⟩ := hrd
 simp only [List.length_map] at *
 have B0 : Below w.heap.size w (w.alloc (.cells #[.slice da ds.length dc, .int .i64 cop, .slice sa stores.length sc, .slice la lost.length lc, .slice ea eras.length ec, .int .i64 trim, .slice wa writers.length wc, .slice na mends.length nc, .slice ra rs.length rc', .slice ta sent.length tc, .bool torn] 47)) := (Below.refl _ _).alloc (Nat.le_refl _) _
 have X0 := Bx.new w [.slice da ds.length dc, .int .i64 cop, .slice sa stores.length sc, .slice la lost.length lc, .slice ea eras.length ec, .int .i64 trim, .slice wa writers.length wc, .slice na mends.length nc, .slice ra rs.length rc', .slice ta sent.length tc, .bool torn] 47
 have HV := dH fun W (hb : Below w.heap.size w W) => hr.below hb
 have HN := dH fun W (hb : Below w.heap.size w W) k (hk : k < rs.length) => (hn _ (List.getElem_mem hk)).below hb
 clear hr hn
 go_enter Tryz.func27, Tryz.ntmps27
 go_wp2_with fail
 generalize w.alloc (.cells #[.slice da ds.length dc, .int .i64 cop, .slice sa stores.length sc, .slice la lost.length lc, .slice ea eras.length ec, .int .i64 trim, .slice wa writers.length wc, .slice na mends.length nc, .slice ra rs.length rc', .slice ta sent.length tc, .bool torn] 47) = w0 at *
 refine (dU C1 _ B0).mono ?_
 rintro e w1 ⟨⟨b1, rfl, h1⟩, bl1⟩
 have B1 := bT B0 bl1
 have X1 := X0.below bl1
 clear X0 bl1 B0 C1
 cases b1 with
 | false =>
  have R := RetB.no (fun h => by have := h1.2 ((dU PD).1 h).1; cases this)
  clear PD HV HN C2 C3 h1 X1
  go_wp2
  go_ret
  exact ⟨R, B1⟩
 | true =>
 have p1 := dH (h1.1 rfl)
 have k0 := X1 0 _ rfl
 have k1 := X1 1 _ rfl
 have k2 := X1 2 _ rfl
 have k3 := X1 3 _ rfl
 have k4 := X1 4 _ rfl
 have k5 := X1 5 _ rfl
 have k6 := X1 6 _ rfl
 have k7 := X1 7 _ rfl
 have k8 := X1 8 _ rfl
 have k9 := X1 9 _ rfl
 have k10 := X1 10 _ rfl
 clear h1
 go_wp2_with fail
 refine (dU C2 _ B1).mono ?_
 rintro e w2 ⟨⟨b2, rfl, h2⟩, bl2⟩
 have B2 := bT B1 bl2
 have X2 := X1.below bl2
 clear X1 bl2 B1 C2 k0 k1 k2 k3 k4 k5 k6 k7 k8 k9 k10
 have k8 := X2 8 _ rfl
 cases b2 with
 | false =>
  have R := RetB.no (fun h => by have := h2.2 ((dU PD).1 h).2.1; cases this)
  clear PD HV HN C3 h2 X2
  go_wp2
  go_ret
  exact ⟨R, B2⟩
 | true =>
 have p2 := dH (h2.1 rfl)
 clear h2
 by_cases dl : (rs.length : Int) = 2
 case neg =>
  have R : RetB P (.returned (.bool ((rs.length : Int) == 2))) := by
   rw [show ((rs.length : Int) == 2) = false from by simpa using dl]
   exact RetB.no (fun h => dl ((dU PD).1 h).2.2.1)
  have dl' : ((rs.length : Int) == 2) = false := by simpa using dl
  clear PD HV HN C3 X2
  go_wp2
  go_ret
  first | exact ⟨R, B2⟩ | (rw [dl'] at R; exact ⟨R, B2⟩)
 have hl : rs.length = 2 := by omega
 have PD' : Hid (rrP (rs[0]'(by omega)).m ∧ rrP (rs[1]'(by omega)).m ∧ P5 ↔ P) := by
  rw [Hid, dU PD]
  constructor
  ·rintro ⟨q0, q1, q5⟩
   refine ⟨dU p1, dU p2, dl, fun x hx => ?_, q5⟩
   obtain ⟨i, hi, rfl⟩ := List.getElem_of_mem hx
   rw [List.getElem_map]
   have hi' : i < rs.length := by simpa using hi
   match i, hi' with
   | 0, _ => exact q0
   | 1, _ => exact q1
   | n + 2, h => omega
  ·rintro ⟨-, -, -, h, q5⟩
   exact ⟨h _ (List.mem_map.2 ⟨_, List.getElem_mem _, rfl⟩), h _ (List.mem_map.2 ⟨_, List.getElem_mem _, rfl⟩), q5⟩
 obtain ⟨b, off, rfl, he⟩ := (dU HV _ B2).pd (k := 0) (by omega)
 have E0 := he 0 (by omega)
 have E1 := he 1 (by omega)
 have F0 := formReader (dU HN _ B2 0 (by omega))
 have F1 := formReader (dU HN _ B2 1 (by omega))
 have R0 := dH fun W (hb : Below w.heap.size w W) => specReaderOk_any (rs[0]'(by omega)).val (rs[0]'(by omega)).m W (dU HN W hb 0 (by omega))
 have R1 := dH fun W (hb : Below w.heap.size w W) => specReaderOk_any (rs[1]'(by omega)).val (rs[1]'(by omega)).m W (dU HN W hb 1 (by omega))
 clear he PD p1 p2 HV HN
 have hl2 : ((2 : Nat) : Int) = 2 := rfl
 rw [hl] at dl k8 X2 C3
 clear hl dl
 generalize rs[0]'_ = r0 at *
 generalize rs[1]'_ = r1 at *
 obtain ⟨yc, yl, m0⟩ := r0
 obtain ⟨zc, zl, m1⟩ := r1
 obtain ⟨a0, c0, hF, -⟩ := F0
 obtain ⟨a1, c1, hG, -⟩ := F1
 have hF := Pd.eq hF
 have hG := Pd.eq hG
 simp only at hF hG
 subst hF hG
 unfold Pd.val at R0 R1
 simp only at *
 have e00 := E0 0 _ rfl
 have e01 := E0 1 _ rfl
 have e02 := E0 2 _ rfl
 have e10 := E1 0 _ rfl
 have e11 := E1 1 _ rfl
 have e12 := E1 2 _ rfl
 simp only [Nat.add_zero, Nat.zero_mul, Nat.one_mul] at e00 e01 e02 e10 e11 e12
 have HE : Hid (∀ W, Below w2.heap.size w2 W → W.cell? ⟨b, off + 3, none⟩ = some (.int .i64 m1.epoch) ∧ W.cell? ⟨b, off + 3 + 1, none⟩ = some (.int .i64 m1.off) ∧ W.cell? ⟨b, off + 3 + 2, none⟩ = some (.slice a1 m1.out.length c1)) := fun W hB => by
  have cb : ∀ {bb oo : Nat} {vv : Value}, w2.cell? ⟨bb, oo, none⟩ = some vv → W.cell? ⟨bb, oo, none⟩ = some vv := fun {bb oo vv} h => (hB.cell (p := ⟨bb, oo, none⟩) (dCell_lt h)).trans h
  exact ⟨cb e10, cb e11, cb e12⟩
 clear E0 E1 e10 e11 e12
 go_wp2_with fail
 refine (dU R0 _ B2).mono ?_
 rintro e w3 ⟨⟨b3, rfl, h3⟩, bl3⟩
 have B3 := bT B2 bl3
 have X3 := X2.below bl3
 obtain ⟨e10, e11, e12⟩ := dU HE _ bl3
 clear X2 bl3 B2 R0 HE k8 e00 e01 e02
 have k8 := X3 8 _ rfl
 cases b3 with
 | false =>
  have R := RetB.no (fun h => by have := h3.2 ((dU PD').2 h).1; cases this)
  clear PD' C3 h3 X3 R1
  go_wp2
  go_ret
  exact ⟨R, B3⟩
 | true =>
 have p3 := dH (h3.1 rfl)
 clear h3
 go_wp2_with fail
 refine (dU R1 _ B3).mono ?_
 rintro e w4 ⟨⟨b4, rfl, h4⟩, bl4⟩
 have B4 := bT B3 bl4
 have X4 := X3.below bl4
 clear X3 bl4 B3 R1 k8 e10 e11 e12
 cases b4 with
 | false =>
  have R := RetB.no (fun h => by have := h4.2 ((dU PD').2 h).2.1; cases this)
  clear PD' C3 h4 X4
  go_wp2
  go_ret
  exact ⟨R, B4⟩
 | true =>
 have p4 := dH (h4.1 rfl)
 have k0 := X4 0 _ rfl
 have k1 := X4 1 _ rfl
 have k2 := X4 2 _ rfl
 have k3 := X4 3 _ rfl
 have k4 := X4 4 _ rfl
 have k5 := X4 5 _ rfl
 have k6 := X4 6 _ rfl
 have k7 := X4 7 _ rfl
 have k8 := X4 8 _ rfl
 have k9 := X4 9 _ rfl
 have k10 := X4 10 _ rfl
 clear h4 X4
 go_wp2_with fail
 refine (dU C3 _ B4).mono ?_
 rintro e w5 ⟨⟨b5, rfl, h5⟩, bl5⟩
 have B5 := bT B4 bl5
 have R := dH (show RetB P (.returned (.bool b5)) from ⟨b5, rfl, h5.trans ⟨fun h => (dU PD').1 ⟨dU p3, dU p4, h⟩, fun h => ((dU PD').2 h).2.2⟩⟩)
 clear bl5 C3 B4 h5 PD'
 go_wp2
 go_ret
 exact ⟨dU R, B5⟩
end Go.Proofs.YtkiclbbialadlaaGreat
