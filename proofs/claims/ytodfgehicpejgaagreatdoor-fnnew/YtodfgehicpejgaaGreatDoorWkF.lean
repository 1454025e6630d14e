/- impl's ascending over writers and over what was sent; its invariants of writers, mends and what was sent (printed by tools/mkwkf.py). -/
import Derived.Test.YtodfgehicpejgaaGreatDoorWkE
import Derived.Test.YtodfgehicpejgaaGreatDoorWrF
import Derived.Test.YtodfgehicpejgaaGreatDoorGk175
import Derived.Deep.RegionHeld3
namespace Go.Proofs.YtodfgehicpejgaaGreatDoor
open Go.ChangeShapes Go.WideShapes Go.ChangeAt Go.RowKit
set_option linter.unusedVariables false
set_option linter.unusedSimpArgs false
set_option maxRecDepth 100000

theorem placeWriter_any (x : Int) (y : Value) (w : World) :
  Calls Tryz.prog 361 #[.agg #[.int .i64 x, y]] w fun e w' => e = .returned (.int .i64 x) ∧ Below w.heap.size w w' := by
 go_enter Tryz.func361, Tryz.ntmps361
 go_wp2
 go_ret
 exact ⟨rfl, (Below.refl _ _).alloc (Nat.le_refl _) _⟩
set_option maxHeartbeats 4000000 in
theorem ascWriter_any (v : Value) (es : List Wt) (w : World) (hv : RdWriterS v es w) :
  Calls Tryz.prog 72 #[v] w fun e w' => RetB (ascBy Wt.epoch es) e ∧ Below w.heap.size w w' := by
 obtain ⟨rs, rfl, hv, hn⟩ := hv
 have HC : Hid (∀ i (h : i < rs.length), ∃ y, rs[i].c = [.int .i64 rs[i].m.epoch, y]) := fun i h => by obtain ⟨a0, c0, hF, -⟩ := formWriter (hn _ (List.getElem_mem h)); rw [Pd.eq hF]; exact ⟨_, rfl⟩
 have HV := dH fun W (hb : Below w.heap.size w W) => hv.below hb
 have PD : Hid (ascBy Wt.epoch (rs.map Pd.m) ↔ ∀ i (h : i + 1 < rs.length), rs[i].m.epoch < rs[i + 1].m.epoch) := by
  unfold ascBy Hid
  simp only [List.length_map, List.getElem_map]
 generalize ascBy Wt.epoch (rs.map Pd.m) = P at *
 obtain ⟨h0, a, cap, rfl, -, -⟩ := hv
 clear hn
 go_enter Tryz.func72, Tryz.ntmps72
 go_wp2
 go_loopw [3] (fun x wr => ∃ k : Nat, x = .int .i64 ((k + 1 : Nat) : Int) ∧ (k ≤ rs.length) ∧ Hid (∀ i (h : i + 1 < rs.length), i < k → rs[i].m.epoch < rs[i + 1].m.epoch) ∧ Below w.heap.size w wr) (fun x _ => rs.length + 1 - (intOf x).toNat)
 case atStart => exact ⟨0, rfl, Nat.zero_le _, (fun i h h' => by omega), Below.refl _ _⟩
 case round =>
  obtain ⟨k, rfl, hk, hinv, hb⟩ := hrel
  by_cases hlt : ((k + 1 : Nat) : Int) < (rs.length : Int)
  ·have hkl : k + 1 < rs.length := by omega
   obtain ⟨b, off, rfl, hc⟩ := (dU HV wr hb).pd hkl
   have EA := hc k (by omega)
   have EB := hc (k + 1) hkl
   obtain ⟨y1, FA⟩ := dU HC k (by omega)
   obtain ⟨z1, FB⟩ := dU HC (k + 1) hkl
   have hst : Hid (rs[k].m.epoch < rs[k + 1].m.epoch → ∀ i (h : i + 1 < rs.length), i < k + 1 → rs[i].m.epoch < rs[i + 1].m.epoch) := fun he i h h' => by
    rcases Nat.lt_or_ge i k with hlt' | hge
    ·exact dU hinv i h hlt'
    ·obtain rfl : i = k := by omega
     exact he
   have hno : Hid (¬ rs[k].m.epoch < rs[k + 1].m.epoch → ¬ P) := fun he h => he ((dU PD).1 h k hkl)
   rw [FA] at EA
   rw [FB] at EB
   have k0 := EA 0 _ rfl
   have j0 := EB 0 _ rfl
   have k1 := EA 1 _ rfl
   have j1 := EB 1 _ rfl
   clear FA FB EA EB hc hinv HC
   generalize rs[k].m.epoch = x at *
   generalize rs[k + 1].m.epoch = y at *
   have PA := dH fun W => placeWriter_any x y1 W
   have PB := dH fun W => placeWriter_any y z1 W
   simp only [Nat.add_zero] at k0 k1 j0 j1
   generalize hm : k + 1 = m at *
   have HM := dH hm
   have t1 : (0 : Int) ≤ (k : Int) := by omega
   have t2 : (k : Int) < (rs.length : Int) := by omega
   have t3 : IntKind.i64.wrap ((m : Int) - 1) = (k : Int) := by rw [IntKind.wrap_i64]; omega
   have t4 : (0 : Int) ≤ (m : Int) := by omega
   have PC : Hid (∀ W, Below wr.heap.size wr W → W.cell? ⟨b, off + k * 2, none⟩ = some (.int .i64 x) ∧ W.cell? ⟨b, off + k * 2 + 1, none⟩ = some (y1) ∧ W.cell? ⟨b, off + m * 2, none⟩ = some (.int .i64 y) ∧ W.cell? ⟨b, off + m * 2 + 1, none⟩ = some (z1)) := fun W hB => by
    have cb : ∀ {bb oo : Nat} {vv : Value}, wr.cell? ⟨bb, oo, none⟩ = some vv → W.cell? ⟨bb, oo, none⟩ = some vv := fun {bb oo vv} h => (hB.cell (p := ⟨bb, oo, none⟩) (dCell_lt h)).trans h
    exact ⟨cb k0, cb k1, cb j0, cb j1⟩
   clear HV hm
   go_wp2
   go_region_held3 (fun W => W.cell? ⟨b, off + k * 2, none⟩ = some (.int .i64 x) ∧ W.cell? ⟨b, off + k * 2 + 1, none⟩ = some (y1) ∧ W.cell? ⟨b, off + m * 2, none⟩ = some (.int .i64 y) ∧ W.cell? ⟨b, off + m * 2 + 1, none⟩ = some (z1)) (first | exact dU PC _ hb2 | exact dU PC _ hb1 | go_keep)
    (first
     | (go_at_call 361; refine (dU PA _).mono ?_; rintro e w2 ⟨rfl, b2⟩; have hb2 := bT hb1 b2)
     | (go_at_call 361; refine (dU PB _).mono ?_; rintro e w2 ⟨rfl, b2⟩; have hb2 := bT hb1 b2)
     | (go_at_call 361; refine (dU PA _).mono ?_; rintro e w1 ⟨rfl, b1⟩; have hb1 := bT (Below.refl wr.heap.size wr).drew b1)
     | (go_at_call 361; refine (dU PB _).mono ?_; rintro e w1 ⟨rfl, b1⟩; have hb1 := bT (Below.refl wr.heap.size wr).drew b1))
   all_goals
    have BB := bT hb hb2
    clear hb1 b2 b1 k0 k1 j0 j1 PA PB PC hb hb2
    by_cases hxy : y ≤ x
    ·have hd : decide (y ≤ x) = true := decide_eq_true hxy
     have R := dH (dU hno (by omega))
     go_wp2
     go_ret
     exact ⟨RetB.no (dU R), BB⟩
    ·have hd : decide (y ≤ x) = false := decide_eq_false hxy
     have R := dH (dU hst (by omega))
     go_wp2
     go_roundw
     case rel => have := dU HM; subst this; exact ⟨k + 1, by go_num, by omega, R, BB⟩
     case measure => have := dU HM; subst this; simp [intOf]; omega
  ·have hyes : Hid P := (dU PD).2 fun i h => dU hinv i h (by omega)
   clear hinv HV HC PD
   go_wp2
   go_ret
   exact ⟨RetB.yes (dU hyes), hb⟩
theorem placeSent_any (x : Int) (y z : Value) (w : World) :
  Calls Tryz.prog 362 #[.agg #[.int .i64 x, y, z]] w fun e w' => e = .returned (.int .i64 x) ∧ Below w.heap.size w w' := by
 go_enter Tryz.func362, Tryz.ntmps362
 go_wp2
 go_ret
 exact ⟨rfl, (Below.refl _ _).alloc (Nat.le_refl _) _⟩
set_option maxHeartbeats 4000000 in
theorem ascSent_any (v : Value) (es : List Se) (w : World) (hv : RdSentS v es w) :
  Calls Tryz.prog 84 #[v] w fun e w' => RetB (ascBy Se.pl es) e ∧ Below w.heap.size w w' := by
 obtain ⟨rs, rfl, hv, hn⟩ := hv.rdD
 have HC : Hid (∀ i (h : i < rs.length), ∃ y z, rs[i].c = [.int .i64 rs[i].m.pl, y, z]) := fun i h => by have hF := Pd.eq (hn _ (List.getElem_mem h)); rw [hF]; exact ⟨_, _, rfl⟩
 have HV := dH fun W (hb : Below w.heap.size w W) => hv.below hb
 have PD : Hid (ascBy Se.pl (rs.map Pd.m) ↔ ∀ i (h : i + 1 < rs.length), rs[i].m.pl < rs[i + 1].m.pl) := by
  unfold ascBy Hid
  simp only [List.length_map, List.getElem_map]
 generalize ascBy Se.pl (rs.map Pd.m) = P at *
 obtain ⟨h0, a, cap, rfl, -, -⟩ := hv
 clear hn
 go_enter Tryz.func84, Tryz.ntmps84
 go_wp2
 go_loopw [3] (fun x wr => ∃ k : Nat, x = .int .i64 ((k + 1 : Nat) : Int) ∧ (k ≤ rs.length) ∧ Hid (∀ i (h : i + 1 < rs.length), i < k → rs[i].m.pl < rs[i + 1].m.pl) ∧ Below w.heap.size w wr) (fun x _ => rs.length + 1 - (intOf x).toNat)
 case atStart => exact ⟨0, rfl, Nat.zero_le _, (fun i h h' => by omega), Below.refl _ _⟩
 case round =>
  obtain ⟨k, rfl, hk, hinv, hb⟩ := hrel
  by_cases hlt : ((k + 1 : Nat) : Int) < (rs.length : Int)
  ·have hkl : k + 1 < rs.length := by omega
   obtain ⟨b, off, rfl, hc⟩ := (dU HV wr hb).pd hkl
   have EA := hc k (by omega)
   have EB := hc (k + 1) hkl
   obtain ⟨y1, y2, FA⟩ := dU HC k (by omega)
   obtain ⟨z1, z2, FB⟩ := dU HC (k + 1) hkl
   have hst : Hid (rs[k].m.pl < rs[k + 1].m.pl → ∀ i (h : i + 1 < rs.length), i < k + 1 → rs[i].m.pl < rs[i + 1].m.pl) := fun he i h h' => by
    rcases Nat.lt_or_ge i k with hlt' | hge
    ·exact dU hinv i h hlt'
    ·obtain rfl : i = k := by omega
     exact he
   have hno : Hid (¬ rs[k].m.pl < rs[k + 1].m.pl → ¬ P) := fun he h => he ((dU PD).1 h k hkl)
   rw [FA] at EA
   rw [FB] at EB
   have k0 := EA 0 _ rfl
   have j0 := EB 0 _ rfl
   have k1 := EA 1 _ rfl
   have j1 := EB 1 _ rfl
   have k2 := EA 2 _ rfl
   have j2 := EB 2 _ rfl
   clear FA FB EA EB hc hinv HC
   generalize rs[k].m.pl = x at *
   generalize rs[k + 1].m.pl = y at *
   have PA := dH fun W => placeSent_any x y1 y2 W
   have PB := dH fun W => placeSent_any y z1 z2 W
   simp only [Nat.add_zero] at k0 k1 k2 j0 j1 j2
   generalize hm : k + 1 = m at *
   have HM := dH hm
   have t1 : (0 : Int) ≤ (k : Int) := by omega
   have t2 : (k : Int) < (rs.length : Int) := by omega
   have t3 : IntKind.i64.wrap ((m : Int) - 1) = (k : Int) := by rw [IntKind.wrap_i64]; omega
   have t4 : (0 : Int) ≤ (m : Int) := by omega
   have PC : Hid (∀ W, Below wr.heap.size wr W → W.cell? ⟨b, off + k * 3, none⟩ = some (.int .i64 x) ∧ W.cell? ⟨b, off + k * 3 + 1, none⟩ = some (y1) ∧ W.cell? ⟨b, off + k * 3 + 2, none⟩ = some (y2) ∧ W.cell? ⟨b, off + m * 3, none⟩ = some (.int .i64 y) ∧ W.cell? ⟨b, off + m * 3 + 1, none⟩ = some (z1) ∧ W.cell? ⟨b, off + m * 3 + 2, none⟩ = some (z2)) := fun W hB => by
    have cb : ∀ {bb oo : Nat} {vv : Value}, wr.cell? ⟨bb, oo, none⟩ = some vv → W.cell? ⟨bb, oo, none⟩ = some vv := fun {bb oo vv} h => (hB.cell (p := ⟨bb, oo, none⟩) (dCell_lt h)).trans h
    exact ⟨cb k0, cb k1, cb k2, cb j0, cb j1, cb j2⟩
   clear HV hm
   go_wp2
   go_region_held3 (fun W => W.cell? ⟨b, off + k * 3, none⟩ = some (.int .i64 x) ∧ W.cell? ⟨b, off + k * 3 + 1, none⟩ = some (y1) ∧ W.cell? ⟨b, off + k * 3 + 2, none⟩ = some (y2) ∧ W.cell? ⟨b, off + m * 3, none⟩ = some (.int .i64 y) ∧ W.cell? ⟨b, off + m * 3 + 1, none⟩ = some (z1) ∧ W.cell? ⟨b, off + m * 3 + 2, none⟩ = some (z2)) (first | exact dU PC _ hb2 | exact dU PC _ hb1 | go_keep)
    (first
     | (go_at_call 362; refine (dU PA _).mono ?_; rintro e w2 ⟨rfl, b2⟩; have hb2 := bT hb1 b2)
     | (go_at_call 362; refine (dU PB _).mono ?_; rintro e w2 ⟨rfl, b2⟩; have hb2 := bT hb1 b2)
     | (go_at_call 362; refine (dU PA _).mono ?_; rintro e w1 ⟨rfl, b1⟩; have hb1 := bT (Below.refl wr.heap.size wr).drew b1)
     | (go_at_call 362; refine (dU PB _).mono ?_; rintro e w1 ⟨rfl, b1⟩; have hb1 := bT (Below.refl wr.heap.size wr).drew b1))
   all_goals
    have BB := bT hb hb2
    clear hb1 b2 b1 k0 k1 k2 j0 j1 j2 PA PB PC hb hb2
    by_cases hxy : y ≤ x
    ·have hd : decide (y ≤ x) = true := decide_eq_true hxy
     have R := dH (dU hno (by omega))
     go_wp2
     go_ret
     exact ⟨RetB.no (dU R), BB⟩
    ·have hd : decide (y ≤ x) = false := decide_eq_false hxy
     have R := dH (dU hst (by omega))
     go_wp2
     go_roundw
     case rel => have := dU HM; subst this; exact ⟨k + 1, by go_num, by omega, R, BB⟩
     case measure => have := dU HM; subst this; simp [intOf]; omega
  ·have hyes : Hid P := (dU PD).2 fun i h => dU hinv i h (by omega)
   clear hinv HV HC PD
   go_wp2
   go_ret
   exact ⟨RetB.yes (dU hyes), hb⟩
set_option maxHeartbeats 4000000 in
theorem writersRight1_any (u : Value) (m : Wt) (b : Nat) (ds : List Int) (cop : Int) (stores : List St) (lost : List Int) (eras : List Er) (trim : Int) (writers : List Wt) (mends : List Mn) (readers : List Rr) (sent : List Se) (torn : Bool) (da : Option Addr) (dc : Nat) (sa : Option Addr) (sc : Nat) (la : Option Addr) (lc : Nat) (ea : Option Addr) (ec : Nat) (wa : Option Addr) (wc : Nat) (na : Option Addr) (nc : Nat) (ra : Option Addr) (rc' : Nat) (ta : Option Addr) (tc : Nat) (w : World) (hX : Bx w b [.slice da ds.length dc, .int .i64 cop, .slice sa stores.length sc, .slice la lost.length lc, .slice ea eras.length ec, .int .i64 trim, .slice wa writers.length wc, .slice na mends.length nc, .slice ra readers.length rc', .slice ta sent.length tc, .bool torn]) (hd : Ns w (.slice da ds.length dc) ds) (hre : RdEraS (.slice ea eras.length ec) eras w) (okC : okConfig (ds, cop)) (okR : okRegister ⟨eras, trim⟩) (hzd : ds.length ≤ 1048576) (hze : eras.length ≤ 1048576) (hu : RdWriter u m w) (ok : okWriter m) (hs : sizWriter m ≤ 1048576) :
  Calls Tryz.prog 74 (#[u] ++ #[.pointer (some ⟨b, 0, none⟩)]) w fun e w' => RetB ((1 ≤ m.epoch ∧ m.epoch ≤ (eras.length : Int)) ∧ wrP ds cop m) e ∧ Below w.heap.size w w' := by
 have C1 := dH fun W (hb : Below w.heap.size w W) => hasEpoch_any (.agg #[.slice ea eras.length ec, .int .i64 trim]) ⟨eras, trim⟩ m.epoch W ⟨_, rfl, RdK.below hre hb⟩ ⟨ok.2.1, ok.2.2⟩ hze
 have C2 := dH fun W (hb : Below w.heap.size w W) => implWriterOk_any (.agg #[.slice da ds.length dc, .int .i64 cop]) u (ds, cop) m W ⟨_, rfl, hd.below hb⟩ (hu.below hb) okC ok (by unfold sizConfig; exact hzd) hs
 simp only at C1 C2
 obtain ⟨xa, xc, rfl, -⟩ := formWriter hu
 obtain ⟨me, mw⟩ := m
 simp only at *
 generalize wrP ds cop ⟨me, mw⟩ = PW at *
 have B0 : Below w.heap.size w (w.alloc (.cells #[.int .i64 me, .slice xa mw.length xc] 70)) := (Below.refl _ _).alloc (Nat.le_refl _) _
 have Y0 := Bx.new w [.int .i64 me, .slice xa mw.length xc] 70
 have X0 := hX.below B0
 clear hd hre okC okR hu ok hs hX
 have k4 := X0 4 _ rfl
 have k5 := X0 5 _ rfl
 show Calls Tryz.prog 74 #[.agg #[.int .i64 me, .slice xa mw.length xc], .pointer (some ⟨b, 0, none⟩)] w _
 go_enter Tryz.func74, Tryz.ntmps74
 go_wp2_with fail
 generalize w.alloc (.cells #[.int .i64 me, .slice xa mw.length xc] 70) = w0 at *
 refine (dU C1 _ B0).mono ?_
 rintro e w1 ⟨⟨b1, rfl, h1⟩, bl1⟩
 have B1 := bT B0 bl1
 have X1 := X0.below bl1
 have Y1 := Y0.below bl1
 clear X0 Y0 bl1 B0 C1 k4 k5
 cases b1 with
 | false =>
  have R : RetB ((1 ≤ me ∧ me ≤ (eras.length : Int)) ∧ PW) (.returned (.bool false)) := RetB.no (fun h => by have := h1.2 h.1; cases this)
  clear C2 h1 X1 Y1
  go_wp2
  go_ret
  exact ⟨R, B1⟩
 | true =>
 have p1 := dH (h1.1 rfl)
 have k0 := X1 0 _ rfl
 have k1 := X1 1 _ rfl
 have y0 := Y1 0 _ rfl
 have y1 := Y1 1 _ rfl
 clear h1 X1 Y1
 go_wp2_with fail
 refine (dU C2 _ B1).mono ?_
 rintro e w2 ⟨⟨b2, rfl, h2⟩, bl2⟩
 have B2 := bT B1 bl2
 have R := dH (show RetB ((1 ≤ me ∧ me ≤ (eras.length : Int)) ∧ PW) (.returned (.bool b2)) from ⟨b2, rfl, h2.trans ⟨fun h => ⟨dU p1, h⟩, fun h => h.2⟩⟩)
 clear C2 h2 bl2 k0 k1 y0 y1 B1
 go_wp2
 go_ret
 exact ⟨dU R, B2⟩
set_option maxHeartbeats 4000000 in
theorem sentRight1_any (u : Value) (m : Se) (b : Nat) (ds : List Int) (cop : Int) (stores : List St) (lost : List Int) (eras : List Er) (trim : Int) (writers : List Wt) (mends : List Mn) (readers : List Rr) (sent : List Se) (torn : Bool) (da : Option Addr) (dc : Nat) (sa : Option Addr) (sc : Nat) (la : Option Addr) (lc : Nat) (ea : Option Addr) (ec : Nat) (wa : Option Addr) (wc : Nat) (na : Option Addr) (nc : Nat) (ra : Option Addr) (rc' : Nat) (ta : Option Addr) (tc : Nat) (w : World) (hX : Bx w b [.slice da ds.length dc, .int .i64 cop, .slice sa stores.length sc, .slice la lost.length lc, .slice ea eras.length ec, .int .i64 trim, .slice wa writers.length wc, .slice na mends.length nc, .slice ra readers.length rc', .slice ta sent.length tc, .bool torn]) (hd : Ns w (.slice da ds.length dc) ds) (hre : RdEraS (.slice ea eras.length ec) eras w) (okC : okConfig (ds, cop)) (okR : okRegister ⟨eras, trim⟩) (hzd : ds.length ≤ 1048576) (hze : eras.length ≤ 1048576) (hu : u = m.val) (ok : okSent m) :
  Calls Tryz.prog 86 (#[u] ++ #[.pointer (some ⟨b, 0, none⟩)]) w fun e w' => RetB (plIn eras.length m.pl ∧ m.data.size ≤ 40) e ∧ Below w.heap.size w w' := by
 have C1 := dH fun W (hb : Below w.heap.size w W) => hasPlace_any (.agg #[.slice ea eras.length ec, .int .i64 trim]) ⟨eras, trim⟩ m.pl W ⟨_, rfl, RdK.below hre hb⟩ ok.1 hze
 simp only at C1
 subst hu
 have hdz := ok.2
 obtain ⟨x, dt, su⟩ := m
 unfold Se.val
 simp only at *
 generalize plIn eras.length x = PW at *
 have B0 : Below w.heap.size w (w.alloc (.cells #[.int .i64 x, .string dt, .bool su] 97)) := (Below.refl _ _).alloc (Nat.le_refl _) _
 have Y0 := Bx.new w [.int .i64 x, .string dt, .bool su] 97
 have X0 := hX.below B0
 clear hd hre okC okR ok hX
 have k4 := X0 4 _ rfl
 have k5 := X0 5 _ rfl
 show Calls Tryz.prog 86 #[.agg #[.int .i64 x, .string dt, .bool su], .pointer (some ⟨b, 0, none⟩)] w _
 go_enter Tryz.func86, Tryz.ntmps86
 go_wp2_with fail
 generalize w.alloc (.cells #[.int .i64 x, .string dt, .bool su] 97) = w0 at *
 refine (dU C1 _ B0).mono ?_
 rintro e w1 ⟨⟨b1, rfl, h1⟩, bl1⟩
 have B1 := bT B0 bl1
 have Y1 := Y0.below bl1
 clear X0 Y0 bl1 B0 C1 k4 k5
 cases b1 with
 | false =>
  have R : RetB (PW ∧ dt.size ≤ 40) (.returned (.bool false)) := RetB.no (fun h => by have := h1.2 h.1; cases this)
  clear h1 Y1
  go_wp2
  go_ret
  exact ⟨R, B1⟩
 | true =>
 have p1 := dH (h1.1 rfl)
 have y1 := Y1 1 _ rfl
 clear h1 Y1
 have R := dH (show RetB (PW ∧ dt.size ≤ 40) (.returned (.bool (decide ((dt.size : Int) ≤ 40)))) from ⟨_, rfl, by
  rw [decide_eq_true_iff]
  exact ⟨fun h => ⟨dU p1, by omega⟩, fun h => by have := h.2; omega⟩⟩)
 go_wp2
 go_ret
 exact ⟨dU R, B1⟩
set_option maxHeartbeats 8000000 in
theorem mendsRight1_any (u : Value) (m : Mn) (b : Nat) (ds : List Int) (cop : Int) (stores : List St) (lost : List Int) (eras : List Er) (trim : Int) (writers : List Wt) (mends : List Mn) (readers : List Rr) (sent : List Se) (torn : Bool) (da : Option Addr) (dc : Nat) (sa : Option Addr) (sc : Nat) (la : Option Addr) (lc : Nat) (ea : Option Addr) (ec : Nat) (wa : Option Addr) (wc : Nat) (na : Option Addr) (nc : Nat) (ra : Option Addr) (rc' : Nat) (ta : Option Addr) (tc : Nat) (w : World) (hX : Bx w b [.slice da ds.length dc, .int .i64 cop, .slice sa stores.length sc, .slice la lost.length lc, .slice ea eras.length ec, .int .i64 trim, .slice wa writers.length wc, .slice na mends.length nc, .slice ra readers.length rc', .slice ta sent.length tc, .bool torn]) (hd : Ns w (.slice da ds.length dc) ds) (hre : RdEraS (.slice ea eras.length ec) eras w) (okC : okConfig (ds, cop)) (okR : okRegister ⟨eras, trim⟩) (hzd : ds.length ≤ 1048576) (hze : eras.length ≤ 1048576) (hu : RdMend u m w) (ok : okMend m) (hs : sizMend m ≤ 1048576) :
  Calls Tryz.prog 78 (#[u] ++ #[.pointer (some ⟨b, 0, none⟩)]) w fun e w' => RetB (m.bye = (eras.length : Int) ∧ m.epoch = (firstO eras : Int) ∧ mnP ds cop m) e ∧ Below w.heap.size w w' := by
 have C1 := dH fun W (hb : Below w.heap.size w W) => lastEpoch_any (.agg #[.slice ea eras.length ec, .int .i64 trim]) ⟨eras, trim⟩ W ⟨_, rfl, RdK.below hre hb⟩
 have C2 := dH fun W (hb : Below w.heap.size w W) => implFirst_any (.agg #[.slice ea eras.length ec, .int .i64 trim]) ⟨eras, trim⟩ W ⟨_, rfl, RdK.below hre hb⟩ hze
 have C3 := dH fun W (hb : Below w.heap.size w W) => implMendOk_any (.agg #[.slice da ds.length dc, .int .i64 cop]) u (ds, cop) m W ⟨_, rfl, hd.below hb⟩ (hu.below hb) okC ok (by unfold sizConfig; exact hzd) hs
 simp only at C1 C2 C3
 obtain ⟨xsa, xsc, xea, xec, xwa, xwc, rfl, -, -, -⟩ := formMend hu
 generalize mnP ds cop m = PM at *
 generalize firstO eras = fo at *
 generalize m.bye = by_ at *
 generalize m.epoch = me at *
 generalize m.sealed.length = sl at *
 generalize m.seen.length = el at *
 generalize m.planned = mp at *
 generalize m.wrote.length = wl at *
 have B0 : Below w.heap.size w (w.alloc (.cells #[.int .i64 by_, .int .i64 me, .slice xsa sl xsc, .slice xea el xec, .bool mp, .slice xwa wl xwc] 90)) := (Below.refl _ _).alloc (Nat.le_refl _) _
 have Y0 := Bx.new w [.int .i64 by_, .int .i64 me, .slice xsa sl xsc, .slice xea el xec, .bool mp, .slice xwa wl xwc] 90
 have X0 := hX.below B0
 clear hd hre okC okR hu ok hs hX
 show Calls Tryz.prog 78 #[.agg #[.int .i64 by_, .int .i64 me, .slice xsa sl xsc, .slice xea el xec, .bool mp, .slice xwa wl xwc], .pointer (some ⟨b, 0, none⟩)] w _
 go_enter Tryz.func78, Tryz.ntmps78
 go_wp2_with fail
 have CL := dH fun W (hb : Below (w.alloc (.cells #[.int .i64 by_, .int .i64 me, .slice xsa sl xsc, .slice xea el xec, .bool mp, .slice xwa wl xwc] 90)).heap.size (w.alloc (.cells #[.int .i64 by_, .int .i64 me, .slice xsa sl xsc, .slice xea el xec, .bool mp, .slice xwa wl xwc] 90)) W) => dU C1 W (bT B0 hb)
 have CF := dH fun W (hb : Below (w.alloc (.cells #[.int .i64 by_, .int .i64 me, .slice xsa sl xsc, .slice xea el xec, .bool mp, .slice xwa wl xwc] 90)).heap.size (w.alloc (.cells #[.int .i64 by_, .int .i64 me, .slice xsa sl xsc, .slice xea el xec, .bool mp, .slice xwa wl xwc] 90)) W) => dU C2 W (bT B0 hb)
 have CM := dH fun W (hb : Below (w.alloc (.cells #[.int .i64 by_, .int .i64 me, .slice xsa sl xsc, .slice xea el xec, .bool mp, .slice xwa wl xwc] 90)).heap.size (w.alloc (.cells #[.int .i64 by_, .int .i64 me, .slice xsa sl xsc, .slice xea el xec, .bool mp, .slice xwa wl xwc] 90)) W) => dU C3 W (bT B0 hb)
 have FB := dH fun W (hb : Below (w.alloc (.cells #[.int .i64 by_, .int .i64 me, .slice xsa sl xsc, .slice xea el xec, .bool mp, .slice xwa wl xwc] 90)).heap.size (w.alloc (.cells #[.int .i64 by_, .int .i64 me, .slice xsa sl xsc, .slice xea el xec, .bool mp, .slice xwa wl xwc] 90)) W) => bT B0 hb
 generalize hws : w.heap.size = ws at *
 generalize w.alloc (.cells #[.int .i64 by_, .int .i64 me, .slice xsa sl xsc, .slice xea el xec, .bool mp, .slice xwa wl xwc] 90) = w0 at *
 have PC : Hid (∀ W, Below w0.heap.size w0 W → W.cell? ⟨b, 0, none⟩ = some (.slice da ds.length dc) ∧ W.cell? ⟨b, 1, none⟩ = some (.int .i64 cop) ∧ W.cell? ⟨b, 4, none⟩ = some (.slice ea eras.length ec) ∧ W.cell? ⟨b, 5, none⟩ = some (.int .i64 trim) ∧ W.cell? ⟨ws, 0, none⟩ = some (.int .i64 by_) ∧ W.cell? ⟨ws, 1, none⟩ = some (.int .i64 me) ∧ W.cell? ⟨ws, 2, none⟩ = some (.slice xsa sl xsc) ∧ W.cell? ⟨ws, 3, none⟩ = some (.slice xea el xec) ∧ W.cell? ⟨ws, 4, none⟩ = some (.bool mp) ∧ W.cell? ⟨ws, 5, none⟩ = some (.slice xwa wl xwc)) := fun W hb => ⟨X0.below hb 0 _ rfl, X0.below hb 1 _ rfl, X0.below hb 4 _ rfl, X0.below hb 5 _ rfl, Y0.below hb 0 _ rfl, Y0.below hb 1 _ rfl, Y0.below hb 2 _ rfl, Y0.below hb 3 _ rfl, Y0.below hb 4 _ rfl, Y0.below hb 5 _ rfl⟩
 have bd : Below w0.heap.size w0 w0.drew := (Below.refl _ _).drew
 have HWS := dH hws
 clear C1 C2 C3 X0 Y0 hws
 obtain ⟨k0, k1, k2, k3, k4, k5, k6, k7, k8, k9⟩ := dU PC w0 (Below.refl _ _)
 by_cases db : by_ = (eras.length : Int)
 case neg =>
  have R : RetB (by_ = (eras.length : Int) ∧ me = (fo : Int) ∧ PM) (.returned (.bool false)) := RetB.no (fun h => db h.1)
  have cb : (by_ == (eras.length : Int)) = false := by simpa using db
  refine wp_region_noPanic ?_
  refine wp_region_held_drew (S := fun W => W.cell? ⟨b, 0, none⟩ = some (.slice da ds.length dc) ∧ W.cell? ⟨b, 1, none⟩ = some (.int .i64 cop) ∧ W.cell? ⟨b, 4, none⟩ = some (.slice ea eras.length ec) ∧ W.cell? ⟨b, 5, none⟩ = some (.int .i64 trim) ∧ W.cell? ⟨ws, 0, none⟩ = some (.int .i64 by_) ∧ W.cell? ⟨ws, 1, none⟩ = some (.int .i64 me) ∧ W.cell? ⟨ws, 2, none⟩ = some (.slice xsa sl xsc) ∧ W.cell? ⟨ws, 3, none⟩ = some (.slice xea el xec) ∧ W.cell? ⟨ws, 4, none⟩ = some (.bool mp) ∧ W.cell? ⟨ws, 5, none⟩ = some (.slice xwa wl xwc)) (by kernel_rfl) (by first | exact dU PC _ (Below.refl _ _) | exact dU PC _ bd | exact dU PC _ b3' | exact dU PC _ b4' | exact dU PC _ b5') (fun hHeld => ?_)
  refine tY 0 (v := ?_) rfl (by kernel_rfl) (.inl ⟨by rfl, ?_⟩) ‹_› ?_
  rotate_left 1
  ·intro w hSw
   (try dsimp only at hSw)
   first | (go_simp; done) | (go_simp; with_reducible rfl)
  try simp only [Act.put, sA, sB, sC]
  refine tY 1 (v := ?_) rfl (by kernel_rfl) (.inl ⟨by rfl, ?_⟩) ‹_› ?_
  rotate_left 1
  ·intro w hSw
   (try dsimp only at hSw)
   first | (go_simp; done) | (go_simp; with_reducible rfl)
  try simp only [Act.put, sA, sB, sC]
  refine tY 2 (v := ?_) rfl (by kernel_rfl) (.inl ⟨by rfl, ?_⟩) ‹_› ?_
  rotate_left 1
  ·intro w hSw
   (try dsimp only at hSw)
   first | (go_simp; done) | (go_simp; with_reducible rfl)
  try simp only [Act.put, sA, sB, sC]
  refine tY 3 (v := ?_) rfl (by kernel_rfl) (.inl ⟨by rfl, ?_⟩) ‹_› ?_
  rotate_left 1
  ·intro w hSw
   (try dsimp only at hSw)
   first | (go_simp; done) | (go_simp; with_reducible rfl)
  try simp only [Act.put, sA, sB, sC]
  refine wpAnyH_ready (rs := [4]) (by kernel_rfl) (by simp) ?_
  refine rC rfl (fun K hK => ?_) AllReadyH.nil
  go_simp
  refine (dU CL _ bd).mono ?_
  rintro e w3 ⟨rfl, b3⟩
  have b3' := bT bd b3
  (try go_wp2_with fail)
  refine hK.out _ _ (by first | exact dU PC _ (Below.refl _ _) | exact dU PC _ bd | exact dU PC _ b3' | exact dU PC _ b4' | exact dU PC _ b5') (fun hHeld => ?_)
  clear hK K
  try simp only [Act.put, sA, sB, sC]
  refine tY 5 (v := ?_) rfl (by kernel_rfl) (.inl ⟨by rfl, ?_⟩) ‹_› ?_
  rotate_left 1
  ·intro w hSw
   (try dsimp only at hSw)
   first | (go_simp; done) | (go_simp; with_reducible rfl)
  try simp only [Act.put, sA, sB, sC]
  refine tY 6 (v := ?_) rfl (by kernel_rfl) (.inl ⟨by rfl, ?_⟩) ‹_› ?_
  rotate_left 1
  ·intro w hSw
   (try dsimp only at hSw)
   first | (go_simp; done) | (go_simp; with_reducible rfl)
  try simp only [Act.put, sA, sB, sC]
  refine tY 7 rfl (by kernel_rfl) (.inr ⟨by rfl, rfl⟩) ‹_› ?_
  try simp only [Act.put, sA, sB, sC]
  refine tY 8 rfl (by kernel_rfl) (.inr ⟨by rfl, rfl⟩) ‹_› ?_
  try simp only [Act.put, sA, sB, sC]
  refine tY 9 rfl (by kernel_rfl) (.inr ⟨by rfl, rfl⟩) ‹_› ?_
  try simp only [Act.put, sA, sB, sC]
  refine tY 10 rfl (by kernel_rfl) (.inr ⟨by rfl, rfl⟩) ‹_› ?_
  try simp only [Act.put, sA, sB, sC]
  refine tY 11 rfl (by kernel_rfl) (.inr ⟨by rfl, rfl⟩) ‹_› ?_
  try simp only [Act.put, sA, sB, sC]
  refine tY 12 rfl (by kernel_rfl) (.inr ⟨by rfl, rfl⟩) ‹_› ?_
  try simp only [Act.put, sA, sB, sC]
  refine tY 13 (v := ?_) rfl (by kernel_rfl) (.inl ⟨by rfl, ?_⟩) ‹_› ?_
  rotate_left 1
  ·intro w hSw
   (try dsimp only at hSw)
   first | (go_simp; done) | (go_simp; with_reducible rfl)
  try simp only [Act.put, sA, sB, sC]
  refine tY 14 (v := ?_) rfl (by kernel_rfl) (.inl ⟨by rfl, ?_⟩) ‹_› ?_
  rotate_left 1
  ·intro w hSw
   (try dsimp only at hSw)
   first | (go_simp; done) | (go_simp; with_reducible rfl)
  try simp only [Act.put, sA, sB, sC]
  refine tY 15 rfl (by kernel_rfl) (.inr ⟨by rfl, rfl⟩) ‹_› ?_
  try simp only [Act.put, sA, sB, sC]
  refine tY 16 rfl (by kernel_rfl) (.inr ⟨by rfl, rfl⟩) ‹_› ?_
  try simp only [Act.put, sA, sB, sC]
  refine tY 17 rfl (by kernel_rfl) (.inr ⟨by rfl, rfl⟩) ‹_› ?_
  try simp only [Act.put, sA, sB, sC]
  refine tY 18 rfl (by kernel_rfl) (.inr ⟨by rfl, rfl⟩) ‹_› ?_
  try simp only [Act.put, sA, sB, sC]
  refine tY 19 (v := ?_) rfl (by kernel_rfl) (.inl ⟨by rfl, ?_⟩) ‹_› ?_
  rotate_left 1
  ·intro w hSw
   (try dsimp only at hSw)
   first | (go_simp; done) | (go_simp; with_reducible rfl)
  try simp only [Act.put, sA, sB, sC]
  refine tY 20 (v := ?_) rfl (by kernel_rfl) (.inl ⟨by rfl, ?_⟩) ‹_› ?_
  rotate_left 1
  ·intro w hSw
   (try dsimp only at hSw)
   first | (go_simp; done) | (go_simp; with_reducible rfl)
  try simp only [Act.put, sA, sB, sC]
  refine wpAnyH_done (by kernel_rfl) ?_ _
  refine NoPanic.normal ?_
  (try simp only [Act.put, sA, sB, sC])
  have BB := dU FB _ b3'
  clear PC bd CL CF CM
  go_wp2
  go_ret
  exact ⟨R, (dU HWS) ▸ BB⟩
 by_cases de : me = (fo : Int)
 case neg =>
  have R : RetB (by_ = (eras.length : Int) ∧ me = (fo : Int) ∧ PM) (.returned (.bool false)) := RetB.no (fun h => de h.2.1)
  have ce : (me == (fo : Int)) = false := by simpa using de
  have cb : (by_ == (eras.length : Int)) = true := by simpa using db
  clear db de
  refine wp_region_noPanic ?_
  refine wp_region_held_drew (S := fun W => W.cell? ⟨b, 0, none⟩ = some (.slice da ds.length dc) ∧ W.cell? ⟨b, 1, none⟩ = some (.int .i64 cop) ∧ W.cell? ⟨b, 4, none⟩ = some (.slice ea eras.length ec) ∧ W.cell? ⟨b, 5, none⟩ = some (.int .i64 trim) ∧ W.cell? ⟨ws, 0, none⟩ = some (.int .i64 by_) ∧ W.cell? ⟨ws, 1, none⟩ = some (.int .i64 me) ∧ W.cell? ⟨ws, 2, none⟩ = some (.slice xsa sl xsc) ∧ W.cell? ⟨ws, 3, none⟩ = some (.slice xea el xec) ∧ W.cell? ⟨ws, 4, none⟩ = some (.bool mp) ∧ W.cell? ⟨ws, 5, none⟩ = some (.slice xwa wl xwc)) (by kernel_rfl) (by first | exact dU PC _ (Below.refl _ _) | exact dU PC _ bd | exact dU PC _ b3' | exact dU PC _ b4' | exact dU PC _ b5') (fun hHeld => ?_)
  refine tY 0 (v := ?_) rfl (by kernel_rfl) (.inl ⟨by rfl, ?_⟩) ‹_› ?_
  rotate_left 1
  ·intro w hSw
   (try dsimp only at hSw)
   first | (go_simp; done) | (go_simp; with_reducible rfl)
  try simp only [Act.put, sA, sB, sC]
  refine tY 1 (v := ?_) rfl (by kernel_rfl) (.inl ⟨by rfl, ?_⟩) ‹_› ?_
  rotate_left 1
  ·intro w hSw
   (try dsimp only at hSw)
   first | (go_simp; done) | (go_simp; with_reducible rfl)
  try simp only [Act.put, sA, sB, sC]
  refine tY 2 (v := ?_) rfl (by kernel_rfl) (.inl ⟨by rfl, ?_⟩) ‹_› ?_
  rotate_left 1
  ·intro w hSw
   (try dsimp only at hSw)
   first | (go_simp; done) | (go_simp; with_reducible rfl)
  try simp only [Act.put, sA, sB, sC]
  refine tY 3 (v := ?_) rfl (by kernel_rfl) (.inl ⟨by rfl, ?_⟩) ‹_› ?_
  rotate_left 1
  ·intro w hSw
   (try dsimp only at hSw)
   first | (go_simp; done) | (go_simp; with_reducible rfl)
  try simp only [Act.put, sA, sB, sC]
  refine wpAnyH_ready (rs := [4]) (by kernel_rfl) (by simp) ?_
  refine rC rfl (fun K hK => ?_) AllReadyH.nil
  go_simp
  refine (dU CL _ bd).mono ?_
  rintro e w3 ⟨rfl, b3⟩
  have b3' := bT bd b3
  (try go_wp2_with fail)
  refine hK.out _ _ (by first | exact dU PC _ (Below.refl _ _) | exact dU PC _ bd | exact dU PC _ b3' | exact dU PC _ b4' | exact dU PC _ b5') (fun hHeld => ?_)
  clear hK K
  try simp only [Act.put, sA, sB, sC]
  refine tY 5 (v := ?_) rfl (by kernel_rfl) (.inl ⟨by rfl, ?_⟩) ‹_› ?_
  rotate_left 1
  ·intro w hSw
   (try dsimp only at hSw)
   first | (go_simp; done) | (go_simp; with_reducible rfl)
  try simp only [Act.put, sA, sB, sC]
  refine tY 6 (v := ?_) rfl (by kernel_rfl) (.inl ⟨by rfl, ?_⟩) ‹_› ?_
  rotate_left 1
  ·intro w hSw
   (try dsimp only at hSw)
   first | (go_simp; done) | (go_simp; with_reducible rfl)
  try simp only [Act.put, sA, sB, sC]
  refine tY 7 (v := ?_) rfl (by kernel_rfl) (.inl ⟨by rfl, ?_⟩) ‹_› ?_
  rotate_left 1
  ·intro w hSw
   (try dsimp only at hSw)
   first | (go_simp; done) | (go_simp; with_reducible rfl)
  try simp only [Act.put, sA, sB, sC]
  refine tY 8 (v := ?_) rfl (by kernel_rfl) (.inl ⟨by rfl, ?_⟩) ‹_› ?_
  rotate_left 1
  ·intro w hSw
   (try dsimp only at hSw)
   first | (go_simp; done) | (go_simp; with_reducible rfl)
  try simp only [Act.put, sA, sB, sC]
  refine tY 9 (v := ?_) rfl (by kernel_rfl) (.inl ⟨by rfl, ?_⟩) ‹_› ?_
  rotate_left 1
  ·intro w hSw
   (try dsimp only at hSw)
   first | (go_simp; done) | (go_simp; with_reducible rfl)
  try simp only [Act.put, sA, sB, sC]
  refine tY 10 (v := ?_) rfl (by kernel_rfl) (.inl ⟨by rfl, ?_⟩) ‹_› ?_
  rotate_left 1
  ·intro w hSw
   (try dsimp only at hSw)
   first | (go_simp; done) | (go_simp; with_reducible rfl)
  try simp only [Act.put, sA, sB, sC]
  refine wpAnyH_ready (rs := [11]) (by kernel_rfl) (by simp) ?_
  refine rC rfl (fun K hK => ?_) AllReadyH.nil
  go_simp
  refine (dU CF _ b3').mono ?_
  rintro e w4 ⟨rfl, b4⟩
  have b4' := bT b3' b4
  (try go_wp2_with fail)
  refine hK.out _ _ (by first | exact dU PC _ (Below.refl _ _) | exact dU PC _ bd | exact dU PC _ b3' | exact dU PC _ b4' | exact dU PC _ b5') (fun hHeld => ?_)
  clear hK K
  try simp only [Act.put, sA, sB, sC]
  refine tY 12 (v := ?_) rfl (by kernel_rfl) (.inl ⟨by rfl, ?_⟩) ‹_› ?_
  rotate_left 1
  ·intro w hSw
   (try dsimp only at hSw)
   first | (go_simp; done) | (go_simp; with_reducible rfl)
  try simp only [Act.put, sA, sB, sC]
  refine tY 13 (v := ?_) rfl (by kernel_rfl) (.inl ⟨by rfl, ?_⟩) ‹_› ?_
  rotate_left 1
  ·intro w hSw
   (try dsimp only at hSw)
   first | (go_simp; done) | (go_simp; with_reducible rfl)
  try simp only [Act.put, sA, sB, sC]
  refine tY 14 (v := ?_) rfl (by kernel_rfl) (.inl ⟨by rfl, ?_⟩) ‹_› ?_
  rotate_left 1
  ·intro w hSw
   (try dsimp only at hSw)
   first | (go_simp; done) | (go_simp; with_reducible rfl)
  try simp only [Act.put, sA, sB, sC]
  refine tY 15 rfl (by kernel_rfl) (.inr ⟨by rfl, rfl⟩) ‹_› ?_
  try simp only [Act.put, sA, sB, sC]
  refine tY 16 rfl (by kernel_rfl) (.inr ⟨by rfl, rfl⟩) ‹_› ?_
  try simp only [Act.put, sA, sB, sC]
  refine tY 17 rfl (by kernel_rfl) (.inr ⟨by rfl, rfl⟩) ‹_› ?_
  try simp only [Act.put, sA, sB, sC]
  refine tY 18 rfl (by kernel_rfl) (.inr ⟨by rfl, rfl⟩) ‹_› ?_
  try simp only [Act.put, sA, sB, sC]
  refine tY 19 (v := ?_) rfl (by kernel_rfl) (.inl ⟨by rfl, ?_⟩) ‹_› ?_
  rotate_left 1
  ·intro w hSw
   (try dsimp only at hSw)
   first | (go_simp; done) | (go_simp; with_reducible rfl)
  try simp only [Act.put, sA, sB, sC]
  refine tY 20 (v := ?_) rfl (by kernel_rfl) (.inl ⟨by rfl, ?_⟩) ‹_› ?_
  rotate_left 1
  ·intro w hSw
   (try dsimp only at hSw)
   first | (go_simp; done) | (go_simp; with_reducible rfl)
  try simp only [Act.put, sA, sB, sC]
  refine wpAnyH_done (by kernel_rfl) ?_ _
  refine NoPanic.normal ?_
  (try simp only [Act.put, sA, sB, sC])
  have BB := dU FB _ b4'
  clear PC bd CL CF CM
  go_wp2
  go_ret
  exact ⟨R, (dU HWS) ▸ BB⟩
 have FIN : Hid (∀ q : Bool, (q = true ↔ PM) → RetB (by_ = (eras.length : Int) ∧ me = (fo : Int) ∧ PM) (.returned (.bool q))) := fun q h => ⟨q, rfl, h.trans ⟨fun h => ⟨db, de, h⟩, fun h => h.2.2⟩⟩
 have cb : (by_ == (eras.length : Int)) = true := by simpa using db
 have ce : (me == (fo : Int)) = true := by simpa using de
 clear db de
 refine wp_region_noPanic ?_
 refine wp_region_held_drew (S := fun W => W.cell? ⟨b, 0, none⟩ = some (.slice da ds.length dc) ∧ W.cell? ⟨b, 1, none⟩ = some (.int .i64 cop) ∧ W.cell? ⟨b, 4, none⟩ = some (.slice ea eras.length ec) ∧ W.cell? ⟨b, 5, none⟩ = some (.int .i64 trim) ∧ W.cell? ⟨ws, 0, none⟩ = some (.int .i64 by_) ∧ W.cell? ⟨ws, 1, none⟩ = some (.int .i64 me) ∧ W.cell? ⟨ws, 2, none⟩ = some (.slice xsa sl xsc) ∧ W.cell? ⟨ws, 3, none⟩ = some (.slice xea el xec) ∧ W.cell? ⟨ws, 4, none⟩ = some (.bool mp) ∧ W.cell? ⟨ws, 5, none⟩ = some (.slice xwa wl xwc)) (by kernel_rfl) (by first | exact dU PC _ (Below.refl _ _) | exact dU PC _ bd | exact dU PC _ b3' | exact dU PC _ b4' | exact dU PC _ b5') (fun hHeld => ?_)
 refine tY 0 (v := ?_) rfl (by kernel_rfl) (.inl ⟨by rfl, ?_⟩) ‹_› ?_
 rotate_left 1
 ·intro w hSw
  (try dsimp only at hSw)
  first | (go_simp; done) | (go_simp; with_reducible rfl)
 try simp only [Act.put, sA, sB, sC]
 refine tY 1 (v := ?_) rfl (by kernel_rfl) (.inl ⟨by rfl, ?_⟩) ‹_› ?_
 rotate_left 1
 ·intro w hSw
  (try dsimp only at hSw)
  first | (go_simp; done) | (go_simp; with_reducible rfl)
 try simp only [Act.put, sA, sB, sC]
 refine tY 2 (v := ?_) rfl (by kernel_rfl) (.inl ⟨by rfl, ?_⟩) ‹_› ?_
 rotate_left 1
 ·intro w hSw
  (try dsimp only at hSw)
  first | (go_simp; done) | (go_simp; with_reducible rfl)
 try simp only [Act.put, sA, sB, sC]
 refine tY 3 (v := ?_) rfl (by kernel_rfl) (.inl ⟨by rfl, ?_⟩) ‹_› ?_
 rotate_left 1
 ·intro w hSw
  (try dsimp only at hSw)
  first | (go_simp; done) | (go_simp; with_reducible rfl)
 try simp only [Act.put, sA, sB, sC]
 refine wpAnyH_ready (rs := [4]) (by kernel_rfl) (by simp) ?_
 refine rC rfl (fun K hK => ?_) AllReadyH.nil
 go_simp
 refine (dU CL _ bd).mono ?_
 rintro e w3 ⟨rfl, b3⟩
 have b3' := bT bd b3
 (try go_wp2_with fail)
 refine hK.out _ _ (by first | exact dU PC _ (Below.refl _ _) | exact dU PC _ bd | exact dU PC _ b3' | exact dU PC _ b4' | exact dU PC _ b5') (fun hHeld => ?_)
 clear hK K
 try simp only [Act.put, sA, sB, sC]
 refine tY 5 (v := ?_) rfl (by kernel_rfl) (.inl ⟨by rfl, ?_⟩) ‹_› ?_
 rotate_left 1
 ·intro w hSw
  (try dsimp only at hSw)
  first | (go_simp; done) | (go_simp; with_reducible rfl)
 try simp only [Act.put, sA, sB, sC]
 refine tY 6 (v := ?_) rfl (by kernel_rfl) (.inl ⟨by rfl, ?_⟩) ‹_› ?_
 rotate_left 1
 ·intro w hSw
  (try dsimp only at hSw)
  first | (go_simp; done) | (go_simp; with_reducible rfl)
 try simp only [Act.put, sA, sB, sC]
 refine tY 7 (v := ?_) rfl (by kernel_rfl) (.inl ⟨by rfl, ?_⟩) ‹_› ?_
 rotate_left 1
 ·intro w hSw
  (try dsimp only at hSw)
  first | (go_simp; done) | (go_simp; with_reducible rfl)
 try simp only [Act.put, sA, sB, sC]
 refine tY 8 (v := ?_) rfl (by kernel_rfl) (.inl ⟨by rfl, ?_⟩) ‹_› ?_
 rotate_left 1
 ·intro w hSw
  (try dsimp only at hSw)
  first | (go_simp; done) | (go_simp; with_reducible rfl)
 try simp only [Act.put, sA, sB, sC]
 refine tY 9 (v := ?_) rfl (by kernel_rfl) (.inl ⟨by rfl, ?_⟩) ‹_› ?_
 rotate_left 1
 ·intro w hSw
  (try dsimp only at hSw)
  first | (go_simp; done) | (go_simp; with_reducible rfl)
 try simp only [Act.put, sA, sB, sC]
 refine tY 10 (v := ?_) rfl (by kernel_rfl) (.inl ⟨by rfl, ?_⟩) ‹_› ?_
 rotate_left 1
 ·intro w hSw
  (try dsimp only at hSw)
  first | (go_simp; done) | (go_simp; with_reducible rfl)
 try simp only [Act.put, sA, sB, sC]
 refine wpAnyH_ready (rs := [11]) (by kernel_rfl) (by simp) ?_
 refine rC rfl (fun K hK => ?_) AllReadyH.nil
 go_simp
 refine (dU CF _ b3').mono ?_
 rintro e w4 ⟨rfl, b4⟩
 have b4' := bT b3' b4
 (try go_wp2_with fail)
 refine hK.out _ _ (by first | exact dU PC _ (Below.refl _ _) | exact dU PC _ bd | exact dU PC _ b3' | exact dU PC _ b4' | exact dU PC _ b5') (fun hHeld => ?_)
 clear hK K
 try simp only [Act.put, sA, sB, sC]
 refine tY 12 (v := ?_) rfl (by kernel_rfl) (.inl ⟨by rfl, ?_⟩) ‹_› ?_
 rotate_left 1
 ·intro w hSw
  (try dsimp only at hSw)
  first | (go_simp; done) | (go_simp; with_reducible rfl)
 try simp only [Act.put, sA, sB, sC]
 refine tY 13 (v := ?_) rfl (by kernel_rfl) (.inl ⟨by rfl, ?_⟩) ‹_› ?_
 rotate_left 1
 ·intro w hSw
  (try dsimp only at hSw)
  first | (go_simp; done) | (go_simp; with_reducible rfl)
 try simp only [Act.put, sA, sB, sC]
 refine tY 14 (v := ?_) rfl (by kernel_rfl) (.inl ⟨by rfl, ?_⟩) ‹_› ?_
 rotate_left 1
 ·intro w hSw
  (try dsimp only at hSw)
  first | (go_simp; done) | (go_simp; with_reducible rfl)
 try simp only [Act.put, sA, sB, sC]
 refine tY 15 (v := ?_) rfl (by kernel_rfl) (.inl ⟨by rfl, ?_⟩) ‹_› ?_
 rotate_left 1
 ·intro w hSw
  (try dsimp only at hSw)
  first | (go_simp; done) | (go_simp; with_reducible rfl)
 try simp only [Act.put, sA, sB, sC]
 refine tY 16 (v := ?_) rfl (by kernel_rfl) (.inl ⟨by rfl, ?_⟩) ‹_› ?_
 rotate_left 1
 ·intro w hSw
  (try dsimp only at hSw)
  first | (go_simp; done) | (go_simp; with_reducible rfl)
 try simp only [Act.put, sA, sB, sC]
 refine tY 17 (v := ?_) rfl (by kernel_rfl) (.inl ⟨by rfl, ?_⟩) ‹_› ?_
 rotate_left 1
 ·intro w hSw
  (try dsimp only at hSw)
  first | (go_simp; done) | (go_simp; with_reducible rfl)
 try simp only [Act.put, sA, sB, sC]
 refine wpAnyH_ready (rs := [18]) (by kernel_rfl) (by simp) ?_
 refine rC rfl (fun K hK => ?_) AllReadyH.nil
 go_simp
 refine (dU CM _ b4').mono ?_
 rintro e w5 ⟨⟨q5, rfl, h5⟩, b5⟩
 have b5' := bT b4' b5
 (try go_wp2_with fail)
 refine hK.out _ _ (by first | exact dU PC _ (Below.refl _ _) | exact dU PC _ bd | exact dU PC _ b3' | exact dU PC _ b4' | exact dU PC _ b5') (fun hHeld => ?_)
 clear hK K
 try simp only [Act.put, sA, sB, sC]
 refine tY 19 (v := ?_) rfl (by kernel_rfl) (.inl ⟨by rfl, ?_⟩) ‹_› ?_
 rotate_left 1
 ·intro w hSw
  (try dsimp only at hSw)
  first | (go_simp; done) | (go_simp; with_reducible rfl)
 try simp only [Act.put, sA, sB, sC]
 refine tY 20 (v := ?_) rfl (by kernel_rfl) (.inl ⟨by rfl, ?_⟩) ‹_› ?_
 rotate_left 1
 ·intro w hSw
  (try dsimp only at hSw)
  first | (go_simp; done) | (go_simp; with_reducible rfl)
 try simp only [Act.put, sA, sB, sC]
 refine wpAnyH_done (by kernel_rfl) ?_ _
 refine NoPanic.normal ?_
 (try simp only [Act.put, sA, sB, sC])
 have BB := dU FB _ b5'
 have R := dH (dU FIN q5 h5)
 clear PC bd CL CF CM FIN h5
 go_wp2
 go_ret
 exact ⟨dU R, (dU HWS) ▸ BB⟩
set_option maxHeartbeats 8000000 in
theorem writersRight_any (v : Value) (m : Wo) (w : World) (ok : okWorld m) (hs : sizWorld m ≤ 1048576) (hv : RdWorld v m w) :
  Calls Tryz.prog 28 #[v] w fun e w' => RetB (ivW m) e ∧ Below w.heap.size w w' := by
 obtain ⟨da, dc, sa, sc, la, lc, ea, ec, wa, wc, na, nc, ra, rc', ta, tc, rfl, hd, hst, hlo, hre, hwr, hme, hrd, hse⟩ := partsWorld hv
 obtain ⟨⟨ds, cop⟩, stores, lost, ⟨eras, trim⟩, writers, mends, readers, sent, torn⟩ := m
 obtain ⟨okC, okS, okL, okR, okW, okM, okE, okX⟩ := ok
 simp only at *
 have hz : ds.length ≤ 1048576 ∧ lost.length ≤ 1048576 ∧ sizRegister ⟨eras, trim⟩ ≤ 1048576 ∧ sizWriterS writers ≤ 1048576 ∧ sizMendS mends ≤ 1048576 := by unfold sizWorld sizConfig sizIntS at hs; simp only at hs; exact ⟨by omega, by omega, by omega, by omega, by omega⟩
 have B0 : Below w.heap.size w (w.alloc (.cells #[.slice da ds.length dc, .int .i64 cop, .slice sa stores.length sc, .slice la lost.length lc, .slice ea eras.length ec, .int .i64 trim, .slice wa writers.length wc, .slice na mends.length nc, .slice ra readers.length rc', .slice ta sent.length tc, .bool torn] 37)) := (Below.refl _ _).alloc (Nat.le_refl _) _
 have X0 := Bx.new w [.slice da ds.length dc, .int .i64 cop, .slice sa stores.length sc, .slice la lost.length lc, .slice ea eras.length ec, .int .i64 trim, .slice wa writers.length wc, .slice na mends.length nc, .slice ra readers.length rc', .slice ta sent.length tc, .bool torn] 37
 clear hv hs
 have hze : eras.length ≤ 1048576 := by have := hz.2.2.1; unfold sizRegister sizEraS at this; simp only at this; omega
 have hwS : ∀ x ∈ writers, sizWriter x ≤ 1048576 := fun x hx => by
  obtain ⟨k, hk, rfl⟩ := List.getElem_of_mem hx
  have := sumPd_mem sizWriter hk
  have := hz.2.2.2.1
  unfold sizWriterS sizD at this
  omega
 have CA := dH fun W (hb : Below w.heap.size w W) => ascWriter_any _ writers W (hwr.below hb)
 have CE := dH fun W (hb : Below w.heap.size w W) (hX : Bx W w.heap.size [.slice da ds.length dc, .int .i64 cop, .slice sa stores.length sc, .slice la lost.length lc, .slice ea eras.length ec, .int .i64 trim, .slice wa writers.length wc, .slice na mends.length nc, .slice ra readers.length rc', .slice ta sent.length tc, .bool torn]) => everyWriter_any _ writers RdWriter 74 #[.pointer (some ⟨w.heap.size, 0, none⟩)] (fun x => (1 ≤ x.epoch ∧ x.epoch ≤ (eras.length : Int)) ∧ wrP ds cop x) W (by intro args w; rfl) (RdWriterS.below hwr hb) (fun h b => h.below b) fun W' hb' u x hx hu => writersRight1_any u x w.heap.size ds cop stores lost eras trim writers mends readers sent torn da dc sa sc la lc ea ec wa wc na nc ra rc' ta tc W' (hX.below hb') (hd.below (bT hb hb')) (RdK.below hre (bT hb hb')) okC okR hz.1 hze hu (okW x hx) (hwS x hx)
 clear hwS hze
 clear hst hlo hre hwr hme hrd hse okC okS okL okR okW okM okE okX hz hd
 by_cases d1 : 4 < (writers.length : Int)
 ·have R := RetB.no (show ¬ ivW ⟨(ds, cop), stores, lost, ⟨eras, trim⟩, writers, mends, readers, sent, torn⟩ from fun h => by have := h.1; simp only at this; omega)
  clear CA CE X0
  go_enter Tryz.func28, Tryz.ntmps28
  go_wp2
  go_ret
  exact ⟨R, B0⟩
 have D1 := dH d1
 go_enter Tryz.func28, Tryz.ntmps28
 go_wp2_with fail
 generalize w.alloc (.cells #[.slice da ds.length dc, .int .i64 cop, .slice sa stores.length sc, .slice la lost.length lc, .slice ea eras.length ec, .int .i64 trim, .slice wa writers.length wc, .slice na mends.length nc, .slice ra readers.length rc', .slice ta sent.length tc, .bool torn] 37) = w0 at *
 refine (dU CA _ B0).mono ?_
 rintro e w1 ⟨⟨b1, rfl, h1⟩, bl1⟩
 have B1 := bT B0 bl1
 have X1 := X0.below bl1
 clear X0 bl1 B0 CA
 cases b1 with
 | false =>
  have R := RetB.no (show ¬ ivW ⟨(ds, cop), stores, lost, ⟨eras, trim⟩, writers, mends, readers, sent, torn⟩ from fun h => by have := h1.2 h.2.1; cases this)
  clear CE h1 X1
  go_wp2
  go_ret
  exact ⟨R, B1⟩
 | true =>
 have p1 := dH (h1.1 rfl)
 have CE' := dH (dU CE _ B1 X1)
 have kk := X1 6 _ rfl
 clear h1 X1 CE d1
 have d1 := dU D1
 go_wp2_with fail
 refine (dU CE').mono ?_
 rintro e w2 ⟨⟨b2, rfl, h2⟩, bl2⟩
 have B2 := bT B1 bl2
 have R := dH (show RetB (ivW ⟨(ds, cop), stores, lost, ⟨eras, trim⟩, writers, mends, readers, sent, torn⟩) (.returned (.bool b2)) from ⟨b2, rfl, h2.trans ⟨fun h => ⟨by simp only; omega, dU p1, h⟩, fun h => h.2.2⟩⟩)
 clear CE' h2 bl2 kk
 go_wp2
 go_ret
 exact ⟨dU R, B2⟩
set_option maxHeartbeats 8000000 in
theorem sentRight_any (v : Value) (m : Wo) (w : World) (ok : okWorld m) (hs : sizWorld m ≤ 1048576) (hv : RdWorld v m w) :
  Calls Tryz.prog 31 #[v] w fun e w' => RetB (ivX m) e ∧ Below w.heap.size w w' := by
 obtain ⟨da, dc, sa, sc, la, lc, ea, ec, wa, wc, na, nc, ra, rc', ta, tc, rfl, hd, hst, hlo, hre, hwr, hme, hrd, hse⟩ := partsWorld hv
 obtain ⟨⟨ds, cop⟩, stores, lost, ⟨eras, trim⟩, writers, mends, readers, sent, torn⟩ := m
 obtain ⟨okC, okS, okL, okR, okW, okM, okE, okX⟩ := ok
 simp only at *
 have hz : ds.length ≤ 1048576 ∧ lost.length ≤ 1048576 ∧ sizRegister ⟨eras, trim⟩ ≤ 1048576 ∧ sizWriterS writers ≤ 1048576 ∧ sizMendS mends ≤ 1048576 := by unfold sizWorld sizConfig sizIntS at hs; simp only at hs; exact ⟨by omega, by omega, by omega, by omega, by omega⟩
 have B0 : Below w.heap.size w (w.alloc (.cells #[.slice da ds.length dc, .int .i64 cop, .slice sa stores.length sc, .slice la lost.length lc, .slice ea eras.length ec, .int .i64 trim, .slice wa writers.length wc, .slice na mends.length nc, .slice ra readers.length rc', .slice ta sent.length tc, .bool torn] 37)) := (Below.refl _ _).alloc (Nat.le_refl _) _
 have X0 := Bx.new w [.slice da ds.length dc, .int .i64 cop, .slice sa stores.length sc, .slice la lost.length lc, .slice ea eras.length ec, .int .i64 trim, .slice wa writers.length wc, .slice na mends.length nc, .slice ra readers.length rc', .slice ta sent.length tc, .bool torn] 37
 clear hv hs
 have hze : eras.length ≤ 1048576 := by have := hz.2.2.1; unfold sizRegister sizEraS at this; simp only at this; omega
 have CA := dH fun W (hb : Below w.heap.size w W) => ascSent_any _ sent W (hse.below hb)
 have CE := dH fun W (hb : Below w.heap.size w W) (hX : Bx W w.heap.size [.slice da ds.length dc, .int .i64 cop, .slice sa stores.length sc, .slice la lost.length lc, .slice ea eras.length ec, .int .i64 trim, .slice wa writers.length wc, .slice na mends.length nc, .slice ra readers.length rc', .slice ta sent.length tc, .bool torn]) => everySent_any _ sent (fun v m _ => v = m.val) 86 #[.pointer (some ⟨w.heap.size, 0, none⟩)] (fun x => plIn eras.length x.pl ∧ x.data.size ≤ 40) W (by intro args w; rfl) (hse.below hb).rdD (fun h b => h) fun W' hb' u x hx hu => sentRight1_any u x w.heap.size ds cop stores lost eras trim writers mends readers sent torn da dc sa sc la lc ea ec wa wc na nc ra rc' ta tc W' (hX.below hb') (hd.below (bT hb hb')) (RdK.below hre (bT hb hb')) okC okR hz.1 hze hu (okX x hx)
 clear hze
 clear hst hlo hre hwr hme hrd hse okC okS okL okR okW okM okE okX hz hd
 by_cases d1 : 120 < (sent.length : Int)
 ·have R := RetB.no (show ¬ ivX ⟨(ds, cop), stores, lost, ⟨eras, trim⟩, writers, mends, readers, sent, torn⟩ from fun h => by have := h.1; simp only at this; omega)
  clear CA CE X0
  go_enter Tryz.func31, Tryz.ntmps31
  go_wp2
  go_ret
  exact ⟨R, B0⟩
 have D1 := dH d1
 go_enter Tryz.func31, Tryz.ntmps31
 go_wp2_with fail
 generalize w.alloc (.cells #[.slice da ds.length dc, .int .i64 cop, .slice sa stores.length sc, .slice la lost.length lc, .slice ea eras.length ec, .int .i64 trim, .slice wa writers.length wc, .slice na mends.length nc, .slice ra readers.length rc', .slice ta sent.length tc, .bool torn] 37) = w0 at *
 refine (dU CA _ B0).mono ?_
 rintro e w1 ⟨⟨b1, rfl, h1⟩, bl1⟩
 have B1 := bT B0 bl1
 have X1 := X0.below bl1
 clear X0 bl1 B0 CA
 cases b1 with
 | false =>
  have R := RetB.no (show ¬ ivX ⟨(ds, cop), stores, lost, ⟨eras, trim⟩, writers, mends, readers, sent, torn⟩ from fun h => by have := h1.2 h.2.1; cases this)
  clear CE h1 X1
  go_wp2
  go_ret
  exact ⟨R, B1⟩
 | true =>
 have p1 := dH (h1.1 rfl)
 have CE' := dH (dU CE _ B1 X1)
 have kk := X1 9 _ rfl
 clear h1 X1 CE d1
 have d1 := dU D1
 go_wp2_with fail
 refine (dU CE').mono ?_
 rintro e w2 ⟨⟨b2, rfl, h2⟩, bl2⟩
 have B2 := bT B1 bl2
 have R := dH (show RetB (ivX ⟨(ds, cop), stores, lost, ⟨eras, trim⟩, writers, mends, readers, sent, torn⟩) (.returned (.bool b2)) from ⟨b2, rfl, h2.trans ⟨fun h => ⟨by simp only; omega, dU p1, h⟩, fun h => h.2.2⟩⟩)
 clear CE' h2 bl2 kk
 go_wp2
 go_ret
 exact ⟨dU R, B2⟩
set_option maxHeartbeats 8000000 in
theorem mendsRight_any (v : Value) (m : Wo) (w : World) (ok : okWorld m) (hs : sizWorld m ≤ 1048576) (hv : RdWorld v m w) :
  Calls Tryz.prog 29 #[v] w fun e w' => RetB (ivM m) e ∧ Below w.heap.size w w' := by
 obtain ⟨da, dc, sa, sc, la, lc, ea, ec, wa, wc, na, nc, ra, rc', ta, tc, rfl, hd, hst, hlo, hre, hwr, hme, hrd, hse⟩ := partsWorld hv
 obtain ⟨⟨ds, cop⟩, stores, lost, ⟨eras, trim⟩, writers, mends, readers, sent, torn⟩ := m
 obtain ⟨okC, okS, okL, okR, okW, okM, okE, okX⟩ := ok
 simp only at *
 have hz : ds.length ≤ 1048576 ∧ lost.length ≤ 1048576 ∧ sizRegister ⟨eras, trim⟩ ≤ 1048576 ∧ sizWriterS writers ≤ 1048576 ∧ sizMendS mends ≤ 1048576 := by unfold sizWorld sizConfig sizIntS at hs; simp only at hs; exact ⟨by omega, by omega, by omega, by omega, by omega⟩
 have B0 : Below w.heap.size w (w.alloc (.cells #[.slice da ds.length dc, .int .i64 cop, .slice sa stores.length sc, .slice la lost.length lc, .slice ea eras.length ec, .int .i64 trim, .slice wa writers.length wc, .slice na mends.length nc, .slice ra readers.length rc', .slice ta sent.length tc, .bool torn] 37)) := (Below.refl _ _).alloc (Nat.le_refl _) _
 have X0 := Bx.new w [.slice da ds.length dc, .int .i64 cop, .slice sa stores.length sc, .slice la lost.length lc, .slice ea eras.length ec, .int .i64 trim, .slice wa writers.length wc, .slice na mends.length nc, .slice ra readers.length rc', .slice ta sent.length tc, .bool torn] 37
 clear hv hs
 have hze : eras.length ≤ 1048576 := by have := hz.2.2.1; unfold sizRegister sizEraS at this; simp only at this; omega
 have hmS : ∀ x ∈ mends, sizMend x ≤ 1048576 := fun x hx => by
  obtain ⟨k, hk, rfl⟩ := List.getElem_of_mem hx
  have := sumPd_mem sizMend hk
  have := hz.2.2.2.2
  unfold sizMendS sizD at this
  omega
 have CE := dH fun W (hb : Below w.heap.size w W) (hX : Bx W w.heap.size [.slice da ds.length dc, .int .i64 cop, .slice sa stores.length sc, .slice la lost.length lc, .slice ea eras.length ec, .int .i64 trim, .slice wa writers.length wc, .slice na mends.length nc, .slice ra readers.length rc', .slice ta sent.length tc, .bool torn]) => everyMend_any _ mends RdMend 78 #[.pointer (some ⟨w.heap.size, 0, none⟩)] (fun x => x.bye = (eras.length : Int) ∧ x.epoch = (firstO eras : Int) ∧ mnP ds cop x) W (by intro args w; rfl) (RdMendS.below hme hb) (fun h b => h.below b) fun W' hb' u x hx hu => mendsRight1_any u x w.heap.size ds cop stores lost eras trim writers mends readers sent torn da dc sa sc la lc ea ec wa wc na nc ra rc' ta tc W' (hX.below hb') (hd.below (bT hb hb')) (RdK.below hre (bT hb hb')) okC okR hz.1 hze hu (okM x hx) (hmS x hx)
 clear hmS hze
 clear hst hlo hre hwr hme hrd hse okC okS okL okR okW okM okE okX hz hd
 by_cases d1 : (mends.length : Int) ≤ 1
 case neg =>
  have R := RetB.no (show ¬ ivM ⟨(ds, cop), stores, lost, ⟨eras, trim⟩, writers, mends, readers, sent, torn⟩ from fun h => by have := h.1; simp only at this; omega)
  have cd : decide ((mends.length : Int) ≤ 1) = false := decide_eq_false d1
  clear CE X0
  go_enter Tryz.func29, Tryz.ntmps29
  go_wp2
  go_ret
  exact ⟨R, B0⟩
 have CE' := dH (dU CE _ B0 X0)
 clear CE X0
 go_enter Tryz.func29, Tryz.ntmps29
 go_wp2_with fail
 generalize w.alloc (.cells #[.slice da ds.length dc, .int .i64 cop, .slice sa stores.length sc, .slice la lost.length lc, .slice ea eras.length ec, .int .i64 trim, .slice wa writers.length wc, .slice na mends.length nc, .slice ra readers.length rc', .slice ta sent.length tc, .bool torn] 37) = w0 at *
 refine (dU CE').mono ?_
 rintro e w2 ⟨⟨b2, rfl, h2⟩, bl2⟩
 have B2 := bT B0 bl2
 have R := dH (show RetB (ivM ⟨(ds, cop), stores, lost, ⟨eras, trim⟩, writers, mends, readers, sent, torn⟩) (.returned (.bool b2)) from ⟨b2, rfl, h2.trans ⟨fun h => ⟨by simp only; omega, h⟩, fun h => h.2⟩⟩)
 clear CE' h2 bl2
 go_wp2
 go_ret
 exact ⟨dU R, B2⟩
end Go.Proofs.YtodfgehicpejgaaGreatDoor
