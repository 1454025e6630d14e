/- Several texts in one: WkB, ImFe, Q9O. -/
import Derived.Test.YtkiclbbialadlaaGreatGz18
import Derived.Test.YtkiclbbialadlaaGreatOpenY
import Derived.Deep.DeepCutAuto
import Derived.Test.YtkiclbbialadlaaGreatGbI
import Derived.Test.YtkiclbbialadlaaGreatGaT
import Derived.Test.YtkiclbbialadlaaGreatMnB
import Derived.Test.YtkiclbbialadlaaGreatMnG
namespace Go.Proofs.YtkiclbbialadlaaGreat
open Go.ChangeShapes Go.WideShapes Go.ChangeAt Go.RowKit
set_option linter.unusedSimpArgs false
set_option linter.unusedVariables false
set_option maxRecDepth 100000
set_option maxHeartbeats 2000000 in
theorem l12Zero_any (v : Value) (s : St) (w : World) (hv : RdStore v s w) :
  Calls Tryz.prog 108 #[v] w fun e w' => RetB (nilSt s) e ∧ Below w.heap.size w w' := by
 obtain ⟨ka, kc, la, lc, rfl, -, -⟩ := formStore hv
 have ba : ∀ (w : World) o, Below w.heap.size w (w.alloc o) := fun w o => (Below.refl _ _).alloc (Nat.le_refl _) o
 have PD : Hid (nilSt s ↔ (s.kept.length : Int) = 0 ∧ (s.late.length : Int) = 0 ∧ s.lock = 0) := by unfold nilSt Hid; omega
 generalize nilSt s = P at *
 generalize s.kept.length = n1 at *
 generalize s.late.length = n2 at *
 generalize s.lock = n3 at *
 clear hv
 by_cases d1 : (n1 : Int) = 0
 ·by_cases d2 : (n2 : Int) = 0
  ·by_cases d3 : n3 = 0
   ·have R := RetB.yes ((dU PD).2 ⟨d1, d2, d3⟩)
    clear PD
    go_enter Tryz.func108, Tryz.ntmps108
    go_wp2
    go_ret
    exact ⟨R, ba w _⟩
   ·have R : RetB P (.returned (.bool (n3 == 0))) := by
     rw [show (n3 == 0) = false from by simpa using d3]
     exact RetB.no (fun h => d3 ((dU PD).1 h).2.2)
    clear PD
    go_enter Tryz.func108, Tryz.ntmps108
    go_wp2
    go_ret
    exact ⟨R, ba w _⟩
  ·have R := RetB.no (fun h => d2 ((dU PD).1 h).2.1)
   clear PD
   go_enter Tryz.func108, Tryz.ntmps108
   go_wp2
   go_ret
   exact ⟨R, ba w _⟩
 ·have R := RetB.no (fun h => d1 ((dU PD).1 h).1)
  clear PD
  go_enter Tryz.func108, Tryz.ntmps108
  go_wp2
  go_ret
  exact ⟨R, ba w _⟩
set_option maxHeartbeats 2000000 in
theorem isZero_any (v : Value) (s : St) (w : World) (hv : RdStore v s w) :
  Calls Tryz.prog 126 #[v] w fun e w' => RetB (nilSt s) e ∧ Below w.heap.size w w' := by
 obtain ⟨ka, kc, la, lc, rfl, -, -⟩ := formStore hv
 have ba : ∀ (w : World) o, Below w.heap.size w (w.alloc o) := fun w o => (Below.refl _ _).alloc (Nat.le_refl _) o
 have PD : Hid (nilSt s ↔ (s.kept.length : Int) = 0 ∧ (s.late.length : Int) = 0 ∧ s.lock = 0) := by unfold nilSt Hid; omega
 generalize nilSt s = P at *
 generalize s.kept.length = n1 at *
 generalize s.late.length = n2 at *
 generalize s.lock = n3 at *
 clear hv
 by_cases d1 : (n1 : Int) = 0
 ·by_cases d2 : (n2 : Int) = 0
  ·by_cases d3 : n3 = 0
   ·have R := RetB.yes ((dU PD).2 ⟨d1, d2, d3⟩)
    clear PD
    go_enter Tryz.func126, Tryz.ntmps126
    go_wp2
    go_ret
    exact ⟨R, ba w _⟩
   ·have R : RetB P (.returned (.bool (n3 == 0))) := by
     rw [show (n3 == 0) = false from by simpa using d3]
     exact RetB.no (fun h => d3 ((dU PD).1 h).2.2)
    clear PD
    go_enter Tryz.func126, Tryz.ntmps126
    go_wp2
    go_ret
    exact ⟨R, ba w _⟩
  ·have R := RetB.no (fun h => d2 ((dU PD).1 h).2.1)
   clear PD
   go_enter Tryz.func126, Tryz.ntmps126
   go_wp2
   go_ret
   exact ⟨R, ba w _⟩
 ·have R := RetB.no (fun h => d1 ((dU PD).1 h).1)
  clear PD
  go_enter Tryz.func126, Tryz.ntmps126
  go_wp2
  go_ret
  exact ⟨R, ba w _⟩
set_option maxHeartbeats 8000000 in
theorem l12Nodes_any (v : Value) (m : Wo) (w : World) (ok : okWorld m) (hs : sizWorld m ≤ 1048576) (hv : RdWorld v m w) :
  Calls Tryz.prog 64 #[v] w fun e w' => RetB (nodP m) e ∧ Below w.heap.size w w' := by
 obtain ⟨da, dc, sa, sc, la, lc, ea, ec, wa, wc, na, nc, ra, rc', ta, tc, rfl, hd, hst, hlo, -, -, -, -, -⟩ := partsWorld hv
 obtain ⟨⟨ds, cop⟩, stores, lost, ⟨eras, trim⟩, writers, mends, readers, sent, torn⟩ := m
 simp only at *
 have hf := ok.2.1
 have hll : lost.length ≤ 1048576 := by unfold sizWorld sizIntS at hs; simp only at hs; omega
 clear hv ok hs
 obtain ⟨rs, rfl, hr, hn⟩ := hst
 rw [List.length_map] at *
 have hl0 := hr.1
 have PD : Hid (nodP ⟨(ds, cop), rs.map Ps.m, lost, ⟨eras, trim⟩, writers, mends, readers, sent, torn⟩ ↔ cfgP ds cop ∧ (rs.length : Int) = (ds.length : Int) ∧ nodesP ds cop lost ∧ (holdsP ds cop lost → torn = true) ∧ ∀ i (h : i < rs.length), stP rs[i].m ∧ ((i : Int) ∈ lost → nilSt rs[i].m)) := by
  unfold nodP Hid
  simp only [List.length_map, List.getElem_map]
  rw [Int.ofNat_inj]
 generalize nodP ⟨(ds, cop), rs.map Ps.m, lost, ⟨eras, trim⟩, writers, mends, readers, sent, torn⟩ = P at *
 have B0 : Below w.heap.size w (w.alloc (.cells #[.slice da ds.length dc, .int .i64 cop, .slice sa rs.length sc, .slice la lost.length lc, .slice ea eras.length ec, .int .i64 trim, .slice wa writers.length wc, .slice na mends.length nc, .slice ra readers.length rc', .slice ta sent.length tc, .bool torn] 47)) := (Below.refl _ _).alloc (Nat.le_refl _) _
 have X0 := Bx.new w [.slice da ds.length dc, .int .i64 cop, .slice sa rs.length sc, .slice la lost.length lc, .slice ea eras.length ec, .int .i64 trim, .slice wa writers.length wc, .slice na mends.length nc, .slice ra readers.length rc', .slice ta sent.length tc, .bool torn] 47
 have HV := dH fun W (hb : Below w.heap.size w W) => hr.below hb
 have HN := dH fun W (hb : Below w.heap.size w W) k (hk : k < rs.length) => (hn _ (List.getElem_mem hk)).below hb
 have HT : Hid (∀ k (hk : k < rs.length), fitS rs[k].m) := fun k hk => hf _ (List.mem_map.2 ⟨_, List.getElem_mem hk, rfl⟩)
 have C1 := dH fun W (hb : Below w.heap.size w W) => specCfg_any _ ds cop W (hd.below hb)
 have C2 := dH fun W (hb : Below w.heap.size w W) => specNodes_any _ _ ds lost cop W (hd.below hb) (hlo.below hb)
 have C3 := dH fun W (hb : Below w.heap.size w W) => specHolds_any _ _ ds lost cop W (hd.below hb) (hlo.below hb) (by omega)
 have C4 := dH fun W (hb : Below w.heap.size w W) (y : Int) => l4Has_any _ lost y W (hlo.below hb)
 clear hn hr hf hd hlo
 go_enter Tryz.func64, Tryz.ntmps64
 go_wp2_with fail
 generalize w.alloc (.cells #[.slice da ds.length dc, .int .i64 cop, .slice sa rs.length sc, .slice la lost.length lc, .slice ea eras.length ec, .int .i64 trim, .slice wa writers.length wc, .slice na mends.length nc, .slice ra readers.length rc', .slice ta sent.length tc, .bool torn] 47) = w0 at *
 refine (dU C1 _ B0).mono ?_
 rintro e w1 ⟨⟨b1, rfl, h1⟩, bl1⟩
 have B1 := bT B0 bl1
 have X1 := X0.below bl1
 clear X0 bl1 B0 C1
 have k0 := X1 0 _ rfl
 have k1 := X1 1 _ rfl
 have k2 := X1 2 _ rfl
 have k3 := X1 3 _ rfl
 cases b1 with
 | false =>
  have R := RetB.no (fun h => by have := h1.2 ((dU PD).1 h).1; cases this)
  clear PD HV HN HT C2 C3 C4 h1 X1
  go_wp2
  go_ret
  exact ⟨R, B1⟩
 | true =>
 have p1 := dH (h1.1 rfl)
 clear h1
 by_cases dl : (rs.length : Int) = (ds.length : Int)
 case neg =>
  have R := RetB.no (fun h => dl ((dU PD).1 h).2.1)
  clear PD HV HN HT C2 C3 C4 X1
  go_wp2
  go_ret
  exact ⟨R, B1⟩
 have DL := dH dl
 go_wp2_with fail
 refine (dU C2 _ B1).mono ?_
 rintro e w2 ⟨⟨b2, rfl, h2⟩, bl2⟩
 have B2 := bT B1 bl2
 have X2 := X1.below bl2
 clear X1 bl2 B1 C2 k0 k1 k2 k3 dl
 have k0 := X2 0 _ rfl
 have k1 := X2 1 _ rfl
 have k2 := X2 2 _ rfl
 have k3 := X2 3 _ rfl
 cases b2 with
 | false =>
  have R := RetB.no (fun h => by have := h2.2 ((dU PD).1 h).2.2.1; cases this)
  clear PD HV HN HT C3 C4 h2 X2
  go_wp2
  go_ret
  exact ⟨R, B2⟩
 | true =>
 have p2 := dH (h2.1 rfl)
 clear h2
 go_wp2_with fail
 refine (dU C3 _ B2).mono ?_
 rintro e w3 ⟨⟨b3, rfl, h3⟩, bl3⟩
 have B3 := bT B2 bl3
 have X3 := X2.below bl3
 clear X2 bl3 B2 C3 k0 k1 k2 k3
 have k10 := X3 10 _ rfl
 by_cases hG : holdsP ds cop lost → torn = true
 case neg =>
  have hh : holdsP ds cop lost := Classical.byContradiction fun h => hG fun h' => absurd h' h
  have ht : torn = false := by
   cases torn with
   | false => rfl
   | true => exact absurd (fun _ => rfl) hG
  have e3 := h3.2 hh
  subst e3 ht
  have R := RetB.no (fun h => by have := ((dU PD).1 h).2.2.2.1 hh; cases this)
  clear PD HV HN HT C4 h3 X3
  go_wp2
  go_ret
  exact ⟨R, B3⟩
 have PD' : Hid ((∀ i (h : i < rs.length), stP rs[i].m ∧ ((i : Int) ∈ lost → nilSt rs[i].m)) ↔ P) := ⟨fun h => (dU PD).2 ⟨dU p1, dU DL, dU p2, hG, h⟩, fun h => ((dU PD).1 h).2.2.2.2⟩
 have HX := dH X3
 have HG : Hid (b3 = true → torn = true) := fun h => hG (h3.1 h)
 clear PD p1 DL p2 hG X3 h3
 cases b3
 case' true =>
  have ht := dU HG rfl
  subst ht
 all_goals
  clear HG
  have k2 := dU HX 2 _ rfl
  go_wp2
  go_loopw [3] (fun y wr => ∃ k : Nat, y = .int .i64 (k : Int) ∧ k ≤ rs.length ∧ Hid (∀ i (h : i < rs.length), i < k → stP rs[i].m ∧ ((i : Int) ∈ lost → nilSt rs[i].m)) ∧ Below w3.heap.size w3 wr) (fun y _ => rs.length - (intOf y).toNat)
  case atStart => exact ⟨0, rfl, Nat.zero_le _, fun i h h' => by omega, Below.refl _ _⟩
  case round =>
   obtain ⟨k, rfl, hk, hc, hb⟩ := hrel
   have hB := bT B3 hb
   have q2 := (dU HX).below hb 2 _ rfl
   clear k2 k10
   by_cases hlt : (k : Int) < (rs.length : Int)
   ·have hkl : k < rs.length := by omega
    obtain ⟨b, off, rfl, he⟩ := (dU HV _ hB).ps hkl
    have hck := he k hkl
    have CE := dH fun W (hb : Below w.heap.size w W) => specStoreOk_any (psVal rs[k]) rs[k].m W (dU HN W hb k hkl) (dU HT k hkl)
    have CZ := dH fun W (hb : Below w.heap.size w W) => l12Zero_any (psVal rs[k]) rs[k].m W (dU HN W hb k hkl)
    have HI : Hid (stP rs[k].m ∧ ((k : Int) ∈ lost → nilSt rs[k].m) → ∀ i (h : i < rs.length), i < k + 1 → stP rs[i].m ∧ ((i : Int) ∈ lost → nilSt rs[i].m)) := fun hq i h hi => by
     by_cases e : i = k
     ·subst e; exact hq
     ·exact dU hc i h (by omega)
    have NO : Hid (¬ (stP rs[k].m ∧ ((k : Int) ∈ lost → nilSt rs[k].m)) → ¬ P) := fun hq h => hq ((dU PD').2 h k hkl)
    clear he hc
    generalize rs[k] = y at *
    obtain ⟨ya, yc, za, zc, m⟩ := y
    unfold psVal at CE CZ
    unfold PsAt at hck
    simp only at *
    generalize m.kept.length = n1 at *
    generalize m.late.length = n2 at *
    generalize m.lock = n3 at *
    obtain ⟨c0, c1, c2⟩ := hck
    have HC := dH (show ∀ W, Below wr.heap.size wr W → W.cell? ⟨b, off + k * 3, none⟩ = some (.slice ya n1 yc) ∧ W.cell? ⟨b, off + k * 3 + 1, none⟩ = some (.slice za n2 zc) ∧ W.cell? ⟨b, off + k * 3 + 2, none⟩ = some (.int .i64 n3) from fun W hB => by
     have cb : ∀ {bb oo : Nat} {vv : Value}, wr.cell? ⟨bb, oo, none⟩ = some vv → W.cell? ⟨bb, oo, none⟩ = some vv := fun {bb oo vv} h => (hB.cell (p := ⟨bb, oo, none⟩) (dCell_lt h)).trans h
     exact ⟨cb c0, cb c1, cb c2⟩)
    go_wp2_with fail
    refine (dU CE _ hB).mono ?_
    rintro e w4 ⟨⟨b4, rfl, h4⟩, bl4⟩
    have hb4 := bT hb bl4
    have hB4 := bT B3 hb4
    have j2 := (dU HX).below hb4 2 _ rfl
    have j3 := (dU HX).below hb4 3 _ rfl
    obtain ⟨d0, d1, d2⟩ := dU HC _ bl4
    clear CE c0 c1 c2 q2
    cases b4 with
    | false =>
     have R := RetB.no (dU NO fun h => by have := h4.2 h.1; cases this)
     clear NO HI h4 CZ HC HV HN HT C4 HX PD'
     go_wp2
     go_ret
     exact ⟨R, hB4⟩
    | true =>
    have p4 := h4.1 rfl
    clear h4
    go_wp2_with fail
    refine (dU C4 _ hB4 _).mono ?_
    rintro e w5 ⟨⟨b5, rfl, h5⟩, rfl⟩
    cases b5 with
    | false =>
     have H2 := dH (dU HI ⟨p4, fun h => by have := h5.2 h; cases this⟩)
     clear NO HI h5 CZ HC p4
     go_wp2
     go_roundw
     case rel => exact ⟨k + 1, by go_num, by omega, dU H2, hb4⟩
     case measure => simp [intOf]; omega
    | true =>
    have p5 := h5.1 rfl
    clear h5
    go_wp2_with fail
    refine (dU CZ _ hB4).mono ?_
    rintro e w6 ⟨⟨b6, rfl, h6⟩, bl6⟩
    have hb6 := bT hb4 bl6
    clear d0 d1 d2 j2 j3 CZ
    cases b6 with
    | false =>
     have R := RetB.no (dU NO fun h => by have := h6.2 (h.2 p5); cases this)
     have hB6 := bT B3 hb6
     clear NO HI h6 HC HV HN HT C4 HX PD'
     go_wp2
     go_ret
     exact ⟨R, hB6⟩
    | true =>
     have H2 := dH (dU HI ⟨p4, fun _ => h6.1 rfl⟩)
     clear NO HI h6 HC
     go_wp2
     go_roundw
     case rel => exact ⟨k + 1, by go_num, by omega, dU H2, hb6⟩
     case measure => simp [intOf]; omega
   ·have R := RetB.yes ((dU PD').1 fun i h => dU hc i h (by omega))
    clear hc PD' HV HN HT C4
    go_wp2
    go_ret
    exact ⟨R, hB⟩
theorem sorted_any (kv lv : Value) (sl : Int) (w : World) (ka la : Option Addr) (kn kc ln lc : Nat) (hk : kv = .slice ka kn kc) (hl : lv = .slice la ln lc) : Calls Tryz.prog 169 #[.agg #[kv, lv, .int .i64 sl]] w fun r w' => r = .returned kv ∧ Below w.heap.size w w' := by
 subst hk hl
 go_enter Tryz.func169, Tryz.ntmps169
 go_wp2
 go_ret
 exact ⟨rfl, (Below.refl _ _).alloc (Nat.le_refl _) _⟩
set_option maxHeartbeats 4000000 in
theorem implStoreOk_any (v : Value) (s : St) (w : World) (hv : Rs w v s) (hf : fitS s) :
  Calls Tryz.prog 122 #[v] w fun e w' => RetB (stP s) e ∧ Below w.heap.size w w' := by
 obtain ⟨kv, lv, rfl, hk, hl⟩ := hv
 obtain ⟨f1, f2, f3, f4⟩ := hf
 have C1 := dH fun W (hb : Below w.heap.size w W) => allOk_any kv s.kept W (hk.below hb) f1
 have C2 := dH fun W (hb : Below w.heap.size w W) => allOk_any lv s.late W (hl.below hb) f2
 have C3 := dH fun W (hb : Below w.heap.size w W) => ascending_any kv s.kept W (hk.below hb)
 obtain ⟨hk0, ka, kc, rfl, -, -⟩ := hk
 obtain ⟨hl0, la, lc, rfl, -, -⟩ := hl
 have C4 := dH fun W => sorted_any _ _ s.lock W ka la s.kept.length kc s.late.length lc rfl rfl
 have SD : Hid (stP s ↔ (s.kept.length ≤ 200 ∧ ∀ e ∈ s.kept, entP e) ∧ (s.late.length ≤ 20 ∧ ∀ e ∈ s.late, entP e) ∧ ascE s.kept ∧ 0 ≤ s.lock ∧ s.lock ≤ 30) := Iff.rfl
 generalize stP s = P at *
 generalize s.lock = sl at *
 have X0 := Bx.new w [.slice ka s.kept.length kc, .slice la s.late.length lc, .int .i64 sl] 125
 have B0 : Below w.heap.size w (w.alloc (.cells #[.slice ka s.kept.length kc, .slice la s.late.length lc, .int .i64 sl] 125)) := (Below.refl _ _).alloc (Nat.le_refl _) _
 have HX0 := dH X0
 clear X0
 by_cases h1 : (200 : Int) < (s.kept.length : Int)
 ·have R : RetB P (.returned (.bool false)) := RetB.no fun h => by have := ((dU SD).1 h).1.1; omega
  have hd : decide ((200 : Int) < (s.kept.length : Int)) = true := decide_eq_true h1
  go_enter Tryz.func122, Tryz.ntmps122
  go_wp2
  go_ret
  exact ⟨R, B0⟩
 by_cases h2 : (20 : Int) < (s.late.length : Int)
 ·have R : RetB P (.returned (.bool false)) := RetB.no fun h => by have := ((dU SD).1 h).2.1.1; omega
  have hd1 : decide ((200 : Int) < (s.kept.length : Int)) = false := decide_eq_false h1
  have hd : decide ((20 : Int) < (s.late.length : Int)) = true := decide_eq_true h2
  go_enter Tryz.func122, Tryz.ntmps122
  go_wp2
  go_ret
  exact ⟨R, B0⟩
 have hd1 : decide ((200 : Int) < (s.kept.length : Int)) = false := decide_eq_false h1
 have hd2 : decide ((20 : Int) < (s.late.length : Int)) = false := decide_eq_false h2
 by_cases h3 : sl < 0
 ·have R : RetB P (.returned (.bool false)) := RetB.no fun h => by have := ((dU SD).1 h).2.2.2.1; omega
  have hd : decide (sl < 0) = true := decide_eq_true h3
  go_enter Tryz.func122, Tryz.ntmps122
  go_wp2
  go_ret
  exact ⟨R, B0⟩
 have hd3 : decide (sl < 0) = false := decide_eq_false h3
 by_cases h4 : 30 < sl
 ·have R : RetB P (.returned (.bool false)) := RetB.no fun h => by have := ((dU SD).1 h).2.2.2.2; omega
  have hd : decide (30 < sl) = true := decide_eq_true h4
  go_enter Tryz.func122, Tryz.ntmps122
  go_wp2
  go_ret
  exact ⟨R, B0⟩
 have hd4 : decide (30 < sl) = false := decide_eq_false h4
 have HL := dH (show s.kept.length ≤ 200 ∧ s.late.length ≤ 20 ∧ 0 ≤ sl ∧ sl ≤ 30 by omega)
 go_enter Tryz.func122, Tryz.ntmps122
 go_wp2_with fail
 refine (dU C1 _ B0).mono ?_
 rintro e w1 ⟨⟨b1, rfl, k1⟩, bl1⟩
 have B1 := bT B0 bl1
 have HX1 := dH ((dU HX0).below bl1)
 clear B0 bl1 HX0 C1
 have p0 := dU HX1 0 _ rfl
 have p1 := dU HX1 1 _ rfl
 have p2 := dU HX1 2 _ rfl
 cases b1
 ·have R : RetB P (.returned (.bool false)) := RetB.no fun h => by have := k1.2 ((dU SD).1 h).1.2; cases this
  clear k1
  go_wp2
  go_ret
  exact ⟨R, B1⟩
 have H1 := dH (k1.1 rfl)
 clear k1
 go_wp2_with fail
 refine (dU C2 _ B1).mono ?_
 rintro e w2 ⟨⟨b2, rfl, k2⟩, bl2⟩
 have B2 := bT B1 bl2
 have HX2 := dH ((dU HX1).below bl2)
 clear B1 bl2 HX1 C2 p0 p1 p2
 have p0 := dU HX2 0 _ rfl
 have p1 := dU HX2 1 _ rfl
 have p2 := dU HX2 2 _ rfl
 cases b2
 ·have R : RetB P (.returned (.bool false)) := RetB.no fun h => by have := k2.2 ((dU SD).1 h).2.1.2; cases this
  clear k2
  go_wp2
  go_ret
  exact ⟨R, B2⟩
 have H2 := dH (k2.1 rfl)
 clear k2
 go_wp2_with fail
 refine (dU C4 _).mono ?_
 rintro e w3 ⟨rfl, bl3⟩
 have B3 := bT B2 bl3
 clear B2 bl3 HX2 C4 p0 p1 p2
 go_wp2_with fail
 refine (dU C3 _ B3).mono ?_
 rintro e w4 ⟨⟨b3, rfl, k3⟩, bl4⟩
 have B4 := bT B3 bl4
 clear B3 bl4 C3
 have R : RetB P (.returned (.bool b3)) := ⟨b3, rfl, fun h => (dU SD).2 ⟨⟨(dU HL).1, dU H1⟩, ⟨(dU HL).2.1, dU H2⟩, k3.1 h, (dU HL).2.2⟩, fun h => k3.2 ((dU SD).1 h).2.2.1⟩
 clear k3
 go_wp2
 go_ret
 exact ⟨R, B4⟩
theorem mn_at (ds : List Int) (cop : Int) (m : Mn) : mnP ds cop m ↔ atP ds cop m (if m.planned then 1 else 0) := by
 have hw : (∀ i (h : i < m.wrote.length), nodesP ds cop m.wrote[i]) ↔ ∀ l ∈ m.wrote, nodesP ds cop l := ⟨fun h l hl => by obtain ⟨i, hi, rfl⟩ := List.getElem_of_mem hl; exact h i hi, fun h i hi => h _ (List.getElem_mem hi)⟩
 unfold mnP mnH wroteP atP
 rw [hw]
 cases hp : m.planned with
 | true =>
  simp only [if_pos]
  constructor
  ·rintro ⟨⟨h1, h2, h3, h4, h5⟩, h6, h7, h8⟩
   exact ⟨by omega, by simp, by simpa using h8, ⟨h2, h3⟩, ⟨h4, h7⟩, h6, h5⟩
  ·rintro ⟨-, -, h8, ⟨h2, h3⟩, ⟨h4, h7⟩, h6, h5⟩
   exact ⟨⟨h4.1, h2, h3, h4, h5⟩, h6, h7, by simpa using h8⟩
 | false =>
  constructor
  ·rintro ⟨⟨h1, h2, h3, h4, h5⟩, h6, h7, h8⟩
   exact ⟨by intro h; simp at h, by intro h; simp at h, by simpa using h8, ⟨h2, h3⟩, ⟨h4, h7⟩, h6, h5⟩
  ·rintro ⟨-, -, h8, ⟨h2, h3⟩, ⟨h4, h7⟩, h6, h5⟩
   exact ⟨⟨h4.1, h2, h3, h4, h5⟩, h6, h7, by simpa using h8⟩
set_option maxHeartbeats 4000000 in
theorem implMendOk_any (cv v : Value) (c : List Int × Int) (m : Mn) (w : World) (hc : RdConfig cv c w) (hv : RdMend v m w) (okc : okConfig c) (ok : okMend m) (hsc : sizConfig c ≤ 1048576) (hs : sizMend m ≤ 1048576) :
  Calls Tryz.prog 138 #[cv, v] w fun e w' => RetB (mnP c.1 c.2 m) e ∧ Below w.heap.size w w' := by
 have ba : ∀ (w : World) o, Below w.heap.size w (w.alloc o) := fun w o => (Below.refl _ _).alloc (Nat.le_refl _) o
 have CS := dH fun W (hb : Below w.heap.size w W) => implStep_any v m W (hv.below hb)
 have CA : Hid (∀ W, Below w.heap.size w W → Calls Tryz.prog 187 #[v, cv, .int .i64 (if m.planned then 1 else 0)] W fun e w' => RetB (mnP c.1 c.2 m) e ∧ Below W.heap.size W w') := fun W hb => by
  rw [mn_at]
  cases hp : m.planned with
  | true => exact implAt1_any cv v c m W (hc.below hb) (hv.below hb) okc ok hsc (smlM_of hs)
  | false => exact implAt0_any cv v c m W (hc.below hb) (hv.below hb) okc ok hsc (smlM_of hs)
 obtain ⟨ds, cop⟩ := c
 obtain ⟨ca, cc, rfl, -⟩ := formConfig hc
 obtain ⟨sa, sc, ea, ec, wa, wc, rfl, hl1, hl2, hl3⟩ := formMend hv
 simp only at *
 generalize mnP ds cop m = P at *
 generalize (if m.planned = true then (1 : Int) else 0) = sp at *
 generalize m.bye = f0 at *
 generalize m.epoch = f1 at *
 generalize m.planned = f4 at *
 generalize m.sealed.length = l2 at *
 generalize m.seen.length = l3 at *
 generalize m.wrote.length = l5 at *
 clear hc hv okc ok hs
 have bA := bT (ba w (.cells #[.slice ca ds.length cc, .int .i64 cop] 38)) (ba _ (.cells #[.int .i64 f0, .int .i64 f1, .slice sa l2 sc, .slice ea l3 ec, .bool f4, .slice wa l5 wc] 133))
 have X0 := (Bx.new w [.slice ca ds.length cc, .int .i64 cop] 38).below (ba _ (.cells #[.int .i64 f0, .int .i64 f1, .slice sa l2 sc, .slice ea l3 ec, .bool f4, .slice wa l5 wc] 133))
 have Y0 := Bx.new (w.alloc (.cells #[.slice ca ds.length cc, .int .i64 cop] 38)) [.int .i64 f0, .int .i64 f1, .slice sa l2 sc, .slice ea l3 ec, .bool f4, .slice wa l5 wc] 133
 have e1 : (w.alloc (.cells #[.slice ca ds.length cc, .int .i64 cop] 38)).heap.size = w.heap.size + 1 := by simp
 rw [e1] at Y0
 clear e1
 go_enter Tryz.func138, Tryz.ntmps138
 go_wp2_with fail
 generalize (w.alloc (.cells #[.slice ca ds.length cc, .int .i64 cop] 38)).alloc (.cells #[.int .i64 f0, .int .i64 f1, .slice sa l2 sc, .slice ea l3 ec, .bool f4, .slice wa l5 wc] 133) = w0 at *
 have PP : Hid (∀ W, Below w0.heap.size w0 W → (W.cell? ⟨w.heap.size, 0, none⟩ = some (.slice ca ds.length cc) ∧ W.cell? ⟨w.heap.size, 1, none⟩ = some (.int .i64 cop)) ∧ W.cell? ⟨w.heap.size + 1, 0, none⟩ = some (.int .i64 f0) ∧ W.cell? ⟨w.heap.size + 1, 1, none⟩ = some (.int .i64 f1) ∧ W.cell? ⟨w.heap.size + 1, 2, none⟩ = some (.slice sa l2 sc) ∧ W.cell? ⟨w.heap.size + 1, 3, none⟩ = some (.slice ea l3 ec) ∧ W.cell? ⟨w.heap.size + 1, 4, none⟩ = some (.bool f4) ∧ W.cell? ⟨w.heap.size + 1, 5, none⟩ = some (.slice wa l5 wc)) := fun W hW => ⟨⟨X0.below hW 0 _ rfl, X0.below hW 1 _ rfl⟩, Y0.below hW 0 _ rfl, Y0.below hW 1 _ rfl, Y0.below hW 2 _ rfl, Y0.below hW 3 _ rfl, Y0.below hW 4 _ rfl, Y0.below hW 5 _ rfl⟩
 have bd : Below w0.heap.size w0 w0.drew := (Below.refl _ _).drew
 clear X0 Y0
 go_region_held3 (fun W => (W.cell? ⟨w.heap.size, 0, none⟩ = some (.slice ca ds.length cc) ∧ W.cell? ⟨w.heap.size, 1, none⟩ = some (.int .i64 cop)) ∧ W.cell? ⟨w.heap.size + 1, 0, none⟩ = some (.int .i64 f0) ∧ W.cell? ⟨w.heap.size + 1, 1, none⟩ = some (.int .i64 f1) ∧ W.cell? ⟨w.heap.size + 1, 2, none⟩ = some (.slice sa l2 sc) ∧ W.cell? ⟨w.heap.size + 1, 3, none⟩ = some (.slice ea l3 ec) ∧ W.cell? ⟨w.heap.size + 1, 4, none⟩ = some (.bool f4) ∧ W.cell? ⟨w.heap.size + 1, 5, none⟩ = some (.slice wa l5 wc)) (first | exact dU PP _ hb6 | exact dU PP _ hb5 | exact dU PP _ (Below.refl _ _) | exact dU PP _ bd | go_keep)
  (first
   | (go_at_call 188; refine (dU CS _ (bT bA bd)).mono ?_; rintro e w5 ⟨rfl, b5⟩; have hb5 := bT bd b5)
   | (go_at_call 187; refine (dU CA _ (bT bA hb5)).mono ?_; rintro e w6 ⟨⟨b6, rfl, h6⟩, bl6⟩; have hb6 := bT hb5 bl6))
 all_goals
  have R : Hid (RetB P (.returned (.bool b6))) := ⟨_, rfl, h6⟩
  clear h6 CS CA
  go_wp2
  go_ret
  exact ⟨dU R, bT bA hb6⟩
end Go.Proofs.YtkiclbbialadlaaGreat
