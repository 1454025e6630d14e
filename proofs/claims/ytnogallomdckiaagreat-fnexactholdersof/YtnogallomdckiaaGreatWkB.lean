/- spec's l12Zero, l12Nodes; impl's isZero (printed by tools/mkwkb.py). -/
import Derived.Test.YtnogallomdckiaaGreatGz18
import Derived.Test.YtnogallomdckiaaGreatOpenY
import Derived.Deep.DeepCutAuto
namespace Go.Proofs.YtnogallomdckiaaGreat
open Go.ChangeShapes Go.WideShapes Go.ChangeAt Go.RowKit
set_option linter.unusedVariables false
set_option linter.unusedSimpArgs false
set_option maxRecDepth 100000

set_option maxHeartbeats 2000000 in
theorem l12Zero_any (v : Value) (s : St) (w : World) (hv : RdStore v s w) :
  Calls Tryz.prog 218 #[v] w fun e w' => RetB (nilSt s) e ∧ Below w.heap.size w w' := by
 obtain ⟨ka, kc, la, lc, rfl, -, -⟩ := formStore hv
 have ba : ∀ (w : World) o, Below w.heap.size w (w.alloc o) := fun w o => (Below.refl _ _).alloc (Nat.le_refl _) o
 have PD : Hid (nilSt s ↔ (s.kept.length : Int) = 0 ∧ (s.late.length : Int) = 0 ∧ s.lock = 0) := by unfold nilSt Hid; omega
 generalize nilSt s = P at *
 generalize s.kept.length = n1 at *
 generalize s.late.length = n2 at *
 generalize s.lock = n3 at *
 clear hv
 by_cases d1 : (n1 : Int) = 0
 ·by_cases d2 : (n2 : Int) = 0
  ·by_cases d3 : n3 = 0
   ·have R := RetB.yes ((dU PD).2 ⟨d1, d2, d3⟩)
    clear PD
    go_enter Tryz.func218, Tryz.ntmps218
    go_wp2
    go_ret
    exact ⟨R, ba w _⟩
   ·have R : RetB P (.returned (.bool (n3 == 0))) := by
     rw [show (n3 == 0) = false from by simpa using d3]
     exact RetB.no (fun h => d3 ((dU PD).1 h).2.2)
    clear PD
    go_enter Tryz.func218, Tryz.ntmps218
    go_wp2
    go_ret
    exact ⟨R, ba w _⟩
  ·have R := RetB.no (fun h => d2 ((dU PD).1 h).2.1)
   clear PD
   go_enter Tryz.func218, Tryz.ntmps218
   go_wp2
   go_ret
   exact ⟨R, ba w _⟩
 ·have R := RetB.no (fun h => d1 ((dU PD).1 h).1)
  clear PD
  go_enter Tryz.func218, Tryz.ntmps218
  go_wp2
  go_ret
  exact ⟨R, ba w _⟩
set_option maxHeartbeats 2000000 in
theorem isZero_any (v : Value) (s : St) (w : World) (hv : RdStore v s w) :
  Calls Tryz.prog 205 #[v] w fun e w' => RetB (nilSt s) e ∧ Below w.heap.size w w' := by
 obtain ⟨ka, kc, la, lc, rfl, -, -⟩ := formStore hv
 have ba : ∀ (w : World) o, Below w.heap.size w (w.alloc o) := fun w o => (Below.refl _ _).alloc (Nat.le_refl _) o
 have PD : Hid (nilSt s ↔ (s.kept.length : Int) = 0 ∧ (s.late.length : Int) = 0 ∧ s.lock = 0) := by unfold nilSt Hid; omega
 generalize nilSt s = P at *
 generalize s.kept.length = n1 at *
 generalize s.late.length = n2 at *
 generalize s.lock = n3 at *
 clear hv
 by_cases d1 : (n1 : Int) = 0
 ·by_cases d2 : (n2 : Int) = 0
  ·by_cases d3 : n3 = 0
   ·have R := RetB.yes ((dU PD).2 ⟨d1, d2, d3⟩)
    clear PD
    go_enter Tryz.func205, Tryz.ntmps205
    go_wp2
    go_ret
    exact ⟨R, ba w _⟩
   ·have R : RetB P (.returned (.bool (n3 == 0))) := by
     rw [show (n3 == 0) = false from by simpa using d3]
     exact RetB.no (fun h => d3 ((dU PD).1 h).2.2)
    clear PD
    go_enter Tryz.func205, Tryz.ntmps205
    go_wp2
    go_ret
    exact ⟨R, ba w _⟩
  ·have R := RetB.no (fun h => d2 ((dU PD).1 h).2.1)
   clear PD
   go_enter Tryz.func205, Tryz.ntmps205
   go_wp2
   go_ret
   exact ⟨R, ba w _⟩
 ·have R := RetB.no (fun h => d1 ((dU PD).1 h).1)
  clear PD
  go_enter Tryz.func205, Tryz.ntmps205
  go_wp2
  go_ret
  exact ⟨R, ba w _⟩
set_option maxHeartbeats 8000000 in
theorem l12Nodes_any (v : Value) (m : Wo) (w : World) (ok : okWorld m) (hs : sizWorld m ≤ 1048576) (hv : RdWorld v m w) :
  Calls Tryz.prog 110 #[v] w fun e w' => RetB (nodP m) e ∧ Below w.heap.size w w' := by
 obtain ⟨da, dc, sa, sc, la, lc, ea, ec, wa, wc, na, nc, ra, rc', ta, tc, rfl, hd, hst, hlo, -, -, -, -, -⟩ := partsWorld hv
 obtain ⟨⟨ds, cop⟩, stores, lost, ⟨eras, trim⟩, writers, mends, readers, sent, torn⟩ := m
 simp only at *
 have hf := ok.2.1
 have hll : lost.length ≤ 1048576 := by unfold sizWorld sizIntS at hs; simp only at hs; omega
 clear hv ok hs
 obtain ⟨rs, rfl, hr, hn⟩ := hst
 rw [List.length_map] at *
 have hl0 := hr.1
 have PD : Hid (nodP ⟨(ds, cop), rs.map Ps.m, lost, ⟨eras, trim⟩, writers, mends, readers, sent, torn⟩ ↔ cfgP ds cop ∧ (rs.length : Int) = (ds.length : Int) ∧ nodesP ds cop lost ∧ (holdsP ds cop lost → torn = true) ∧ ∀ i (h : i < rs.length), stP rs[i].m ∧ ((i : Int) ∈ lost → nilSt rs[i].m)) := by
  unfold nodP Hid
  simp only [List.length_map, List.getElem_map]
  rw [Int.ofNat_inj]
 generalize nodP ⟨(ds, cop), rs.map Ps.m, lost, ⟨eras, trim⟩, writers, mends, readers, sent, torn⟩ = P at *
 have B0 : Below w.heap.size w (w.alloc (.cells #[.slice da ds.length dc, .int .i64 cop, .slice sa rs.length sc, .slice la lost.length lc, .slice ea eras.length ec, .int .i64 trim, .slice wa writers.length wc, .slice na mends.length nc, .slice ra readers.length rc', .slice ta sent.length tc, .bool torn] 71)) := (Below.refl _ _).alloc (Nat.le_refl _) _
 have X0 := Bx.new w [.slice da ds.length dc, .int .i64 cop, .slice sa rs.length sc, .slice la lost.length lc, .slice ea eras.length ec, .int .i64 trim, .slice wa writers.length wc, .slice na mends.length nc, .slice ra readers.length rc', .slice ta sent.length tc, .bool torn] 71
 have HV := dH fun W (hb : Below w.heap.size w W) => hr.below hb
 have HN := dH fun W (hb : Below w.heap.size w W) k (hk : k < rs.length) => (hn _ (List.getElem_mem hk)).below hb
 have HT : Hid (∀ k (hk : k < rs.length), fitS rs[k].m) := fun k hk => hf _ (List.mem_map.2 ⟨_, List.getElem_mem hk, rfl⟩)
 have C1 := dH fun W (hb : Below w.heap.size w W) => specCfg_any _ ds cop W (hd.below hb)
 have C2 := dH fun W (hb : Below w.heap.size w W) => specNodes_any _ _ ds lost cop W (hd.below hb) (hlo.below hb)
 have C3 := dH fun W (hb : Below w.heap.size w W) => specHolds_any _ _ ds lost cop W (hd.below hb) (hlo.below hb) (by omega)
 have C4 := dH fun W (hb : Below w.heap.size w W) (y : Int) => l4Has_any _ lost y W (hlo.below hb)
 clear hn hr hf hd hlo
 go_enter Tryz.func110, Tryz.ntmps110
 go_wp2_with fail
 generalize w.alloc (.cells #[.slice da ds.length dc, .int .i64 cop, .slice sa rs.length sc, .slice la lost.length lc, .slice ea eras.length ec, .int .i64 trim, .slice wa writers.length wc, .slice na mends.length nc, .slice ra readers.length rc', .slice ta sent.length tc, .bool torn] 71) = w0 at *
 refine (dU C1 _ B0).mono ?_
 rintro e w1 ⟨⟨b1, rfl, h1⟩, bl1⟩
 have B1 := bT B0 bl1
 have X1 := X0.below bl1
 clear X0 bl1 B0 C1
 have k0 := X1 0 _ rfl
 have k1 := X1 1 _ rfl
 have k2 := X1 2 _ rfl
 have k3 := X1 3 _ rfl
 cases b1 with
 | false =>
  have R := RetB.no (fun h => by have := h1.2 ((dU PD).1 h).1; cases this)
  clear PD HV HN HT C2 C3 C4 h1 X1
  go_wp2
  go_ret
  exact ⟨R, B1⟩
 | true =>
 have p1 := dH (h1.1 rfl)
 clear h1
 by_cases dl : (rs.length : Int) = (ds.length : Int)
 case neg =>
  have R := RetB.no (fun h => dl ((dU PD).1 h).2.1)
  clear PD HV HN HT C2 C3 C4 X1
  go_wp2
  go_ret
  exact ⟨R, B1⟩
 have DL := dH dl
 go_wp2_with fail
 refine (dU C2 _ B1).mono ?_
 rintro e w2 ⟨⟨b2, rfl, h2⟩, bl2⟩
 have B2 := bT B1 bl2
 have X2 := X1.below bl2
 clear X1 bl2 B1 C2 k0 k1 k2 k3 dl
 have k0 := X2 0 _ rfl
 have k1 := X2 1 _ rfl
 have k2 := X2 2 _ rfl
 have k3 := X2 3 _ rfl
 cases b2 with
 | false =>
  have R := RetB.no (fun h => by have := h2.2 ((dU PD).1 h).2.2.1; cases this)
  clear PD HV HN HT C3 C4 h2 X2
  go_wp2
  go_ret
  exact ⟨R, B2⟩
 | true =>
 have p2 := dH (h2.1 rfl)
 clear h2
 go_wp2_with fail
 refine (dU C3 _ B2).mono ?_
 rintro e w3 ⟨⟨b3, rfl, h3⟩, bl3⟩
 have B3 := bT B2 bl3
 have X3 := X2.below bl3
 clear X2 bl3 B2 C3 k0 k1 k2 k3
 have k10 := X3 10 _ rfl
 by_cases hG : holdsP ds cop lost → torn = true
 case neg =>
  have hh : holdsP ds cop lost := Classical.byContradiction fun h => hG fun h' => absurd h' h
  have ht : torn = false := by
   cases torn with
   | false => rfl
   | true => exact absurd (fun _ => rfl) hG
  have e3 := h3.2 hh
  subst e3 ht
  have R := RetB.no (fun h => by have := ((dU PD).1 h).2.2.2.1 hh; cases this)
  clear PD HV HN HT C4 h3 X3
  go_wp2
  go_ret
  exact ⟨R, B3⟩
 have PD' : Hid ((∀ i (h : i < rs.length), stP rs[i].m ∧ ((i : Int) ∈ lost → nilSt rs[i].m)) ↔ P) := ⟨fun h => (dU PD).2 ⟨dU p1, dU DL, dU p2, hG, h⟩, fun h => ((dU PD).1 h).2.2.2.2⟩
 have HX := dH X3
 have HG : Hid (b3 = true → torn = true) := fun h => hG (h3.1 h)
 clear PD p1 DL p2 hG X3 h3
 cases b3
 case' true =>
  have ht := dU HG rfl
  subst ht
 all_goals
  clear HG
  have k2 := dU HX 2 _ rfl
  go_wp2
  go_loopw [3] (fun y wr => ∃ k : Nat, y = .int .i64 (k : Int) ∧ k ≤ rs.length ∧ Hid (∀ i (h : i < rs.length), i < k → stP rs[i].m ∧ ((i : Int) ∈ lost → nilSt rs[i].m)) ∧ Below w3.heap.size w3 wr) (fun y _ => rs.length - (intOf y).toNat)
  case atStart => exact ⟨0, rfl, Nat.zero_le _, fun i h h' => by omega, Below.refl _ _⟩
  case round =>
   obtain ⟨k, rfl, hk, hc, hb⟩ := hrel
   have hB := bT B3 hb
   have q2 := (dU HX).below hb 2 _ rfl
   clear k2 k10
   by_cases hlt : (k : Int) < (rs.length : Int)
   ·have hkl : k < rs.length := by omega
    obtain ⟨b, off, rfl, he⟩ := (dU HV _ hB).ps hkl
    have hck := he k hkl
    have CE := dH fun W (hb : Below w.heap.size w W) => specStoreOk_any (psVal rs[k]) rs[k].m W (dU HN W hb k hkl) (dU HT k hkl)
    have CZ := dH fun W (hb : Below w.heap.size w W) => l12Zero_any (psVal rs[k]) rs[k].m W (dU HN W hb k hkl)
    have HI : Hid (stP rs[k].m ∧ ((k : Int) ∈ lost → nilSt rs[k].m) → ∀ i (h : i < rs.length), i < k + 1 → stP rs[i].m ∧ ((i : Int) ∈ lost → nilSt rs[i].m)) := fun hq i h hi => by
     by_cases e : i = k
     ·subst e; exact hq
     ·exact dU hc i h (by omega)
    have NO : Hid (¬ (stP rs[k].m ∧ ((k : Int) ∈ lost → nilSt rs[k].m)) → ¬ P) := fun hq h => hq ((dU PD').2 h k hkl)
    clear he hc
    generalize rs[k] = y at *
    obtain ⟨ya, yc, za, zc, m⟩ := y
    unfold psVal at CE CZ
    unfold PsAt at hck
    simp only at *
    generalize m.kept.length = n1 at *
    generalize m.late.length = n2 at *
    generalize m.lock = n3 at *
    obtain ⟨c0, c1, c2⟩ := hck
    have HC := dH (show ∀ W, Below wr.heap.size wr W → W.cell? ⟨b, off + k * 3, none⟩ = some (.slice ya n1 yc) ∧ W.cell? ⟨b, off + k * 3 + 1, none⟩ = some (.slice za n2 zc) ∧ W.cell? ⟨b, off + k * 3 + 2, none⟩ = some (.int .i64 n3) from fun W hB => by
     have cb : ∀ {bb oo : Nat} {vv : Value}, wr.cell? ⟨bb, oo, none⟩ = some vv → W.cell? ⟨bb, oo, none⟩ = some vv := fun {bb oo vv} h => (hB.cell (p := ⟨bb, oo, none⟩) (dCell_lt h)).trans h
     exact ⟨cb c0, cb c1, cb c2⟩)
    go_wp2_with fail
    refine (dU CE _ hB).mono ?_
    rintro e w4 ⟨⟨b4, rfl, h4⟩, bl4⟩
    have hb4 := bT hb bl4
    have hB4 := bT B3 hb4
    have j2 := (dU HX).below hb4 2 _ rfl
    have j3 := (dU HX).below hb4 3 _ rfl
    obtain ⟨d0, d1, d2⟩ := dU HC _ bl4
    clear CE c0 c1 c2 q2
    cases b4 with
    | false =>
     have R := RetB.no (dU NO fun h => by have := h4.2 h.1; cases this)
     clear NO HI h4 CZ HC HV HN HT C4 HX PD'
     go_wp2
     go_ret
     exact ⟨R, hB4⟩
    | true =>
    have p4 := h4.1 rfl
    clear h4
    go_wp2_with fail
    refine (dU C4 _ hB4 _).mono ?_
    rintro e w5 ⟨⟨b5, rfl, h5⟩, rfl⟩
    cases b5 with
    | false =>
     have H2 := dH (dU HI ⟨p4, fun h => by have := h5.2 h; cases this⟩)
     clear NO HI h5 CZ HC p4
     go_wp2
     go_roundw
     case rel => exact ⟨k + 1, by go_num, by omega, dU H2, hb4⟩
     case measure => simp [intOf]; omega
    | true =>
    have p5 := h5.1 rfl
    clear h5
    go_wp2_with fail
    refine (dU CZ _ hB4).mono ?_
    rintro e w6 ⟨⟨b6, rfl, h6⟩, bl6⟩
    have hb6 := bT hb4 bl6
    clear d0 d1 d2 j2 j3 CZ
    cases b6 with
    | false =>
     have R := RetB.no (dU NO fun h => by have := h6.2 (h.2 p5); cases this)
     have hB6 := bT B3 hb6
     clear NO HI h6 HC HV HN HT C4 HX PD'
     go_wp2
     go_ret
     exact ⟨R, hB6⟩
    | true =>
     have H2 := dH (dU HI ⟨p4, fun _ => h6.1 rfl⟩)
     clear NO HI h6 HC
     go_wp2
     go_roundw
     case rel => exact ⟨k + 1, by go_num, by omega, dU H2, hb6⟩
     case measure => simp [intOf]; omega
   ·have R := RetB.yes ((dU PD').1 fun i h => dU hc i h (by omega))
    clear hc PD' HV HN HT C4
    go_wp2
    go_ret
    exact ⟨R, hB⟩
end Go.Proofs.YtnogallomdckiaaGreat
