/- spec's l12Epochs (printed by tools/mkwkc.py). -/
import Derived.Test.YtkiclbbialadlaaGreatGz18
import Derived.Test.YtkiclbbialadlaaGreatOpenY
import Derived.Test.YtkiclbbialadlaaGreatMnB
import Derived.Deep.DeepCutAuto
import Derived.Deep.RegionHeld3
namespace Go.Proofs.YtkiclbbialadlaaGreat
open Go.ChangeShapes Go.WideShapes Go.ChangeAt Go.RowKit
set_option linter.unusedVariables false
set_option linter.unusedSimpArgs false
set_option maxRecDepth 100000

set_option maxHeartbeats 16000000 in
theorem l12Epochs_any (v : Value) (m : Wo) (w : World) (ok : okWorld m) (hs : sizWorld m ≤ 1048576) (hv : RdWorld v m w) :
  Calls Tryz.prog 65 #[v] w fun e w' => RetB (epoP m) e ∧ Below w.heap.size w w' := by
 obtain ⟨da, dc, sa, sc, la, lc, ea, ec, wa, wc, na, nc, ra, rc', ta, tc, rfl, hd, -, -, hre, hwr, hme, -, -⟩ := partsWorld hv
 obtain ⟨⟨ds, cop⟩, stores, lost, ⟨eras, trim⟩, writers, mends, readers, sent, torn⟩ := m
 obtain ⟨-, -, -, okR, okW, okM, -, -⟩ := ok
 simp only at *
 have hs1 : sizRegister ⟨eras, trim⟩ ≤ 1048576 ∧ sizWriterS writers ≤ 1048576 := by unfold sizWorld at hs; simp only at hs; exact ⟨by omega, by omega⟩
 have hel : eras.length ≤ 1048576 := by have := hs1.1; unfold sizRegister sizEraS at this; simp only at this; omega
 have hwS : ∀ k (hk : k < writers.length), sizWriter writers[k] ≤ 4194304 := fun k hk => by
  have := sumPd_mem sizWriter hk
  have := hs1.2
  unfold sizWriterS sizD at this
  omega
 clear hv hs
 obtain ⟨rs, rfl, hr, hn⟩ := hwr
 obtain ⟨ns, rfl, hR, hN⟩ := hme
 simp only [List.length_map] at *
 have hl0 := hr.1
 have hl1 := hR.1
 have PD : Hid (epoP ⟨(ds, cop), stores, lost, ⟨eras, trim⟩, rs.map Pd.m, ns.map Pd.m, readers, sent, torn⟩ ↔ regP ds cop ⟨eras, trim⟩ ∧ (rs.length : Int) ≤ 4 ∧ (ns.length : Int) ≤ 1 ∧ (∀ i (h : i < rs.length), wrP ds cop rs[i].m ∧ rs[i].m.epoch ≤ (eras.length : Int) ∧ (0 < i → (rs[i - 1]'(by omega)).m.epoch < rs[i].m.epoch)) ∧ ∀ i (h : i < ns.length), mnP ds cop ns[i].m ∧ ns[i].m.bye = (eras.length : Int) ∧ ns[i].m.epoch = (firstO eras : Int)) := by
  unfold epoP wriP Hid
  simp only [List.length_map, List.getElem_map]
  rw [show ((rs.length : Int) ≤ 4 ↔ rs.length ≤ 4) from by omega, show ((ns.length : Int) ≤ 1 ↔ ns.length ≤ 1) from by omega]
 generalize epoP ⟨(ds, cop), stores, lost, ⟨eras, trim⟩, rs.map Pd.m, ns.map Pd.m, readers, sent, torn⟩ = P at *
 have B0 : Below w.heap.size w (w.alloc (.cells #[.slice da ds.length dc, .int .i64 cop, .slice sa stores.length sc, .slice la lost.length lc, .slice ea eras.length ec, .int .i64 trim, .slice wa rs.length wc, .slice na ns.length nc, .slice ra readers.length rc', .slice ta sent.length tc, .bool torn] 47)) := (Below.refl _ _).alloc (Nat.le_refl _) _
 have X0 := Bx.new w [.slice da ds.length dc, .int .i64 cop, .slice sa stores.length sc, .slice la lost.length lc, .slice ea eras.length ec, .int .i64 trim, .slice wa rs.length wc, .slice na ns.length nc, .slice ra readers.length rc', .slice ta sent.length tc, .bool torn] 47
 have HV := dH fun W (hb : Below w.heap.size w W) => hr.below hb
 have HN := dH fun W (hb : Below w.heap.size w W) k (hk : k < rs.length) => (hn _ (List.getElem_mem hk)).below hb
 have HS : Hid (∀ k (hk : k < rs.length), sizWriter rs[k].m ≤ 4194304) := fun k hk => by have := hwS k (by simpa using hk); rwa [List.getElem_map] at this
 have GV := dH fun W (hb : Below w.heap.size w W) => hR.below hb
 have GN := dH fun W (hb : Below w.heap.size w W) k (hk : k < ns.length) => (hN _ (List.getElem_mem hk)).below hb
 have GF : Hid (∀ k (hk : k < ns.length), fitE ns[k].m.seen) := fun k hk => (okM _ (List.mem_map.2 ⟨_, List.getElem_mem hk, rfl⟩)).2.2.2.1
 have C1 := dH fun W (hb : Below w.heap.size w W) => specRegOk_any _ (.agg #[.slice ea eras.length ec, .int .i64 trim]) (ds, cop) ⟨eras, trim⟩ W ⟨_, rfl, hd.below hb⟩ ⟨_, rfl, RdK.below hre hb⟩ okR.2 hs1.1
 have CW := dH fun W (hb : Below w.heap.size w W) k (hk : k < rs.length) => specWriterOk_any _ rs[k].val (ds, cop) rs[k].m W ⟨_, rfl, hd.below hb⟩ (dU HN W hb k hk) (dU HS k hk)
 have CM := dH fun W (hb : Below w.heap.size w W) k (hk : k < ns.length) => specMendOk_any _ ns[k].val (ds, cop) ns[k].m W ⟨_, rfl, hd.below hb⟩ (dU GN W hb k hk) (dU GF k hk)
 have CF := dH fun W (hb : Below w.heap.size w W) => specFirst_any (.agg #[.slice ea eras.length ec, .int .i64 trim]) ⟨eras, trim⟩ W ⟨_, rfl, RdK.below hre hb⟩
 simp only at C1 CW CM CF
 clear hn hr hR hN hd hre okW okM okR hwS HS GF
 generalize firstO eras = fo at *
 go_enter Tryz.func65, Tryz.ntmps65
 go_wp2_with fail
 generalize w.alloc (.cells #[.slice da ds.length dc, .int .i64 cop, .slice sa stores.length sc, .slice la lost.length lc, .slice ea eras.length ec, .int .i64 trim, .slice wa rs.length wc, .slice na ns.length nc, .slice ra readers.length rc', .slice ta sent.length tc, .bool torn] 47) = w0 at *
 refine (dU C1 _ B0).mono ?_
 rintro e w1 ⟨⟨b1, rfl, h1⟩, bl1⟩
 have B1 := bT B0 bl1
 have X1 := X0.below bl1
 clear X0 bl1 B0 C1
 have k6 := X1 6 _ rfl
 have k7 := X1 7 _ rfl
 cases b1 with
 | false =>
  have R := RetB.no (fun h => by have := h1.2 ((dU PD).1 h).1; cases this)
  clear PD HV HN GV GN CW CM CF h1 X1
  go_wp2
  go_ret
  exact ⟨R, B1⟩
 | true =>
 have p1 := dH (h1.1 rfl)
 clear h1
 by_cases d4 : 4 < (rs.length : Int)
 ·have R := RetB.no (fun h => by have := ((dU PD).1 h).2.1; omega)
  clear PD HV HN GV GN CW CM CF X1
  go_wp2
  go_ret
  exact ⟨R, B1⟩
 by_cases d1 : 1 < (ns.length : Int)
 ·have R := RetB.no (fun h => by have := ((dU PD).1 h).2.2.1; omega)
  clear PD HV HN GV GN CW CM CF X1
  go_wp2
  go_ret
  exact ⟨R, B1⟩
 have PD' : Hid (((∀ i (h : i < rs.length), wrP ds cop rs[i].m ∧ rs[i].m.epoch ≤ (eras.length : Int) ∧ (0 < i → (rs[i - 1]'(by omega)).m.epoch < rs[i].m.epoch)) ∧ ∀ i (h : i < ns.length), mnP ds cop ns[i].m ∧ ns[i].m.bye = (eras.length : Int) ∧ ns[i].m.epoch = (fo : Int)) ↔ P) := ⟨fun h => (dU PD).2 ⟨dU p1, by omega, by omega, h.1, h.2⟩, fun h => ((dU PD).1 h).2.2.2⟩
 have HX := dH X1
 clear PD p1 X1
 go_wp2
 clear d4 d1 k6 k7
 go_loopw [4] (fun y wr => ∃ k : Nat, y = .int .i64 (k : Int) ∧ k ≤ rs.length ∧ Hid (∀ i (h : i < rs.length), i < k → wrP ds cop rs[i].m ∧ rs[i].m.epoch ≤ (eras.length : Int) ∧ (0 < i → (rs[i - 1]'(by omega)).m.epoch < rs[i].m.epoch)) ∧ Below w1.heap.size w1 wr) (fun y _ => rs.length - (intOf y).toNat)
 case atStart => exact ⟨0, rfl, Nat.zero_le _, fun i h h' => by omega, Below.refl _ _⟩
 case round =>
  obtain ⟨k, rfl, hk, hc, hb⟩ := hrel
  have hB := bT B1 hb
  have X2 := (dU HX).below hb
  have k0 := X2 0 _ rfl
  have k1 := X2 1 _ rfl
  have k6 := X2 6 _ rfl
  have k7 := X2 7 _ rfl
  by_cases hlt : (k : Int) < (rs.length : Int)
  ·have hkl : k < rs.length := by omega
   obtain ⟨b, off, rfl, he⟩ := (dU HV _ hB).pd hkl
   have hck := he k hkl
   have hjk : Hid (∀ j, j + 1 = k → ∀ hj : j < rs.length, wr.cell? ⟨b, off + j * 2, none⟩ = some (.int .i64 rs[j].m.epoch)) := fun j _ hj => by
    obtain ⟨ja, jc, hF, -⟩ := formWriter (dU HN _ hB j hj)
    exact he j hj 0 _ (by rw [Pd.eq hF]; rfl)
   have CE := dH fun W (hb : Below wr.heap.size wr W) => dU CW W (bT hB hb) k hkl
   have hF := formWriter (dU HN _ hB k hkl)
   have HI : Hid (wrP ds cop rs[k].m ∧ rs[k].m.epoch ≤ (eras.length : Int) ∧ (0 < k → (rs[k - 1]'(by omega)).m.epoch < rs[k].m.epoch) → ∀ i (h : i < rs.length), i < k + 1 → wrP ds cop rs[i].m ∧ rs[i].m.epoch ≤ (eras.length : Int) ∧ (0 < i → (rs[i - 1]'(by omega)).m.epoch < rs[i].m.epoch)) := fun hq i h hi => by
    by_cases e : i = k
    ·subst e; exact hq
    ·exact dU hc i h (by omega)
   have NO : Hid (¬ (wrP ds cop rs[k].m ∧ rs[k].m.epoch ≤ (eras.length : Int) ∧ (0 < k → (rs[k - 1]'(by omega)).m.epoch < rs[k].m.epoch)) → ¬ P) := fun hq h => hq (((dU PD').2 h).1 k hkl)
   clear he hc
   have HJ : Hid (∀ j, j + 1 = k → ∃ pe : Int, wr.cell? ⟨b, off + j * 2, none⟩ = some (.int .i64 pe) ∧ (0 < k → (rs[k - 1]'(by omega)).m.epoch = pe)) := fun j hj => ⟨_, dU hjk j hj (by omega), fun _ => by subst hj; rfl⟩
   clear hjk
   generalize hy : rs[k] = y at *
   obtain ⟨yc, yl, m⟩ := y
   obtain ⟨xa, xc, hF, -⟩ := hF
   have hF := Pd.eq hF
   simp only at hF
   subst hF
   unfold Pd.val at CE
   simp only at *
   have c0 := hck 0 _ rfl
   have c1 := hck 1 _ rfl
   simp only [Nat.add_zero] at c0 c1
   clear hck hy
   generalize hme : m.epoch = me at *
   generalize m.words.length = mn at *
   have bd : Below wr.heap.size wr wr.drew := (Below.refl _ _).drew
   have PC : Hid (∀ W, Below wr.heap.size wr W → W.cell? ⟨w.heap.size, 0, none⟩ = some (.slice da ds.length dc) ∧ W.cell? ⟨w.heap.size, 1, none⟩ = some (.int .i64 cop) ∧ W.cell? ⟨w.heap.size, 6, none⟩ = some (.slice (some ⟨b, off, none⟩) rs.length wc) ∧ W.cell? ⟨b, off + k * 2, none⟩ = some (.int .i64 me) ∧ W.cell? ⟨b, off + k * 2 + 1, none⟩ = some (.slice xa mn xc)) := fun W hb => by
    have cb : ∀ {bb oo : Nat} {vv : Value}, wr.cell? ⟨bb, oo, none⟩ = some vv → W.cell? ⟨bb, oo, none⟩ = some vv := fun {bb oo vv} h => (hb.cell (p := ⟨bb, oo, none⟩) (dCell_lt h)).trans h
    exact ⟨cb k0, cb k1, cb k6, cb c0, cb c1⟩
   by_cases hw : wrP ds cop m
   case neg =>
    have CN1 := dH fun W hB => retB_no (dU CE W hB) hw
    have R := RetB.no (dU NO fun h => hw h.1)
    clear CE NO HI HJ hw PD' HV HN GV GN CW CM CF HX X2 k7 hme
    go_wp2_with fail
    refine wp_region_noPanic ?_
    refine wp_region_held_drew (S := fun W => W.cell? ⟨w.heap.size, 0, none⟩ = some (.slice da ds.length dc) ∧ W.cell? ⟨w.heap.size, 1, none⟩ = some (.int .i64 cop) ∧ W.cell? ⟨w.heap.size, 6, none⟩ = some (.slice (some ⟨b, off, none⟩) rs.length wc) ∧ W.cell? ⟨b, off + k * 2, none⟩ = some (.int .i64 me) ∧ W.cell? ⟨b, off + k * 2 + 1, none⟩ = some (.slice xa mn xc)) (by kernel_rfl) (by first | exact dU PC _ (Below.refl _ _) | exact dU PC _ bd | exact dU PC _ b3') (fun hHeld => ?_)
    refine tY 0 (v := ?_) rfl (by kernel_rfl) (.inl ⟨by rfl, ?_⟩) ‹_› ?_
    rotate_left 1
    ·intro w hSw
     (try dsimp only at hSw)
     first | (go_simp; done) | (go_simp; with_reducible rfl)
    try simp only [Act.put, sA, sB, sC]
    refine tY 1 (v := ?_) rfl (by kernel_rfl) (.inl ⟨by rfl, ?_⟩) ‹_› ?_
    rotate_left 1
    ·intro w hSw
     (try dsimp only at hSw)
     first | (go_simp; done) | (go_simp; with_reducible rfl)
    try simp only [Act.put, sA, sB, sC]
    refine tY 2 (v := ?_) rfl (by kernel_rfl) (.inl ⟨by rfl, ?_⟩) ‹_› ?_
    rotate_left 1
    ·intro w hSw
     (try dsimp only at hSw)
     first | (go_simp; done) | (go_simp; with_reducible rfl)
    try simp only [Act.put, sA, sB, sC]
    refine tY 3 (v := ?_) rfl (by kernel_rfl) (.inl ⟨by rfl, ?_⟩) ‹_› ?_
    rotate_left 1
    ·intro w hSw
     (try dsimp only at hSw)
     first | (go_simp; done) | (go_simp; with_reducible rfl)
    try simp only [Act.put, sA, sB, sC]
    refine tY 4 (v := ?_) rfl (by kernel_rfl) (.inl ⟨by rfl, ?_⟩) ‹_› ?_
    rotate_left 1
    ·intro w hSw
     (try dsimp only at hSw)
     first | (go_simp; done) | (go_simp; with_reducible rfl)
    try simp only [Act.put, sA, sB, sC]
    refine tY 5 (v := ?_) rfl (by kernel_rfl) (.inl ⟨by rfl, ?_⟩) ‹_› ?_
    rotate_left 1
    ·intro w hSw
     (try dsimp only at hSw)
     first | (go_simp; done) | (go_simp; with_reducible rfl)
    try simp only [Act.put, sA, sB, sC]
    refine tY 6 (v := ?_) rfl (by kernel_rfl) (.inl ⟨by rfl, ?_⟩) ‹_› ?_
    rotate_left 1
    ·intro w hSw
     (try dsimp only at hSw)
     first | (go_simp; done) | (go_simp; with_reducible rfl)
    try simp only [Act.put, sA, sB, sC]
    refine wpAnyH_ready (rs := [7]) (by kernel_rfl) (by simp) ?_
    refine rC rfl (fun K hK => ?_) AllReadyH.nil
    go_simp
    refine (dU CN1 _ bd).mono ?_
    rintro e w3 ⟨rfl, b3⟩
    have b3' := bT bd b3
    (try go_wp2_with fail)
    refine hK.out _ _ (by first | exact dU PC _ (Below.refl _ _) | exact dU PC _ bd | exact dU PC _ b3') (fun hHeld => ?_)
    clear hK K
    try simp only [Act.put, sA, sB, sC]
    refine tY 8 (v := ?_) rfl (by kernel_rfl) (.inl ⟨by rfl, ?_⟩) ‹_› ?_
    rotate_left 1
    ·intro w hSw
     (try dsimp only at hSw)
     first | (go_simp; done) | (go_simp; with_reducible rfl)
    try simp only [Act.put, sA, sB, sC]
    refine tY 9 (v := ?_) rfl (by kernel_rfl) (.inl ⟨by rfl, ?_⟩) ‹_› ?_
    rotate_left 1
    ·intro w hSw
     (try dsimp only at hSw)
     first | (go_simp; done) | (go_simp; with_reducible rfl)
    try simp only [Act.put, sA, sB, sC]
    refine tY 10 rfl (by kernel_rfl) (.inr ⟨by rfl, rfl⟩) ‹_› ?_
    try simp only [Act.put, sA, sB, sC]
    refine tY 11 rfl (by kernel_rfl) (.inr ⟨by rfl, rfl⟩) ‹_› ?_
    try simp only [Act.put, sA, sB, sC]
    refine tY 12 rfl (by kernel_rfl) (.inr ⟨by rfl, rfl⟩) ‹_› ?_
    try simp only [Act.put, sA, sB, sC]
    refine tY 13 rfl (by kernel_rfl) (.inr ⟨by rfl, rfl⟩) ‹_› ?_
    try simp only [Act.put, sA, sB, sC]
    refine tY 14 rfl (by kernel_rfl) (.inr ⟨by rfl, rfl⟩) ‹_› ?_
    try simp only [Act.put, sA, sB, sC]
    refine tY 15 rfl (by kernel_rfl) (.inr ⟨by rfl, rfl⟩) ‹_› ?_
    try simp only [Act.put, sA, sB, sC]
    refine tY 16 rfl (by kernel_rfl) (.inr ⟨by rfl, rfl⟩) ‹_› ?_
    try simp only [Act.put, sA, sB, sC]
    refine tY 17 rfl (by kernel_rfl) (.inr ⟨by rfl, rfl⟩) ‹_› ?_
    try simp only [Act.put, sA, sB, sC]
    refine tY 18 (v := ?_) rfl (by kernel_rfl) (.inl ⟨by rfl, ?_⟩) ‹_› ?_
    rotate_left 1
    ·intro w hSw
     (try dsimp only at hSw)
     first | (go_simp; done) | (go_simp; with_reducible rfl)
    try simp only [Act.put, sA, sB, sC]
    refine tY 19 (v := ?_) rfl (by kernel_rfl) (.inl ⟨by rfl, ?_⟩) ‹_› ?_
    rotate_left 1
    ·intro w hSw
     (try dsimp only at hSw)
     first | (go_simp; done) | (go_simp; with_reducible rfl)
    try simp only [Act.put, sA, sB, sC]
    refine tY 20 rfl (by kernel_rfl) (.inr ⟨by rfl, rfl⟩) ‹_› ?_
    try simp only [Act.put, sA, sB, sC]
    refine tY 21 rfl (by kernel_rfl) (.inr ⟨by rfl, rfl⟩) ‹_› ?_
    try simp only [Act.put, sA, sB, sC]
    refine tY 22 rfl (by kernel_rfl) (.inr ⟨by rfl, rfl⟩) ‹_› ?_
    try simp only [Act.put, sA, sB, sC]
    refine tY 23 rfl (by kernel_rfl) (.inr ⟨by rfl, rfl⟩) ‹_› ?_
    try simp only [Act.put, sA, sB, sC]
    refine tY 24 rfl (by kernel_rfl) (.inr ⟨by rfl, rfl⟩) ‹_› ?_
    try simp only [Act.put, sA, sB, sC]
    refine tY 25 rfl (by kernel_rfl) (.inr ⟨by rfl, rfl⟩) ‹_› ?_
    try simp only [Act.put, sA, sB, sC]
    refine tY 26 rfl (by kernel_rfl) (.inr ⟨by rfl, rfl⟩) ‹_› ?_
    try simp only [Act.put, sA, sB, sC]
    refine tY 27 rfl (by kernel_rfl) (.inr ⟨by rfl, rfl⟩) ‹_› ?_
    try simp only [Act.put, sA, sB, sC]
    refine tY 28 rfl (by kernel_rfl) (.inr ⟨by rfl, rfl⟩) ‹_› ?_
    try simp only [Act.put, sA, sB, sC]
    refine tY 29 rfl (by kernel_rfl) (.inr ⟨by rfl, rfl⟩) ‹_› ?_
    try simp only [Act.put, sA, sB, sC]
    refine tY 30 rfl (by kernel_rfl) (.inr ⟨by rfl, rfl⟩) ‹_› ?_
    try simp only [Act.put, sA, sB, sC]
    refine tY 31 rfl (by kernel_rfl) (.inr ⟨by rfl, rfl⟩) ‹_› ?_
    try simp only [Act.put, sA, sB, sC]
    refine tY 32 rfl (by kernel_rfl) (.inr ⟨by rfl, rfl⟩) ‹_› ?_
    try simp only [Act.put, sA, sB, sC]
    refine tY 33 rfl (by kernel_rfl) (.inr ⟨by rfl, rfl⟩) ‹_› ?_
    try simp only [Act.put, sA, sB, sC]
    refine tY 34 rfl (by kernel_rfl) (.inr ⟨by rfl, rfl⟩) ‹_› ?_
    try simp only [Act.put, sA, sB, sC]
    refine tY 35 rfl (by kernel_rfl) (.inr ⟨by rfl, rfl⟩) ‹_› ?_
    try simp only [Act.put, sA, sB, sC]
    refine tY 36 rfl (by kernel_rfl) (.inr ⟨by rfl, rfl⟩) ‹_› ?_
    try simp only [Act.put, sA, sB, sC]
    refine tY 37 rfl (by kernel_rfl) (.inr ⟨by rfl, rfl⟩) ‹_› ?_
    try simp only [Act.put, sA, sB, sC]
    refine tY 38 (v := ?_) rfl (by kernel_rfl) (.inl ⟨by rfl, ?_⟩) ‹_› ?_
    rotate_left 1
    ·intro w hSw
     (try dsimp only at hSw)
     first | (go_simp; done) | (go_simp; with_reducible rfl)
    try simp only [Act.put, sA, sB, sC]
    refine wpAnyH_done (by kernel_rfl) ?_ _
    refine NoPanic.normal ?_
    (try simp only [Act.put, sA, sB, sC])
    have BB := bT hB b3'
    clear PC CN1 bd
    go_wp2
    go_ret
    exact ⟨R, BB⟩
   have CN1 := dH fun W hB => retB_yes (dU CE W hB) hw
   clear CE
   by_cases dn : (eras.length : Int) < me
   ·have R := RetB.no (dU NO fun h => by have := h.2.1; omega)
    clear NO HI HJ hw PD' HV HN GV GN CW CM CF HX X2 k7 hme
    go_wp2_with fail
    refine wp_region_noPanic ?_
    refine wp_region_held_drew (S := fun W => W.cell? ⟨w.heap.size, 0, none⟩ = some (.slice da ds.length dc) ∧ W.cell? ⟨w.heap.size, 1, none⟩ = some (.int .i64 cop) ∧ W.cell? ⟨w.heap.size, 6, none⟩ = some (.slice (some ⟨b, off, none⟩) rs.length wc) ∧ W.cell? ⟨b, off + k * 2, none⟩ = some (.int .i64 me) ∧ W.cell? ⟨b, off + k * 2 + 1, none⟩ = some (.slice xa mn xc)) (by kernel_rfl) (by first | exact dU PC _ (Below.refl _ _) | exact dU PC _ bd | exact dU PC _ b3') (fun hHeld => ?_)
    refine tY 0 (v := ?_) rfl (by kernel_rfl) (.inl ⟨by rfl, ?_⟩) ‹_› ?_
    rotate_left 1
    ·intro w hSw
     (try dsimp only at hSw)
     first | (go_simp; done) | (go_simp; with_reducible rfl)
    try simp only [Act.put, sA, sB, sC]
    refine tY 1 (v := ?_) rfl (by kernel_rfl) (.inl ⟨by rfl, ?_⟩) ‹_› ?_
    rotate_left 1
    ·intro w hSw
     (try dsimp only at hSw)
     first | (go_simp; done) | (go_simp; with_reducible rfl)
    try simp only [Act.put, sA, sB, sC]
    refine tY 2 (v := ?_) rfl (by kernel_rfl) (.inl ⟨by rfl, ?_⟩) ‹_› ?_
    rotate_left 1
    ·intro w hSw
     (try dsimp only at hSw)
     first | (go_simp; done) | (go_simp; with_reducible rfl)
    try simp only [Act.put, sA, sB, sC]
    refine tY 3 (v := ?_) rfl (by kernel_rfl) (.inl ⟨by rfl, ?_⟩) ‹_› ?_
    rotate_left 1
    ·intro w hSw
     (try dsimp only at hSw)
     first | (go_simp; done) | (go_simp; with_reducible rfl)
    try simp only [Act.put, sA, sB, sC]
    refine tY 4 (v := ?_) rfl (by kernel_rfl) (.inl ⟨by rfl, ?_⟩) ‹_› ?_
    rotate_left 1
    ·intro w hSw
     (try dsimp only at hSw)
     first | (go_simp; done) | (go_simp; with_reducible rfl)
    try simp only [Act.put, sA, sB, sC]
    refine tY 5 (v := ?_) rfl (by kernel_rfl) (.inl ⟨by rfl, ?_⟩) ‹_› ?_
    rotate_left 1
    ·intro w hSw
     (try dsimp only at hSw)
     first | (go_simp; done) | (go_simp; with_reducible rfl)
    try simp only [Act.put, sA, sB, sC]
    refine tY 6 (v := ?_) rfl (by kernel_rfl) (.inl ⟨by rfl, ?_⟩) ‹_› ?_
    rotate_left 1
    ·intro w hSw
     (try dsimp only at hSw)
     first | (go_simp; done) | (go_simp; with_reducible rfl)
    try simp only [Act.put, sA, sB, sC]
    refine wpAnyH_ready (rs := [7]) (by kernel_rfl) (by simp) ?_
    refine rC rfl (fun K hK => ?_) AllReadyH.nil
    go_simp
    refine (dU CN1 _ bd).mono ?_
    rintro e w3 ⟨rfl, b3⟩
    have b3' := bT bd b3
    (try go_wp2_with fail)
    refine hK.out _ _ (by first | exact dU PC _ (Below.refl _ _) | exact dU PC _ bd | exact dU PC _ b3') (fun hHeld => ?_)
    clear hK K
    try simp only [Act.put, sA, sB, sC]
    refine tY 8 (v := ?_) rfl (by kernel_rfl) (.inl ⟨by rfl, ?_⟩) ‹_› ?_
    rotate_left 1
    ·intro w hSw
     (try dsimp only at hSw)
     first | (go_simp; done) | (go_simp; with_reducible rfl)
    try simp only [Act.put, sA, sB, sC]
    refine tY 9 (v := ?_) rfl (by kernel_rfl) (.inl ⟨by rfl, ?_⟩) ‹_› ?_
    rotate_left 1
    ·intro w hSw
     (try dsimp only at hSw)
     first | (go_simp; done) | (go_simp; with_reducible rfl)
    try simp only [Act.put, sA, sB, sC]
    refine tY 10 (v := ?_) rfl (by kernel_rfl) (.inl ⟨by rfl, ?_⟩) ‹_› ?_
    rotate_left 1
    ·intro w hSw
     (try dsimp only at hSw)
     first | (go_simp; done) | (go_simp; with_reducible rfl)
    try simp only [Act.put, sA, sB, sC]
    refine tY 11 (v := ?_) rfl (by kernel_rfl) (.inl ⟨by rfl, ?_⟩) ‹_› ?_
    rotate_left 1
    ·intro w hSw
     (try dsimp only at hSw)
     first | (go_simp; done) | (go_simp; with_reducible rfl)
    try simp only [Act.put, sA, sB, sC]
    refine tY 12 (v := ?_) rfl (by kernel_rfl) (.inl ⟨by rfl, ?_⟩) ‹_› ?_
    rotate_left 1
    ·intro w hSw
     (try dsimp only at hSw)
     first | (go_simp; done) | (go_simp; with_reducible rfl)
    try simp only [Act.put, sA, sB, sC]
    refine tY 13 (v := ?_) rfl (by kernel_rfl) (.inl ⟨by rfl, ?_⟩) ‹_› ?_
    rotate_left 1
    ·intro w hSw
     (try dsimp only at hSw)
     first | (go_simp; done) | (go_simp; with_reducible rfl)
    try simp only [Act.put, sA, sB, sC]
    refine tY 14 (v := ?_) rfl (by kernel_rfl) (.inl ⟨by rfl, ?_⟩) ‹_› ?_
    rotate_left 1
    ·intro w hSw
     (try dsimp only at hSw)
     first | (go_simp; done) | (go_simp; with_reducible rfl)
    try simp only [Act.put, sA, sB, sC]
    refine tY 15 (v := ?_) rfl (by kernel_rfl) (.inl ⟨by rfl, ?_⟩) ‹_› ?_
    rotate_left 1
    ·intro w hSw
     (try dsimp only at hSw)
     first | (go_simp; done) | (go_simp; with_reducible rfl)
    try simp only [Act.put, sA, sB, sC]
    refine tY 16 (v := ?_) rfl (by kernel_rfl) (.inl ⟨by rfl, ?_⟩) ‹_› ?_
    rotate_left 1
    ·intro w hSw
     (try dsimp only at hSw)
     first | (go_simp; done) | (go_simp; with_reducible rfl)
    try simp only [Act.put, sA, sB, sC]
    refine tY 17 (v := ?_) rfl (by kernel_rfl) (.inl ⟨by rfl, ?_⟩) ‹_› ?_
    rotate_left 1
    ·intro w hSw
     (try dsimp only at hSw)
     first | (go_simp; done) | (go_simp; with_reducible rfl)
    try simp only [Act.put, sA, sB, sC]
    refine tY 18 (v := ?_) rfl (by kernel_rfl) (.inl ⟨by rfl, ?_⟩) ‹_› ?_
    rotate_left 1
    ·intro w hSw
     (try dsimp only at hSw)
     first | (go_simp; done) | (go_simp; with_reducible rfl)
    try simp only [Act.put, sA, sB, sC]
    refine tY 19 (v := ?_) rfl (by kernel_rfl) (.inl ⟨by rfl, ?_⟩) ‹_› ?_
    rotate_left 1
    ·intro w hSw
     (try dsimp only at hSw)
     first | (go_simp; done) | (go_simp; with_reducible rfl)
    try simp only [Act.put, sA, sB, sC]
    refine tY 20 rfl (by kernel_rfl) (.inr ⟨by rfl, rfl⟩) ‹_› ?_
    try simp only [Act.put, sA, sB, sC]
    refine tY 21 rfl (by kernel_rfl) (.inr ⟨by rfl, rfl⟩) ‹_› ?_
    try simp only [Act.put, sA, sB, sC]
    refine tY 22 rfl (by kernel_rfl) (.inr ⟨by rfl, rfl⟩) ‹_› ?_
    try simp only [Act.put, sA, sB, sC]
    refine tY 23 rfl (by kernel_rfl) (.inr ⟨by rfl, rfl⟩) ‹_› ?_
    try simp only [Act.put, sA, sB, sC]
    refine tY 24 rfl (by kernel_rfl) (.inr ⟨by rfl, rfl⟩) ‹_› ?_
    try simp only [Act.put, sA, sB, sC]
    refine tY 25 rfl (by kernel_rfl) (.inr ⟨by rfl, rfl⟩) ‹_› ?_
    try simp only [Act.put, sA, sB, sC]
    refine tY 26 rfl (by kernel_rfl) (.inr ⟨by rfl, rfl⟩) ‹_› ?_
    try simp only [Act.put, sA, sB, sC]
    refine tY 27 rfl (by kernel_rfl) (.inr ⟨by rfl, rfl⟩) ‹_› ?_
    try simp only [Act.put, sA, sB, sC]
    refine tY 28 rfl (by kernel_rfl) (.inr ⟨by rfl, rfl⟩) ‹_› ?_
    try simp only [Act.put, sA, sB, sC]
    refine tY 29 rfl (by kernel_rfl) (.inr ⟨by rfl, rfl⟩) ‹_› ?_
    try simp only [Act.put, sA, sB, sC]
    refine tY 30 rfl (by kernel_rfl) (.inr ⟨by rfl, rfl⟩) ‹_› ?_
    try simp only [Act.put, sA, sB, sC]
    refine tY 31 rfl (by kernel_rfl) (.inr ⟨by rfl, rfl⟩) ‹_› ?_
    try simp only [Act.put, sA, sB, sC]
    refine tY 32 rfl (by kernel_rfl) (.inr ⟨by rfl, rfl⟩) ‹_› ?_
    try simp only [Act.put, sA, sB, sC]
    refine tY 33 rfl (by kernel_rfl) (.inr ⟨by rfl, rfl⟩) ‹_› ?_
    try simp only [Act.put, sA, sB, sC]
    refine tY 34 rfl (by kernel_rfl) (.inr ⟨by rfl, rfl⟩) ‹_› ?_
    try simp only [Act.put, sA, sB, sC]
    refine tY 35 rfl (by kernel_rfl) (.inr ⟨by rfl, rfl⟩) ‹_› ?_
    try simp only [Act.put, sA, sB, sC]
    refine tY 36 rfl (by kernel_rfl) (.inr ⟨by rfl, rfl⟩) ‹_› ?_
    try simp only [Act.put, sA, sB, sC]
    refine tY 37 rfl (by kernel_rfl) (.inr ⟨by rfl, rfl⟩) ‹_› ?_
    try simp only [Act.put, sA, sB, sC]
    refine tY 38 (v := ?_) rfl (by kernel_rfl) (.inl ⟨by rfl, ?_⟩) ‹_› ?_
    rotate_left 1
    ·intro w hSw
     (try dsimp only at hSw)
     first | (go_simp; done) | (go_simp; with_reducible rfl)
    try simp only [Act.put, sA, sB, sC]
    refine wpAnyH_done (by kernel_rfl) ?_ _
    refine NoPanic.normal ?_
    (try simp only [Act.put, sA, sB, sC])
    have BB := bT hB b3'
    clear PC CN1 bd
    go_wp2
    go_ret
    exact ⟨R, BB⟩
   have cn : decide ((eras.length : Int) < me) = false := decide_eq_false dn
   by_cases k00 : k = 0
   ·have H2 := dH (dU HI ⟨hw, by omega, fun h => by omega⟩)
    have cz : decide ((0 : Int) < (k : Int)) = false := decide_eq_false (by omega)
    have cz2 : ¬ 0 < k := by omega
    clear NO HI HJ hw X2 k7 hme k00
    go_wp2_with fail
    refine wp_region_noPanic ?_
    refine wp_region_held_drew (S := fun W => W.cell? ⟨w.heap.size, 0, none⟩ = some (.slice da ds.length dc) ∧ W.cell? ⟨w.heap.size, 1, none⟩ = some (.int .i64 cop) ∧ W.cell? ⟨w.heap.size, 6, none⟩ = some (.slice (some ⟨b, off, none⟩) rs.length wc) ∧ W.cell? ⟨b, off + k * 2, none⟩ = some (.int .i64 me) ∧ W.cell? ⟨b, off + k * 2 + 1, none⟩ = some (.slice xa mn xc)) (by kernel_rfl) (by first | exact dU PC _ (Below.refl _ _) | exact dU PC _ bd | exact dU PC _ b3') (fun hHeld => ?_)
    refine tY 0 (v := ?_) rfl (by kernel_rfl) (.inl ⟨by rfl, ?_⟩) ‹_› ?_
    rotate_left 1
    ·intro w hSw
     (try dsimp only at hSw)
     first | (go_simp; done) | (go_simp; with_reducible rfl)
    try simp only [Act.put, sA, sB, sC]
    refine tY 1 (v := ?_) rfl (by kernel_rfl) (.inl ⟨by rfl, ?_⟩) ‹_› ?_
    rotate_left 1
    ·intro w hSw
     (try dsimp only at hSw)
     first | (go_simp; done) | (go_simp; with_reducible rfl)
    try simp only [Act.put, sA, sB, sC]
    refine tY 2 (v := ?_) rfl (by kernel_rfl) (.inl ⟨by rfl, ?_⟩) ‹_› ?_
    rotate_left 1
    ·intro w hSw
     (try dsimp only at hSw)
     first | (go_simp; done) | (go_simp; with_reducible rfl)
    try simp only [Act.put, sA, sB, sC]
    refine tY 3 (v := ?_) rfl (by kernel_rfl) (.inl ⟨by rfl, ?_⟩) ‹_› ?_
    rotate_left 1
    ·intro w hSw
     (try dsimp only at hSw)
     first | (go_simp; done) | (go_simp; with_reducible rfl)
    try simp only [Act.put, sA, sB, sC]
    refine tY 4 (v := ?_) rfl (by kernel_rfl) (.inl ⟨by rfl, ?_⟩) ‹_› ?_
    rotate_left 1
    ·intro w hSw
     (try dsimp only at hSw)
     first | (go_simp; done) | (go_simp; with_reducible rfl)
    try simp only [Act.put, sA, sB, sC]
    refine tY 5 (v := ?_) rfl (by kernel_rfl) (.inl ⟨by rfl, ?_⟩) ‹_› ?_
    rotate_left 1
    ·intro w hSw
     (try dsimp only at hSw)
     first | (go_simp; done) | (go_simp; with_reducible rfl)
    try simp only [Act.put, sA, sB, sC]
    refine tY 6 (v := ?_) rfl (by kernel_rfl) (.inl ⟨by rfl, ?_⟩) ‹_› ?_
    rotate_left 1
    ·intro w hSw
     (try dsimp only at hSw)
     first | (go_simp; done) | (go_simp; with_reducible rfl)
    try simp only [Act.put, sA, sB, sC]
    refine wpAnyH_ready (rs := [7]) (by kernel_rfl) (by simp) ?_
    refine rC rfl (fun K hK => ?_) AllReadyH.nil
    go_simp
    refine (dU CN1 _ bd).mono ?_
    rintro e w3 ⟨rfl, b3⟩
    have b3' := bT bd b3
    (try go_wp2_with fail)
    refine hK.out _ _ (by first | exact dU PC _ (Below.refl _ _) | exact dU PC _ bd | exact dU PC _ b3') (fun hHeld => ?_)
    clear hK K
    try simp only [Act.put, sA, sB, sC]
    refine tY 8 (v := ?_) rfl (by kernel_rfl) (.inl ⟨by rfl, ?_⟩) ‹_› ?_
    rotate_left 1
    ·intro w hSw
     (try dsimp only at hSw)
     first | (go_simp; done) | (go_simp; with_reducible rfl)
    try simp only [Act.put, sA, sB, sC]
    refine tY 9 (v := ?_) rfl (by kernel_rfl) (.inl ⟨by rfl, ?_⟩) ‹_› ?_
    rotate_left 1
    ·intro w hSw
     (try dsimp only at hSw)
     first | (go_simp; done) | (go_simp; with_reducible rfl)
    try simp only [Act.put, sA, sB, sC]
    refine tY 10 (v := ?_) rfl (by kernel_rfl) (.inl ⟨by rfl, ?_⟩) ‹_› ?_
    rotate_left 1
    ·intro w hSw
     (try dsimp only at hSw)
     first | (go_simp; done) | (go_simp; with_reducible rfl)
    try simp only [Act.put, sA, sB, sC]
    refine tY 11 (v := ?_) rfl (by kernel_rfl) (.inl ⟨by rfl, ?_⟩) ‹_› ?_
    rotate_left 1
    ·intro w hSw
     (try dsimp only at hSw)
     first | (go_simp; done) | (go_simp; with_reducible rfl)
    try simp only [Act.put, sA, sB, sC]
    refine tY 12 (v := ?_) rfl (by kernel_rfl) (.inl ⟨by rfl, ?_⟩) ‹_› ?_
    rotate_left 1
    ·intro w hSw
     (try dsimp only at hSw)
     first | (go_simp; done) | (go_simp; with_reducible rfl)
    try simp only [Act.put, sA, sB, sC]
    refine tY 13 (v := ?_) rfl (by kernel_rfl) (.inl ⟨by rfl, ?_⟩) ‹_› ?_
    rotate_left 1
    ·intro w hSw
     (try dsimp only at hSw)
     first | (go_simp; done) | (go_simp; with_reducible rfl)
    try simp only [Act.put, sA, sB, sC]
    refine tY 14 (v := ?_) rfl (by kernel_rfl) (.inl ⟨by rfl, ?_⟩) ‹_› ?_
    rotate_left 1
    ·intro w hSw
     (try dsimp only at hSw)
     first | (go_simp; done) | (go_simp; with_reducible rfl)
    try simp only [Act.put, sA, sB, sC]
    refine tY 15 (v := ?_) rfl (by kernel_rfl) (.inl ⟨by rfl, ?_⟩) ‹_› ?_
    rotate_left 1
    ·intro w hSw
     (try dsimp only at hSw)
     first | (go_simp; done) | (go_simp; with_reducible rfl)
    try simp only [Act.put, sA, sB, sC]
    refine tY 16 (v := ?_) rfl (by kernel_rfl) (.inl ⟨by rfl, ?_⟩) ‹_› ?_
    rotate_left 1
    ·intro w hSw
     (try dsimp only at hSw)
     first | (go_simp; done) | (go_simp; with_reducible rfl)
    try simp only [Act.put, sA, sB, sC]
    refine tY 17 (v := ?_) rfl (by kernel_rfl) (.inl ⟨by rfl, ?_⟩) ‹_› ?_
    rotate_left 1
    ·intro w hSw
     (try dsimp only at hSw)
     first | (go_simp; done) | (go_simp; with_reducible rfl)
    try simp only [Act.put, sA, sB, sC]
    refine tY 18 (v := ?_) rfl (by kernel_rfl) (.inl ⟨by rfl, ?_⟩) ‹_› ?_
    rotate_left 1
    ·intro w hSw
     (try dsimp only at hSw)
     first | (go_simp; done) | (go_simp; with_reducible rfl)
    try simp only [Act.put, sA, sB, sC]
    refine tY 19 (v := ?_) rfl (by kernel_rfl) (.inl ⟨by rfl, ?_⟩) ‹_› ?_
    rotate_left 1
    ·intro w hSw
     (try dsimp only at hSw)
     first | (go_simp; done) | (go_simp; with_reducible rfl)
    try simp only [Act.put, sA, sB, sC]
    refine tY 20 (v := ?_) rfl (by kernel_rfl) (.inl ⟨by rfl, ?_⟩) ‹_› ?_
    rotate_left 1
    ·intro w hSw
     (try dsimp only at hSw)
     first | (go_simp; done) | (go_simp; with_reducible rfl)
    try simp only [Act.put, sA, sB, sC]
    refine tY 21 (v := ?_) rfl (by kernel_rfl) (.inl ⟨by rfl, ?_⟩) ‹_› ?_
    rotate_left 1
    ·intro w hSw
     (try dsimp only at hSw)
     first | (go_simp; done) | (go_simp; with_reducible rfl)
    try simp only [Act.put, sA, sB, sC]
    refine tY 22 (v := ?_) rfl (by kernel_rfl) (.inl ⟨by rfl, ?_⟩) ‹_› ?_
    rotate_left 1
    ·intro w hSw
     (try dsimp only at hSw)
     first | (go_simp; done) | (go_simp; with_reducible rfl)
    try simp only [Act.put, sA, sB, sC]
    refine tY 23 rfl (by kernel_rfl) (.inr ⟨by rfl, rfl⟩) ‹_› ?_
    try simp only [Act.put, sA, sB, sC]
    refine tY 24 rfl (by kernel_rfl) (.inr ⟨by rfl, rfl⟩) ‹_› ?_
    try simp only [Act.put, sA, sB, sC]
    refine tY 25 rfl (by kernel_rfl) (.inr ⟨by rfl, rfl⟩) ‹_› ?_
    try simp only [Act.put, sA, sB, sC]
    refine tY 26 rfl (by kernel_rfl) (.inr ⟨by rfl, rfl⟩) ‹_› ?_
    try simp only [Act.put, sA, sB, sC]
    refine tY 27 rfl (by kernel_rfl) (.inr ⟨by rfl, rfl⟩) ‹_› ?_
    try simp only [Act.put, sA, sB, sC]
    refine tY 28 rfl (by kernel_rfl) (.inr ⟨by rfl, rfl⟩) ‹_› ?_
    try simp only [Act.put, sA, sB, sC]
    refine tY 29 rfl (by kernel_rfl) (.inr ⟨by rfl, rfl⟩) ‹_› ?_
    try simp only [Act.put, sA, sB, sC]
    refine tY 30 rfl (by kernel_rfl) (.inr ⟨by rfl, rfl⟩) ‹_› ?_
    try simp only [Act.put, sA, sB, sC]
    refine tY 31 rfl (by kernel_rfl) (.inr ⟨by rfl, rfl⟩) ‹_› ?_
    try simp only [Act.put, sA, sB, sC]
    refine tY 32 rfl (by kernel_rfl) (.inr ⟨by rfl, rfl⟩) ‹_› ?_
    try simp only [Act.put, sA, sB, sC]
    refine tY 33 rfl (by kernel_rfl) (.inr ⟨by rfl, rfl⟩) ‹_› ?_
    try simp only [Act.put, sA, sB, sC]
    refine tY 34 rfl (by kernel_rfl) (.inr ⟨by rfl, rfl⟩) ‹_› ?_
    try simp only [Act.put, sA, sB, sC]
    refine tY 35 rfl (by kernel_rfl) (.inr ⟨by rfl, rfl⟩) ‹_› ?_
    try simp only [Act.put, sA, sB, sC]
    refine tY 36 rfl (by kernel_rfl) (.inr ⟨by rfl, rfl⟩) ‹_› ?_
    try simp only [Act.put, sA, sB, sC]
    refine tY 37 (v := ?_) rfl (by kernel_rfl) (.inl ⟨by rfl, ?_⟩) ‹_› ?_
    rotate_left 1
    ·intro w hSw
     (try dsimp only at hSw)
     first | (go_simp; done) | (go_simp; with_reducible rfl)
    try simp only [Act.put, sA, sB, sC]
    refine tY 38 (v := ?_) rfl (by kernel_rfl) (.inl ⟨by rfl, ?_⟩) ‹_› ?_
    rotate_left 1
    ·intro w hSw
     (try dsimp only at hSw)
     first | (go_simp; done) | (go_simp; with_reducible rfl)
    try simp only [Act.put, sA, sB, sC]
    refine wpAnyH_done (by kernel_rfl) ?_ _
    refine NoPanic.normal ?_
    (try simp only [Act.put, sA, sB, sC])
    have BB := bT hb b3'
    clear PC CN1 bd
    go_wp2
    go_roundw
    case rel => exact ⟨k + 1, by go_num, by omega, dU H2, BB⟩
    case measure => simp [intOf]; omega
   obtain ⟨j, hj⟩ : ∃ j, j + 1 = k := ⟨k - 1, by omega⟩
   obtain ⟨pe, cj, hpe⟩ := dU HJ j hj
   have HK := dH hj
   have t1 : (0 : Int) ≤ (j : Int) := by omega
   have t2 : (j : Int) < (rs.length : Int) := by omega
   have t3 : IntKind.i64.wrap ((k : Int) - 1) = (j : Int) := by rw [IntKind.wrap_i64]; omega
   have t4 : (0 : Int) < (k : Int) := by omega
   have t5 : 0 < k := by omega
   have t6 : decide ((0 : Int) < (k : Int)) = true := decide_eq_true t4
   have PC : Hid (∀ W, Below wr.heap.size wr W → W.cell? ⟨w.heap.size, 0, none⟩ = some (.slice da ds.length dc) ∧ W.cell? ⟨w.heap.size, 1, none⟩ = some (.int .i64 cop) ∧ W.cell? ⟨w.heap.size, 6, none⟩ = some (.slice (some ⟨b, off, none⟩) rs.length wc) ∧ W.cell? ⟨b, off + k * 2, none⟩ = some (.int .i64 me) ∧ W.cell? ⟨b, off + k * 2 + 1, none⟩ = some (.slice xa mn xc) ∧ W.cell? ⟨b, off + j * 2, none⟩ = some (.int .i64 pe)) := fun W hb => by
    have cb : ∀ {bb oo : Nat} {vv : Value}, wr.cell? ⟨bb, oo, none⟩ = some vv → W.cell? ⟨bb, oo, none⟩ = some vv := fun {bb oo vv} h => (hb.cell (p := ⟨bb, oo, none⟩) (dCell_lt h)).trans h
    exact ⟨cb k0, cb k1, cb k6, cb c0, cb c1, cb cj⟩
   by_cases dp : me ≤ pe
   ·have R := RetB.no (dU NO fun h => by have := h.2.2 (by omega); rw [hpe (by omega)] at this; omega)
    have cp : decide (me ≤ pe) = true := decide_eq_true dp
    clear NO HI HJ hw PD' HV HN GV GN CW CM CF HX X2 k7 hme hpe hj HK
    go_wp2_with fail
    refine wp_region_noPanic ?_
    refine wp_region_held_drew (S := fun W => W.cell? ⟨w.heap.size, 0, none⟩ = some (.slice da ds.length dc) ∧ W.cell? ⟨w.heap.size, 1, none⟩ = some (.int .i64 cop) ∧ W.cell? ⟨w.heap.size, 6, none⟩ = some (.slice (some ⟨b, off, none⟩) rs.length wc) ∧ W.cell? ⟨b, off + k * 2, none⟩ = some (.int .i64 me) ∧ W.cell? ⟨b, off + k * 2 + 1, none⟩ = some (.slice xa mn xc) ∧ W.cell? ⟨b, off + j * 2, none⟩ = some (.int .i64 pe)) (by kernel_rfl) (by first | exact dU PC _ (Below.refl _ _) | exact dU PC _ bd | exact dU PC _ b3') (fun hHeld => ?_)
    refine tY 0 (v := ?_) rfl (by kernel_rfl) (.inl ⟨by rfl, ?_⟩) ‹_› ?_
    rotate_left 1
    ·intro w hSw
     (try dsimp only at hSw)
     first | (go_simp; done) | (go_simp; with_reducible rfl)
    try simp only [Act.put, sA, sB, sC]
    refine tY 1 (v := ?_) rfl (by kernel_rfl) (.inl ⟨by rfl, ?_⟩) ‹_› ?_
    rotate_left 1
    ·intro w hSw
     (try dsimp only at hSw)
     first | (go_simp; done) | (go_simp; with_reducible rfl)
    try simp only [Act.put, sA, sB, sC]
    refine tY 2 (v := ?_) rfl (by kernel_rfl) (.inl ⟨by rfl, ?_⟩) ‹_› ?_
    rotate_left 1
    ·intro w hSw
     (try dsimp only at hSw)
     first | (go_simp; done) | (go_simp; with_reducible rfl)
    try simp only [Act.put, sA, sB, sC]
    refine tY 3 (v := ?_) rfl (by kernel_rfl) (.inl ⟨by rfl, ?_⟩) ‹_› ?_
    rotate_left 1
    ·intro w hSw
     (try dsimp only at hSw)
     first | (go_simp; done) | (go_simp; with_reducible rfl)
    try simp only [Act.put, sA, sB, sC]
    refine tY 4 (v := ?_) rfl (by kernel_rfl) (.inl ⟨by rfl, ?_⟩) ‹_› ?_
    rotate_left 1
    ·intro w hSw
     (try dsimp only at hSw)
     first | (go_simp; done) | (go_simp; with_reducible rfl)
    try simp only [Act.put, sA, sB, sC]
    refine tY 5 (v := ?_) rfl (by kernel_rfl) (.inl ⟨by rfl, ?_⟩) ‹_› ?_
    rotate_left 1
    ·intro w hSw
     (try dsimp only at hSw)
     first | (go_simp; done) | (go_simp; with_reducible rfl)
    try simp only [Act.put, sA, sB, sC]
    refine tY 6 (v := ?_) rfl (by kernel_rfl) (.inl ⟨by rfl, ?_⟩) ‹_› ?_
    rotate_left 1
    ·intro w hSw
     (try dsimp only at hSw)
     first | (go_simp; done) | (go_simp; with_reducible rfl)
    try simp only [Act.put, sA, sB, sC]
    refine wpAnyH_ready (rs := [7]) (by kernel_rfl) (by simp) ?_
    refine rC rfl (fun K hK => ?_) AllReadyH.nil
    go_simp
    refine (dU CN1 _ bd).mono ?_
    rintro e w3 ⟨rfl, b3⟩
    have b3' := bT bd b3
    (try go_wp2_with fail)
    refine hK.out _ _ (by first | exact dU PC _ (Below.refl _ _) | exact dU PC _ bd | exact dU PC _ b3') (fun hHeld => ?_)
    clear hK K
    try simp only [Act.put, sA, sB, sC]
    refine tY 8 (v := ?_) rfl (by kernel_rfl) (.inl ⟨by rfl, ?_⟩) ‹_› ?_
    rotate_left 1
    ·intro w hSw
     (try dsimp only at hSw)
     first | (go_simp; done) | (go_simp; with_reducible rfl)
    try simp only [Act.put, sA, sB, sC]
    refine tY 9 (v := ?_) rfl (by kernel_rfl) (.inl ⟨by rfl, ?_⟩) ‹_› ?_
    rotate_left 1
    ·intro w hSw
     (try dsimp only at hSw)
     first | (go_simp; done) | (go_simp; with_reducible rfl)
    try simp only [Act.put, sA, sB, sC]
    refine tY 10 (v := ?_) rfl (by kernel_rfl) (.inl ⟨by rfl, ?_⟩) ‹_› ?_
    rotate_left 1
    ·intro w hSw
     (try dsimp only at hSw)
     first | (go_simp; done) | (go_simp; with_reducible rfl)
    try simp only [Act.put, sA, sB, sC]
    refine tY 11 (v := ?_) rfl (by kernel_rfl) (.inl ⟨by rfl, ?_⟩) ‹_› ?_
    rotate_left 1
    ·intro w hSw
     (try dsimp only at hSw)
     first | (go_simp; done) | (go_simp; with_reducible rfl)
    try simp only [Act.put, sA, sB, sC]
    refine tY 12 (v := ?_) rfl (by kernel_rfl) (.inl ⟨by rfl, ?_⟩) ‹_› ?_
    rotate_left 1
    ·intro w hSw
     (try dsimp only at hSw)
     first | (go_simp; done) | (go_simp; with_reducible rfl)
    try simp only [Act.put, sA, sB, sC]
    refine tY 13 (v := ?_) rfl (by kernel_rfl) (.inl ⟨by rfl, ?_⟩) ‹_› ?_
    rotate_left 1
    ·intro w hSw
     (try dsimp only at hSw)
     first | (go_simp; done) | (go_simp; with_reducible rfl)
    try simp only [Act.put, sA, sB, sC]
    refine tY 14 (v := ?_) rfl (by kernel_rfl) (.inl ⟨by rfl, ?_⟩) ‹_› ?_
    rotate_left 1
    ·intro w hSw
     (try dsimp only at hSw)
     first | (go_simp; done) | (go_simp; with_reducible rfl)
    try simp only [Act.put, sA, sB, sC]
    refine tY 15 (v := ?_) rfl (by kernel_rfl) (.inl ⟨by rfl, ?_⟩) ‹_› ?_
    rotate_left 1
    ·intro w hSw
     (try dsimp only at hSw)
     first | (go_simp; done) | (go_simp; with_reducible rfl)
    try simp only [Act.put, sA, sB, sC]
    refine tY 16 (v := ?_) rfl (by kernel_rfl) (.inl ⟨by rfl, ?_⟩) ‹_› ?_
    rotate_left 1
    ·intro w hSw
     (try dsimp only at hSw)
     first | (go_simp; done) | (go_simp; with_reducible rfl)
    try simp only [Act.put, sA, sB, sC]
    refine tY 17 (v := ?_) rfl (by kernel_rfl) (.inl ⟨by rfl, ?_⟩) ‹_› ?_
    rotate_left 1
    ·intro w hSw
     (try dsimp only at hSw)
     first | (go_simp; done) | (go_simp; with_reducible rfl)
    try simp only [Act.put, sA, sB, sC]
    refine tY 18 (v := ?_) rfl (by kernel_rfl) (.inl ⟨by rfl, ?_⟩) ‹_› ?_
    rotate_left 1
    ·intro w hSw
     (try dsimp only at hSw)
     first | (go_simp; done) | (go_simp; with_reducible rfl)
    try simp only [Act.put, sA, sB, sC]
    refine tY 19 (v := ?_) rfl (by kernel_rfl) (.inl ⟨by rfl, ?_⟩) ‹_› ?_
    rotate_left 1
    ·intro w hSw
     (try dsimp only at hSw)
     first | (go_simp; done) | (go_simp; with_reducible rfl)
    try simp only [Act.put, sA, sB, sC]
    refine tY 20 (v := ?_) rfl (by kernel_rfl) (.inl ⟨by rfl, ?_⟩) ‹_› ?_
    rotate_left 1
    ·intro w hSw
     (try dsimp only at hSw)
     first | (go_simp; done) | (go_simp; with_reducible rfl)
    try simp only [Act.put, sA, sB, sC]
    refine tY 21 (v := ?_) rfl (by kernel_rfl) (.inl ⟨by rfl, ?_⟩) ‹_› ?_
    rotate_left 1
    ·intro w hSw
     (try dsimp only at hSw)
     first | (go_simp; done) | (go_simp; with_reducible rfl)
    try simp only [Act.put, sA, sB, sC]
    refine tY 22 (v := ?_) rfl (by kernel_rfl) (.inl ⟨by rfl, ?_⟩) ‹_› ?_
    rotate_left 1
    ·intro w hSw
     (try dsimp only at hSw)
     first | (go_simp; done) | (go_simp; with_reducible rfl)
    try simp only [Act.put, sA, sB, sC]
    refine tY 23 (v := ?_) rfl (by kernel_rfl) (.inl ⟨by rfl, ?_⟩) ‹_› ?_
    rotate_left 1
    ·intro w hSw
     (try dsimp only at hSw)
     first | (go_simp; done) | (go_simp; with_reducible rfl)
    try simp only [Act.put, sA, sB, sC]
    refine tY 24 (v := ?_) rfl (by kernel_rfl) (.inl ⟨by rfl, ?_⟩) ‹_› ?_
    rotate_left 1
    ·intro w hSw
     (try dsimp only at hSw)
     first | (go_simp; done) | (go_simp; with_reducible rfl)
    try simp only [Act.put, sA, sB, sC]
    refine tY 25 (v := ?_) rfl (by kernel_rfl) (.inl ⟨by rfl, ?_⟩) ‹_› ?_
    rotate_left 1
    ·intro w hSw
     (try dsimp only at hSw)
     first | (go_simp; done) | (go_simp; with_reducible rfl)
    try simp only [Act.put, sA, sB, sC]
    refine tY 26 (v := ?_) rfl (by kernel_rfl) (.inl ⟨by rfl, ?_⟩) ‹_› ?_
    rotate_left 1
    ·intro w hSw
     (try dsimp only at hSw)
     first | (go_simp; done) | (go_simp; with_reducible rfl)
    try simp only [Act.put, sA, sB, sC]
    refine tY 27 (v := ?_) rfl (by kernel_rfl) (.inl ⟨by rfl, ?_⟩) ‹_› ?_
    rotate_left 1
    ·intro w hSw
     (try dsimp only at hSw)
     first | (go_simp; done) | (go_simp; with_reducible rfl)
    try simp only [Act.put, sA, sB, sC]
    refine tY 28 (v := ?_) rfl (by kernel_rfl) (.inl ⟨by rfl, ?_⟩) ‹_› ?_
    rotate_left 1
    ·intro w hSw
     (try dsimp only at hSw)
     first | (go_simp; done) | (go_simp; with_reducible rfl)
    try simp only [Act.put, sA, sB, sC]
    refine tY 29 (v := ?_) rfl (by kernel_rfl) (.inl ⟨by rfl, ?_⟩) ‹_› ?_
    rotate_left 1
    ·intro w hSw
     (try dsimp only at hSw)
     first | (go_simp; done) | (go_simp; with_reducible rfl)
    try simp only [Act.put, sA, sB, sC]
    refine tY 30 (v := ?_) rfl (by kernel_rfl) (.inl ⟨by rfl, ?_⟩) ‹_› ?_
    rotate_left 1
    ·intro w hSw
     (try dsimp only at hSw)
     first | (go_simp; done) | (go_simp; with_reducible rfl)
    try simp only [Act.put, sA, sB, sC]
    refine tY 31 (v := ?_) rfl (by kernel_rfl) (.inl ⟨by rfl, ?_⟩) ‹_› ?_
    rotate_left 1
    ·intro w hSw
     (try dsimp only at hSw)
     first | (go_simp; done) | (go_simp; with_reducible rfl)
    try simp only [Act.put, sA, sB, sC]
    refine tY 32 (v := ?_) rfl (by kernel_rfl) (.inl ⟨by rfl, ?_⟩) ‹_› ?_
    rotate_left 1
    ·intro w hSw
     (try dsimp only at hSw)
     first | (go_simp; done) | (go_simp; with_reducible rfl)
    try simp only [Act.put, sA, sB, sC]
    refine tY 33 (v := ?_) rfl (by kernel_rfl) (.inl ⟨by rfl, ?_⟩) ‹_› ?_
    rotate_left 1
    ·intro w hSw
     (try dsimp only at hSw)
     first | (go_simp; done) | (go_simp; with_reducible rfl)
    try simp only [Act.put, sA, sB, sC]
    refine tY 34 (v := ?_) rfl (by kernel_rfl) (.inl ⟨by rfl, ?_⟩) ‹_› ?_
    rotate_left 1
    ·intro w hSw
     (try dsimp only at hSw)
     first | (go_simp; done) | (go_simp; with_reducible rfl)
    try simp only [Act.put, sA, sB, sC]
    refine tY 35 (v := ?_) rfl (by kernel_rfl) (.inl ⟨by rfl, ?_⟩) ‹_› ?_
    rotate_left 1
    ·intro w hSw
     (try dsimp only at hSw)
     first | (go_simp; done) | (go_simp; with_reducible rfl)
    try simp only [Act.put, sA, sB, sC]
    refine tY 36 (v := ?_) rfl (by kernel_rfl) (.inl ⟨by rfl, ?_⟩) ‹_› ?_
    rotate_left 1
    ·intro w hSw
     (try dsimp only at hSw)
     first | (go_simp; done) | (go_simp; with_reducible rfl)
    try simp only [Act.put, sA, sB, sC]
    refine tY 37 (v := ?_) rfl (by kernel_rfl) (.inl ⟨by rfl, ?_⟩) ‹_› ?_
    rotate_left 1
    ·intro w hSw
     (try dsimp only at hSw)
     first | (go_simp; done) | (go_simp; with_reducible rfl)
    try simp only [Act.put, sA, sB, sC]
    refine tY 38 (v := ?_) rfl (by kernel_rfl) (.inl ⟨by rfl, ?_⟩) ‹_› ?_
    rotate_left 1
    ·intro w hSw
     (try dsimp only at hSw)
     first | (go_simp; done) | (go_simp; with_reducible rfl)
    try simp only [Act.put, sA, sB, sC]
    refine wpAnyH_done (by kernel_rfl) ?_ _
    refine NoPanic.normal ?_
    (try simp only [Act.put, sA, sB, sC])
    have BB := bT hB b3'
    clear PC CN1 bd
    go_wp2
    go_ret
    exact ⟨R, BB⟩
   ·have H2 := dH (dU HI ⟨hw, by omega, fun h => by rw [hpe (by omega)]; omega⟩)
    have cp : decide (me ≤ pe) = false := decide_eq_false dp
    clear NO HI HJ hw X2 k7 hme hpe hj
    go_wp2_with fail
    refine wp_region_noPanic ?_
    refine wp_region_held_drew (S := fun W => W.cell? ⟨w.heap.size, 0, none⟩ = some (.slice da ds.length dc) ∧ W.cell? ⟨w.heap.size, 1, none⟩ = some (.int .i64 cop) ∧ W.cell? ⟨w.heap.size, 6, none⟩ = some (.slice (some ⟨b, off, none⟩) rs.length wc) ∧ W.cell? ⟨b, off + k * 2, none⟩ = some (.int .i64 me) ∧ W.cell? ⟨b, off + k * 2 + 1, none⟩ = some (.slice xa mn xc) ∧ W.cell? ⟨b, off + j * 2, none⟩ = some (.int .i64 pe)) (by kernel_rfl) (by first | exact dU PC _ (Below.refl _ _) | exact dU PC _ bd | exact dU PC _ b3') (fun hHeld => ?_)
    refine tY 0 (v := ?_) rfl (by kernel_rfl) (.inl ⟨by rfl, ?_⟩) ‹_› ?_
    rotate_left 1
    ·intro w hSw
     (try dsimp only at hSw)
     first | (go_simp; done) | (go_simp; with_reducible rfl)
    try simp only [Act.put, sA, sB, sC]
    refine tY 1 (v := ?_) rfl (by kernel_rfl) (.inl ⟨by rfl, ?_⟩) ‹_› ?_
    rotate_left 1
    ·intro w hSw
     (try dsimp only at hSw)
     first | (go_simp; done) | (go_simp; with_reducible rfl)
    try simp only [Act.put, sA, sB, sC]
    refine tY 2 (v := ?_) rfl (by kernel_rfl) (.inl ⟨by rfl, ?_⟩) ‹_› ?_
    rotate_left 1
    ·intro w hSw
     (try dsimp only at hSw)
     first | (go_simp; done) | (go_simp; with_reducible rfl)
    try simp only [Act.put, sA, sB, sC]
    refine tY 3 (v := ?_) rfl (by kernel_rfl) (.inl ⟨by rfl, ?_⟩) ‹_› ?_
    rotate_left 1
    ·intro w hSw
     (try dsimp only at hSw)
     first | (go_simp; done) | (go_simp; with_reducible rfl)
    try simp only [Act.put, sA, sB, sC]
    refine tY 4 (v := ?_) rfl (by kernel_rfl) (.inl ⟨by rfl, ?_⟩) ‹_› ?_
    rotate_left 1
    ·intro w hSw
     (try dsimp only at hSw)
     first | (go_simp; done) | (go_simp; with_reducible rfl)
    try simp only [Act.put, sA, sB, sC]
    refine tY 5 (v := ?_) rfl (by kernel_rfl) (.inl ⟨by rfl, ?_⟩) ‹_› ?_
    rotate_left 1
    ·intro w hSw
     (try dsimp only at hSw)
     first | (go_simp; done) | (go_simp; with_reducible rfl)
    try simp only [Act.put, sA, sB, sC]
    refine tY 6 (v := ?_) rfl (by kernel_rfl) (.inl ⟨by rfl, ?_⟩) ‹_› ?_
    rotate_left 1
    ·intro w hSw
     (try dsimp only at hSw)
     first | (go_simp; done) | (go_simp; with_reducible rfl)
    try simp only [Act.put, sA, sB, sC]
    refine wpAnyH_ready (rs := [7]) (by kernel_rfl) (by simp) ?_
    refine rC rfl (fun K hK => ?_) AllReadyH.nil
    go_simp
    refine (dU CN1 _ bd).mono ?_
    rintro e w3 ⟨rfl, b3⟩
    have b3' := bT bd b3
    (try go_wp2_with fail)
    refine hK.out _ _ (by first | exact dU PC _ (Below.refl _ _) | exact dU PC _ bd | exact dU PC _ b3') (fun hHeld => ?_)
    clear hK K
    try simp only [Act.put, sA, sB, sC]
    refine tY 8 (v := ?_) rfl (by kernel_rfl) (.inl ⟨by rfl, ?_⟩) ‹_› ?_
    rotate_left 1
    ·intro w hSw
     (try dsimp only at hSw)
     first | (go_simp; done) | (go_simp; with_reducible rfl)
    try simp only [Act.put, sA, sB, sC]
    refine tY 9 (v := ?_) rfl (by kernel_rfl) (.inl ⟨by rfl, ?_⟩) ‹_› ?_
    rotate_left 1
    ·intro w hSw
     (try dsimp only at hSw)
     first | (go_simp; done) | (go_simp; with_reducible rfl)
    try simp only [Act.put, sA, sB, sC]
    refine tY 10 (v := ?_) rfl (by kernel_rfl) (.inl ⟨by rfl, ?_⟩) ‹_› ?_
    rotate_left 1
    ·intro w hSw
     (try dsimp only at hSw)
     first | (go_simp; done) | (go_simp; with_reducible rfl)
    try simp only [Act.put, sA, sB, sC]
    refine tY 11 (v := ?_) rfl (by kernel_rfl) (.inl ⟨by rfl, ?_⟩) ‹_› ?_
    rotate_left 1
    ·intro w hSw
     (try dsimp only at hSw)
     first | (go_simp; done) | (go_simp; with_reducible rfl)
    try simp only [Act.put, sA, sB, sC]
    refine tY 12 (v := ?_) rfl (by kernel_rfl) (.inl ⟨by rfl, ?_⟩) ‹_› ?_
    rotate_left 1
    ·intro w hSw
     (try dsimp only at hSw)
     first | (go_simp; done) | (go_simp; with_reducible rfl)
    try simp only [Act.put, sA, sB, sC]
    refine tY 13 (v := ?_) rfl (by kernel_rfl) (.inl ⟨by rfl, ?_⟩) ‹_› ?_
    rotate_left 1
    ·intro w hSw
     (try dsimp only at hSw)
     first | (go_simp; done) | (go_simp; with_reducible rfl)
    try simp only [Act.put, sA, sB, sC]
    refine tY 14 (v := ?_) rfl (by kernel_rfl) (.inl ⟨by rfl, ?_⟩) ‹_› ?_
    rotate_left 1
    ·intro w hSw
     (try dsimp only at hSw)
     first | (go_simp; done) | (go_simp; with_reducible rfl)
    try simp only [Act.put, sA, sB, sC]
    refine tY 15 (v := ?_) rfl (by kernel_rfl) (.inl ⟨by rfl, ?_⟩) ‹_› ?_
    rotate_left 1
    ·intro w hSw
     (try dsimp only at hSw)
     first | (go_simp; done) | (go_simp; with_reducible rfl)
    try simp only [Act.put, sA, sB, sC]
    refine tY 16 (v := ?_) rfl (by kernel_rfl) (.inl ⟨by rfl, ?_⟩) ‹_› ?_
    rotate_left 1
    ·intro w hSw
     (try dsimp only at hSw)
     first | (go_simp; done) | (go_simp; with_reducible rfl)
    try simp only [Act.put, sA, sB, sC]
    refine tY 17 (v := ?_) rfl (by kernel_rfl) (.inl ⟨by rfl, ?_⟩) ‹_› ?_
    rotate_left 1
    ·intro w hSw
     (try dsimp only at hSw)
     first | (go_simp; done) | (go_simp; with_reducible rfl)
    try simp only [Act.put, sA, sB, sC]
    refine tY 18 (v := ?_) rfl (by kernel_rfl) (.inl ⟨by rfl, ?_⟩) ‹_› ?_
    rotate_left 1
    ·intro w hSw
     (try dsimp only at hSw)
     first | (go_simp; done) | (go_simp; with_reducible rfl)
    try simp only [Act.put, sA, sB, sC]
    refine tY 19 (v := ?_) rfl (by kernel_rfl) (.inl ⟨by rfl, ?_⟩) ‹_› ?_
    rotate_left 1
    ·intro w hSw
     (try dsimp only at hSw)
     first | (go_simp; done) | (go_simp; with_reducible rfl)
    try simp only [Act.put, sA, sB, sC]
    refine tY 20 (v := ?_) rfl (by kernel_rfl) (.inl ⟨by rfl, ?_⟩) ‹_› ?_
    rotate_left 1
    ·intro w hSw
     (try dsimp only at hSw)
     first | (go_simp; done) | (go_simp; with_reducible rfl)
    try simp only [Act.put, sA, sB, sC]
    refine tY 21 (v := ?_) rfl (by kernel_rfl) (.inl ⟨by rfl, ?_⟩) ‹_› ?_
    rotate_left 1
    ·intro w hSw
     (try dsimp only at hSw)
     first | (go_simp; done) | (go_simp; with_reducible rfl)
    try simp only [Act.put, sA, sB, sC]
    refine tY 22 (v := ?_) rfl (by kernel_rfl) (.inl ⟨by rfl, ?_⟩) ‹_› ?_
    rotate_left 1
    ·intro w hSw
     (try dsimp only at hSw)
     first | (go_simp; done) | (go_simp; with_reducible rfl)
    try simp only [Act.put, sA, sB, sC]
    refine tY 23 (v := ?_) rfl (by kernel_rfl) (.inl ⟨by rfl, ?_⟩) ‹_› ?_
    rotate_left 1
    ·intro w hSw
     (try dsimp only at hSw)
     first | (go_simp; done) | (go_simp; with_reducible rfl)
    try simp only [Act.put, sA, sB, sC]
    refine tY 24 (v := ?_) rfl (by kernel_rfl) (.inl ⟨by rfl, ?_⟩) ‹_› ?_
    rotate_left 1
    ·intro w hSw
     (try dsimp only at hSw)
     first | (go_simp; done) | (go_simp; with_reducible rfl)
    try simp only [Act.put, sA, sB, sC]
    refine tY 25 (v := ?_) rfl (by kernel_rfl) (.inl ⟨by rfl, ?_⟩) ‹_› ?_
    rotate_left 1
    ·intro w hSw
     (try dsimp only at hSw)
     first | (go_simp; done) | (go_simp; with_reducible rfl)
    try simp only [Act.put, sA, sB, sC]
    refine tY 26 (v := ?_) rfl (by kernel_rfl) (.inl ⟨by rfl, ?_⟩) ‹_› ?_
    rotate_left 1
    ·intro w hSw
     (try dsimp only at hSw)
     first | (go_simp; done) | (go_simp; with_reducible rfl)
    try simp only [Act.put, sA, sB, sC]
    refine tY 27 (v := ?_) rfl (by kernel_rfl) (.inl ⟨by rfl, ?_⟩) ‹_› ?_
    rotate_left 1
    ·intro w hSw
     (try dsimp only at hSw)
     first | (go_simp; done) | (go_simp; with_reducible rfl)
    try simp only [Act.put, sA, sB, sC]
    refine tY 28 (v := ?_) rfl (by kernel_rfl) (.inl ⟨by rfl, ?_⟩) ‹_› ?_
    rotate_left 1
    ·intro w hSw
     (try dsimp only at hSw)
     first | (go_simp; done) | (go_simp; with_reducible rfl)
    try simp only [Act.put, sA, sB, sC]
    refine tY 29 (v := ?_) rfl (by kernel_rfl) (.inl ⟨by rfl, ?_⟩) ‹_› ?_
    rotate_left 1
    ·intro w hSw
     (try dsimp only at hSw)
     first | (go_simp; done) | (go_simp; with_reducible rfl)
    try simp only [Act.put, sA, sB, sC]
    refine tY 30 (v := ?_) rfl (by kernel_rfl) (.inl ⟨by rfl, ?_⟩) ‹_› ?_
    rotate_left 1
    ·intro w hSw
     (try dsimp only at hSw)
     first | (go_simp; done) | (go_simp; with_reducible rfl)
    try simp only [Act.put, sA, sB, sC]
    refine tY 31 (v := ?_) rfl (by kernel_rfl) (.inl ⟨by rfl, ?_⟩) ‹_› ?_
    rotate_left 1
    ·intro w hSw
     (try dsimp only at hSw)
     first | (go_simp; done) | (go_simp; with_reducible rfl)
    try simp only [Act.put, sA, sB, sC]
    refine tY 32 (v := ?_) rfl (by kernel_rfl) (.inl ⟨by rfl, ?_⟩) ‹_› ?_
    rotate_left 1
    ·intro w hSw
     (try dsimp only at hSw)
     first | (go_simp; done) | (go_simp; with_reducible rfl)
    try simp only [Act.put, sA, sB, sC]
    refine tY 33 (v := ?_) rfl (by kernel_rfl) (.inl ⟨by rfl, ?_⟩) ‹_› ?_
    rotate_left 1
    ·intro w hSw
     (try dsimp only at hSw)
     first | (go_simp; done) | (go_simp; with_reducible rfl)
    try simp only [Act.put, sA, sB, sC]
    refine tY 34 (v := ?_) rfl (by kernel_rfl) (.inl ⟨by rfl, ?_⟩) ‹_› ?_
    rotate_left 1
    ·intro w hSw
     (try dsimp only at hSw)
     first | (go_simp; done) | (go_simp; with_reducible rfl)
    try simp only [Act.put, sA, sB, sC]
    refine tY 35 (v := ?_) rfl (by kernel_rfl) (.inl ⟨by rfl, ?_⟩) ‹_› ?_
    rotate_left 1
    ·intro w hSw
     (try dsimp only at hSw)
     first | (go_simp; done) | (go_simp; with_reducible rfl)
    try simp only [Act.put, sA, sB, sC]
    refine tY 36 (v := ?_) rfl (by kernel_rfl) (.inl ⟨by rfl, ?_⟩) ‹_› ?_
    rotate_left 1
    ·intro w hSw
     (try dsimp only at hSw)
     first | (go_simp; done) | (go_simp; with_reducible rfl)
    try simp only [Act.put, sA, sB, sC]
    refine tY 37 (v := ?_) rfl (by kernel_rfl) (.inl ⟨by rfl, ?_⟩) ‹_› ?_
    rotate_left 1
    ·intro w hSw
     (try dsimp only at hSw)
     first | (go_simp; done) | (go_simp; with_reducible rfl)
    try simp only [Act.put, sA, sB, sC]
    refine tY 38 (v := ?_) rfl (by kernel_rfl) (.inl ⟨by rfl, ?_⟩) ‹_› ?_
    rotate_left 1
    ·intro w hSw
     (try dsimp only at hSw)
     first | (go_simp; done) | (go_simp; with_reducible rfl)
    try simp only [Act.put, sA, sB, sC]
    refine wpAnyH_done (by kernel_rfl) ?_ _
    refine NoPanic.normal ?_
    (try simp only [Act.put, sA, sB, sC])
    have BB := bT hb b3'
    clear PC CN1 bd
    go_wp2
    go_roundw
    case rel => have := dU HK; subst this; exact ⟨j + 1 + 1, by go_num, by omega, dU H2, BB⟩
    case measure => have := dU HK; subst this; simp [intOf]; omega
  ·have PD2 : Hid ((∀ i (h : i < ns.length), mnP ds cop ns[i].m ∧ ns[i].m.bye = (eras.length : Int) ∧ ns[i].m.epoch = (fo : Int)) ↔ P) := ⟨fun h => (dU PD').1 ⟨fun i h => dU hc i h (by omega), h⟩, fun h => ((dU PD').2 h).2⟩
   have HX2 := dH X2
   clear hc PD' HX HV HN CW X2 k0 k1
   go_wp2
   clear k6 k7
   obtain ⟨w2, ew⟩ : ∃ x : World, x = wr := ⟨_, rfl⟩
   subst ew
   go_loopw [5] (fun y wr => ∃ k : Nat, y = .int .i64 (k : Int) ∧ k ≤ ns.length ∧ Hid (∀ i (h : i < ns.length), i < k → mnP ds cop ns[i].m ∧ ns[i].m.bye = (eras.length : Int) ∧ ns[i].m.epoch = (fo : Int)) ∧ Below w2.heap.size w2 wr) (fun y _ => ns.length - (intOf y).toNat)
   case atStart => exact ⟨0, rfl, Nat.zero_le _, fun i h h' => by omega, Below.refl _ _⟩
   case round =>
    obtain ⟨k, rfl, hk, hc, hb2⟩ := hrel
    have hB2 := bT hB hb2
    have X3 := (dU HX2).below hb2
    have q7 := X3 7 _ rfl
    by_cases hlt : (k : Int) < (ns.length : Int)
    ·have hkl : k < ns.length := by omega
     obtain ⟨b, off, rfl, he⟩ := (dU GV _ hB2).pd hkl
     have hck := he k hkl
     have hF := formMend (dU GN _ hB2 k hkl)
     have CE := dH fun W (hb : Below w.heap.size w W) => dU CM W hb k hkl
     have HI : Hid (mnP ds cop ns[k].m ∧ ns[k].m.bye = (eras.length : Int) ∧ ns[k].m.epoch = (fo : Int) → ∀ i (h : i < ns.length), i < k + 1 → mnP ds cop ns[i].m ∧ ns[i].m.bye = (eras.length : Int) ∧ ns[i].m.epoch = (fo : Int)) := fun hq i h hi => by
      by_cases e : i = k
      ·subst e; exact hq
      ·exact dU hc i h (by omega)
     have NO : Hid (¬ (mnP ds cop ns[k].m ∧ ns[k].m.bye = (eras.length : Int) ∧ ns[k].m.epoch = (fo : Int)) → ¬ P) := fun hq h => hq ((dU PD2).2 h k hkl)
     clear he hc
     generalize ns[k] = y at *
     obtain ⟨yc, yl, m⟩ := y
     obtain ⟨xsa, xsc, xea, xec, xwa, xwc, hF, -, -, -⟩ := hF
     have hF := Pd.eq hF
     simp only at hF
     subst hF
     unfold Pd.val at CE
     simp only at *
     have c0 := hck 0 _ rfl
     have c1 := hck 1 _ rfl
     have c2 := hck 2 _ rfl
     have c3 := hck 3 _ rfl
     have c4 := hck 4 _ rfl
     have c5 := hck 5 _ rfl
     simp only [Nat.add_zero] at c0 c1 c2 c3 c4 c5
     clear hck
     generalize m.bye = by_ at *
     generalize m.epoch = me at *
     generalize m.sealed.length = sl at *
     generalize m.seen.length = el at *
     generalize m.planned = mp at *
     generalize m.wrote.length = wl at *
     go_wp2_with fail
     have Y4 := Bx.new wr [.int .i64 by_, .int .i64 me, .slice xsa sl xsc, .slice xea el xec, .bool mp, .slice xwa wl xwc] 133
     have b4 : Below wr.heap.size wr (wr.alloc (.cells #[.int .i64 by_, .int .i64 me, .slice xsa sl xsc, .slice xea el xec, .bool mp, .slice xwa wl xwc] 133)) := (Below.refl _ _).alloc (Nat.le_refl _) _
     have X4 := X3.below b4
     have hb := bT hb2 b4
     have hB' := bT hB2 b4
     generalize hws : wr.heap.size = ws at *
     generalize wr.alloc (.cells #[.int .i64 by_, .int .i64 me, .slice xsa sl xsc, .slice xea el xec, .bool mp, .slice xwa wl xwc] 133) = w5 at *
     clear X3 q7 b4 hb2 hB2 c0 c1 c2 c3 c4 c5 hws
     have PC : Hid (∀ W, Below w5.heap.size w5 W → W.cell? ⟨w.heap.size, 0, none⟩ = some (.slice da ds.length dc) ∧ W.cell? ⟨w.heap.size, 1, none⟩ = some (.int .i64 cop) ∧ W.cell? ⟨w.heap.size, 4, none⟩ = some (.slice ea eras.length ec) ∧ W.cell? ⟨w.heap.size, 5, none⟩ = some (.int .i64 trim) ∧ W.cell? ⟨ws, 0, none⟩ = some (.int .i64 by_) ∧ W.cell? ⟨ws, 1, none⟩ = some (.int .i64 me) ∧ W.cell? ⟨ws, 2, none⟩ = some (.slice xsa sl xsc) ∧ W.cell? ⟨ws, 3, none⟩ = some (.slice xea el xec) ∧ W.cell? ⟨ws, 4, none⟩ = some (.bool mp) ∧ W.cell? ⟨ws, 5, none⟩ = some (.slice xwa wl xwc)) := fun W hb => ⟨X4.below hb 0 _ rfl, X4.below hb 1 _ rfl, X4.below hb 4 _ rfl, X4.below hb 5 _ rfl, Y4.below hb 0 _ rfl, Y4.below hb 1 _ rfl, Y4.below hb 2 _ rfl, Y4.below hb 3 _ rfl, Y4.below hb 4 _ rfl, Y4.below hb 5 _ rfl⟩
     have CE := dH fun W (hb : Below w5.heap.size w5 W) => dU CE W (bT hB' hb)
     have CF1 := dH fun W (hb : Below w5.heap.size w5 W) => dU CF W (bT hB' hb)
     have k0 := X4 0 _ rfl
     have k1 := X4 1 _ rfl
     have k4 := X4 4 _ rfl
     have k5 := X4 5 _ rfl
     have bd : Below w5.heap.size w5 w5.drew := (Below.refl _ _).drew
     clear X4 Y4
     by_cases hm : mnP ds cop m
     case neg =>
      have CN1 := dH fun W hB => retB_no (dU CE W hB) hm
      have R := RetB.no (dU NO fun h => hm h.1)
      clear CE NO HI hm PD2 GV GN CM CF HX2
      refine wp_region_noPanic ?_
      refine wp_region_held_drew (S := fun W => W.cell? ⟨w.heap.size, 0, none⟩ = some (.slice da ds.length dc) ∧ W.cell? ⟨w.heap.size, 1, none⟩ = some (.int .i64 cop) ∧ W.cell? ⟨w.heap.size, 4, none⟩ = some (.slice ea eras.length ec) ∧ W.cell? ⟨w.heap.size, 5, none⟩ = some (.int .i64 trim) ∧ W.cell? ⟨ws, 0, none⟩ = some (.int .i64 by_) ∧ W.cell? ⟨ws, 1, none⟩ = some (.int .i64 me) ∧ W.cell? ⟨ws, 2, none⟩ = some (.slice xsa sl xsc) ∧ W.cell? ⟨ws, 3, none⟩ = some (.slice xea el xec) ∧ W.cell? ⟨ws, 4, none⟩ = some (.bool mp) ∧ W.cell? ⟨ws, 5, none⟩ = some (.slice xwa wl xwc)) (by kernel_rfl) (by first | exact dU PC _ (Below.refl _ _) | exact dU PC _ bd | exact dU PC _ b3' | exact dU PC _ b4') (fun hHeld => ?_)
      refine tY 0 (v := ?_) rfl (by kernel_rfl) (.inl ⟨by rfl, ?_⟩) ‹_› ?_
      rotate_left 1
      ·intro w hSw
       (try dsimp only at hSw)
       first | (go_simp; done) | (go_simp; with_reducible rfl)
      try simp only [Act.put, sA, sB, sC]
      refine tY 1 (v := ?_) rfl (by kernel_rfl) (.inl ⟨by rfl, ?_⟩) ‹_› ?_
      rotate_left 1
      ·intro w hSw
       (try dsimp only at hSw)
       first | (go_simp; done) | (go_simp; with_reducible rfl)
      try simp only [Act.put, sA, sB, sC]
      refine tY 2 (v := ?_) rfl (by kernel_rfl) (.inl ⟨by rfl, ?_⟩) ‹_› ?_
      rotate_left 1
      ·intro w hSw
       (try dsimp only at hSw)
       first | (go_simp; done) | (go_simp; with_reducible rfl)
      try simp only [Act.put, sA, sB, sC]
      refine wpAnyH_ready (rs := [3]) (by kernel_rfl) (by simp) ?_
      refine rC rfl (fun K hK => ?_) AllReadyH.nil
      go_simp
      refine (dU CN1 _ bd).mono ?_
      rintro e w3 ⟨rfl, b3⟩
      have b3' := bT bd b3
      (try go_wp2_with fail)
      refine hK.out _ _ (by first | exact dU PC _ (Below.refl _ _) | exact dU PC _ bd | exact dU PC _ b3' | exact dU PC _ b4') (fun hHeld => ?_)
      clear hK K
      try simp only [Act.put, sA, sB, sC]
      refine tY 4 (v := ?_) rfl (by kernel_rfl) (.inl ⟨by rfl, ?_⟩) ‹_› ?_
      rotate_left 1
      ·intro w hSw
       (try dsimp only at hSw)
       first | (go_simp; done) | (go_simp; with_reducible rfl)
      try simp only [Act.put, sA, sB, sC]
      refine tY 5 (v := ?_) rfl (by kernel_rfl) (.inl ⟨by rfl, ?_⟩) ‹_› ?_
      rotate_left 1
      ·intro w hSw
       (try dsimp only at hSw)
       first | (go_simp; done) | (go_simp; with_reducible rfl)
      try simp only [Act.put, sA, sB, sC]
      refine tY 6 rfl (by kernel_rfl) (.inr ⟨by rfl, rfl⟩) ‹_› ?_
      try simp only [Act.put, sA, sB, sC]
      refine tY 7 rfl (by kernel_rfl) (.inr ⟨by rfl, rfl⟩) ‹_› ?_
      try simp only [Act.put, sA, sB, sC]
      refine tY 8 rfl (by kernel_rfl) (.inr ⟨by rfl, rfl⟩) ‹_› ?_
      try simp only [Act.put, sA, sB, sC]
      refine tY 9 rfl (by kernel_rfl) (.inr ⟨by rfl, rfl⟩) ‹_› ?_
      try simp only [Act.put, sA, sB, sC]
      refine tY 10 (v := ?_) rfl (by kernel_rfl) (.inl ⟨by rfl, ?_⟩) ‹_› ?_
      rotate_left 1
      ·intro w hSw
       (try dsimp only at hSw)
       first | (go_simp; done) | (go_simp; with_reducible rfl)
      try simp only [Act.put, sA, sB, sC]
      refine tY 11 (v := ?_) rfl (by kernel_rfl) (.inl ⟨by rfl, ?_⟩) ‹_› ?_
      rotate_left 1
      ·intro w hSw
       (try dsimp only at hSw)
       first | (go_simp; done) | (go_simp; with_reducible rfl)
      try simp only [Act.put, sA, sB, sC]
      refine tY 12 rfl (by kernel_rfl) (.inr ⟨by rfl, rfl⟩) ‹_› ?_
      try simp only [Act.put, sA, sB, sC]
      refine tY 13 rfl (by kernel_rfl) (.inr ⟨by rfl, rfl⟩) ‹_› ?_
      try simp only [Act.put, sA, sB, sC]
      refine tY 14 rfl (by kernel_rfl) (.inr ⟨by rfl, rfl⟩) ‹_› ?_
      try simp only [Act.put, sA, sB, sC]
      refine tY 15 rfl (by kernel_rfl) (.inr ⟨by rfl, rfl⟩) ‹_› ?_
      try simp only [Act.put, sA, sB, sC]
      refine tY 16 rfl (by kernel_rfl) (.inr ⟨by rfl, rfl⟩) ‹_› ?_
      try simp only [Act.put, sA, sB, sC]
      refine tY 17 rfl (by kernel_rfl) (.inr ⟨by rfl, rfl⟩) ‹_› ?_
      try simp only [Act.put, sA, sB, sC]
      refine tY 18 (v := ?_) rfl (by kernel_rfl) (.inl ⟨by rfl, ?_⟩) ‹_› ?_
      rotate_left 1
      ·intro w hSw
       (try dsimp only at hSw)
       first | (go_simp; done) | (go_simp; with_reducible rfl)
      try simp only [Act.put, sA, sB, sC]
      refine wpAnyH_done (by kernel_rfl) ?_ _
      refine NoPanic.normal ?_
      (try simp only [Act.put, sA, sB, sC])
      have BB := bT hB' b3'
      clear PC CN1 bd CF1
      go_wp2
      go_ret
      exact ⟨R, BB⟩
     have CN1 := dH fun W hB => retB_yes (dU CE W hB) hm
     clear CE
     by_cases db : by_ = (eras.length : Int)
     case neg =>
      have R := RetB.no (dU NO fun h => db h.2.1)
      have cb : (by_ != (eras.length : Int)) = true := by simpa using db
      clear NO HI hm PD2 GV GN CM CF HX2
      refine wp_region_noPanic ?_
      refine wp_region_held_drew (S := fun W => W.cell? ⟨w.heap.size, 0, none⟩ = some (.slice da ds.length dc) ∧ W.cell? ⟨w.heap.size, 1, none⟩ = some (.int .i64 cop) ∧ W.cell? ⟨w.heap.size, 4, none⟩ = some (.slice ea eras.length ec) ∧ W.cell? ⟨w.heap.size, 5, none⟩ = some (.int .i64 trim) ∧ W.cell? ⟨ws, 0, none⟩ = some (.int .i64 by_) ∧ W.cell? ⟨ws, 1, none⟩ = some (.int .i64 me) ∧ W.cell? ⟨ws, 2, none⟩ = some (.slice xsa sl xsc) ∧ W.cell? ⟨ws, 3, none⟩ = some (.slice xea el xec) ∧ W.cell? ⟨ws, 4, none⟩ = some (.bool mp) ∧ W.cell? ⟨ws, 5, none⟩ = some (.slice xwa wl xwc)) (by kernel_rfl) (by first | exact dU PC _ (Below.refl _ _) | exact dU PC _ bd | exact dU PC _ b3' | exact dU PC _ b4') (fun hHeld => ?_)
      refine tY 0 (v := ?_) rfl (by kernel_rfl) (.inl ⟨by rfl, ?_⟩) ‹_› ?_
      rotate_left 1
      ·intro w hSw
       (try dsimp only at hSw)
       first | (go_simp; done) | (go_simp; with_reducible rfl)
      try simp only [Act.put, sA, sB, sC]
      refine tY 1 (v := ?_) rfl (by kernel_rfl) (.inl ⟨by rfl, ?_⟩) ‹_› ?_
      rotate_left 1
      ·intro w hSw
       (try dsimp only at hSw)
       first | (go_simp; done) | (go_simp; with_reducible rfl)
      try simp only [Act.put, sA, sB, sC]
      refine tY 2 (v := ?_) rfl (by kernel_rfl) (.inl ⟨by rfl, ?_⟩) ‹_› ?_
      rotate_left 1
      ·intro w hSw
       (try dsimp only at hSw)
       first | (go_simp; done) | (go_simp; with_reducible rfl)
      try simp only [Act.put, sA, sB, sC]
      refine wpAnyH_ready (rs := [3]) (by kernel_rfl) (by simp) ?_
      refine rC rfl (fun K hK => ?_) AllReadyH.nil
      go_simp
      refine (dU CN1 _ bd).mono ?_
      rintro e w3 ⟨rfl, b3⟩
      have b3' := bT bd b3
      (try go_wp2_with fail)
      refine hK.out _ _ (by first | exact dU PC _ (Below.refl _ _) | exact dU PC _ bd | exact dU PC _ b3' | exact dU PC _ b4') (fun hHeld => ?_)
      clear hK K
      try simp only [Act.put, sA, sB, sC]
      refine tY 4 (v := ?_) rfl (by kernel_rfl) (.inl ⟨by rfl, ?_⟩) ‹_› ?_
      rotate_left 1
      ·intro w hSw
       (try dsimp only at hSw)
       first | (go_simp; done) | (go_simp; with_reducible rfl)
      try simp only [Act.put, sA, sB, sC]
      refine tY 5 (v := ?_) rfl (by kernel_rfl) (.inl ⟨by rfl, ?_⟩) ‹_› ?_
      rotate_left 1
      ·intro w hSw
       (try dsimp only at hSw)
       first | (go_simp; done) | (go_simp; with_reducible rfl)
      try simp only [Act.put, sA, sB, sC]
      refine tY 6 (v := ?_) rfl (by kernel_rfl) (.inl ⟨by rfl, ?_⟩) ‹_› ?_
      rotate_left 1
      ·intro w hSw
       (try dsimp only at hSw)
       first | (go_simp; done) | (go_simp; with_reducible rfl)
      try simp only [Act.put, sA, sB, sC]
      refine tY 7 (v := ?_) rfl (by kernel_rfl) (.inl ⟨by rfl, ?_⟩) ‹_› ?_
      rotate_left 1
      ·intro w hSw
       (try dsimp only at hSw)
       first | (go_simp; done) | (go_simp; with_reducible rfl)
      try simp only [Act.put, sA, sB, sC]
      refine tY 8 (v := ?_) rfl (by kernel_rfl) (.inl ⟨by rfl, ?_⟩) ‹_› ?_
      rotate_left 1
      ·intro w hSw
       (try dsimp only at hSw)
       first | (go_simp; done) | (go_simp; with_reducible rfl)
      try simp only [Act.put, sA, sB, sC]
      refine tY 9 (v := ?_) rfl (by kernel_rfl) (.inl ⟨by rfl, ?_⟩) ‹_› ?_
      rotate_left 1
      ·intro w hSw
       (try dsimp only at hSw)
       first | (go_simp; done) | (go_simp; with_reducible rfl)
      try simp only [Act.put, sA, sB, sC]
      refine tY 10 (v := ?_) rfl (by kernel_rfl) (.inl ⟨by rfl, ?_⟩) ‹_› ?_
      rotate_left 1
      ·intro w hSw
       (try dsimp only at hSw)
       first | (go_simp; done) | (go_simp; with_reducible rfl)
      try simp only [Act.put, sA, sB, sC]
      refine tY 11 (v := ?_) rfl (by kernel_rfl) (.inl ⟨by rfl, ?_⟩) ‹_› ?_
      rotate_left 1
      ·intro w hSw
       (try dsimp only at hSw)
       first | (go_simp; done) | (go_simp; with_reducible rfl)
      try simp only [Act.put, sA, sB, sC]
      refine tY 12 rfl (by kernel_rfl) (.inr ⟨by rfl, rfl⟩) ‹_› ?_
      try simp only [Act.put, sA, sB, sC]
      refine tY 13 rfl (by kernel_rfl) (.inr ⟨by rfl, rfl⟩) ‹_› ?_
      try simp only [Act.put, sA, sB, sC]
      refine tY 14 rfl (by kernel_rfl) (.inr ⟨by rfl, rfl⟩) ‹_› ?_
      try simp only [Act.put, sA, sB, sC]
      refine tY 15 rfl (by kernel_rfl) (.inr ⟨by rfl, rfl⟩) ‹_› ?_
      try simp only [Act.put, sA, sB, sC]
      refine tY 16 rfl (by kernel_rfl) (.inr ⟨by rfl, rfl⟩) ‹_› ?_
      try simp only [Act.put, sA, sB, sC]
      refine tY 17 rfl (by kernel_rfl) (.inr ⟨by rfl, rfl⟩) ‹_› ?_
      try simp only [Act.put, sA, sB, sC]
      refine tY 18 (v := ?_) rfl (by kernel_rfl) (.inl ⟨by rfl, ?_⟩) ‹_› ?_
      rotate_left 1
      ·intro w hSw
       (try dsimp only at hSw)
       first | (go_simp; done) | (go_simp; with_reducible rfl)
      try simp only [Act.put, sA, sB, sC]
      refine wpAnyH_done (by kernel_rfl) ?_ _
      refine NoPanic.normal ?_
      (try simp only [Act.put, sA, sB, sC])
      have BB := bT hB' b3'
      clear PC CN1 bd CF1
      go_wp2
      go_ret
      exact ⟨R, BB⟩
     by_cases de : me = (fo : Int)
     case neg =>
      have R := RetB.no (dU NO fun h => de h.2.2)
      have cb : (by_ != (eras.length : Int)) = false := by simpa using db
      have ce : (me != (fo : Int)) = true := by simpa using de
      clear NO HI hm PD2 GV GN CM CF HX2 db de
      refine wp_region_noPanic ?_
      refine wp_region_held_drew (S := fun W => W.cell? ⟨w.heap.size, 0, none⟩ = some (.slice da ds.length dc) ∧ W.cell? ⟨w.heap.size, 1, none⟩ = some (.int .i64 cop) ∧ W.cell? ⟨w.heap.size, 4, none⟩ = some (.slice ea eras.length ec) ∧ W.cell? ⟨w.heap.size, 5, none⟩ = some (.int .i64 trim) ∧ W.cell? ⟨ws, 0, none⟩ = some (.int .i64 by_) ∧ W.cell? ⟨ws, 1, none⟩ = some (.int .i64 me) ∧ W.cell? ⟨ws, 2, none⟩ = some (.slice xsa sl xsc) ∧ W.cell? ⟨ws, 3, none⟩ = some (.slice xea el xec) ∧ W.cell? ⟨ws, 4, none⟩ = some (.bool mp) ∧ W.cell? ⟨ws, 5, none⟩ = some (.slice xwa wl xwc)) (by kernel_rfl) (by first | exact dU PC _ (Below.refl _ _) | exact dU PC _ bd | exact dU PC _ b3' | exact dU PC _ b4') (fun hHeld => ?_)
      refine tY 0 (v := ?_) rfl (by kernel_rfl) (.inl ⟨by rfl, ?_⟩) ‹_› ?_
      rotate_left 1
      ·intro w hSw
       (try dsimp only at hSw)
       first | (go_simp; done) | (go_simp; with_reducible rfl)
      try simp only [Act.put, sA, sB, sC]
      refine tY 1 (v := ?_) rfl (by kernel_rfl) (.inl ⟨by rfl, ?_⟩) ‹_› ?_
      rotate_left 1
      ·intro w hSw
       (try dsimp only at hSw)
       first | (go_simp; done) | (go_simp; with_reducible rfl)
      try simp only [Act.put, sA, sB, sC]
      refine tY 2 (v := ?_) rfl (by kernel_rfl) (.inl ⟨by rfl, ?_⟩) ‹_› ?_
      rotate_left 1
      ·intro w hSw
       (try dsimp only at hSw)
       first | (go_simp; done) | (go_simp; with_reducible rfl)
      try simp only [Act.put, sA, sB, sC]
      refine wpAnyH_ready (rs := [3]) (by kernel_rfl) (by simp) ?_
      refine rC rfl (fun K hK => ?_) AllReadyH.nil
      go_simp
      refine (dU CN1 _ bd).mono ?_
      rintro e w3 ⟨rfl, b3⟩
      have b3' := bT bd b3
      (try go_wp2_with fail)
      refine hK.out _ _ (by first | exact dU PC _ (Below.refl _ _) | exact dU PC _ bd | exact dU PC _ b3' | exact dU PC _ b4') (fun hHeld => ?_)
      clear hK K
      try simp only [Act.put, sA, sB, sC]
      refine tY 4 (v := ?_) rfl (by kernel_rfl) (.inl ⟨by rfl, ?_⟩) ‹_› ?_
      rotate_left 1
      ·intro w hSw
       (try dsimp only at hSw)
       first | (go_simp; done) | (go_simp; with_reducible rfl)
      try simp only [Act.put, sA, sB, sC]
      refine tY 5 (v := ?_) rfl (by kernel_rfl) (.inl ⟨by rfl, ?_⟩) ‹_› ?_
      rotate_left 1
      ·intro w hSw
       (try dsimp only at hSw)
       first | (go_simp; done) | (go_simp; with_reducible rfl)
      try simp only [Act.put, sA, sB, sC]
      refine tY 6 (v := ?_) rfl (by kernel_rfl) (.inl ⟨by rfl, ?_⟩) ‹_› ?_
      rotate_left 1
      ·intro w hSw
       (try dsimp only at hSw)
       first | (go_simp; done) | (go_simp; with_reducible rfl)
      try simp only [Act.put, sA, sB, sC]
      refine tY 7 (v := ?_) rfl (by kernel_rfl) (.inl ⟨by rfl, ?_⟩) ‹_› ?_
      rotate_left 1
      ·intro w hSw
       (try dsimp only at hSw)
       first | (go_simp; done) | (go_simp; with_reducible rfl)
      try simp only [Act.put, sA, sB, sC]
      refine tY 8 (v := ?_) rfl (by kernel_rfl) (.inl ⟨by rfl, ?_⟩) ‹_› ?_
      rotate_left 1
      ·intro w hSw
       (try dsimp only at hSw)
       first | (go_simp; done) | (go_simp; with_reducible rfl)
      try simp only [Act.put, sA, sB, sC]
      refine tY 9 (v := ?_) rfl (by kernel_rfl) (.inl ⟨by rfl, ?_⟩) ‹_› ?_
      rotate_left 1
      ·intro w hSw
       (try dsimp only at hSw)
       first | (go_simp; done) | (go_simp; with_reducible rfl)
      try simp only [Act.put, sA, sB, sC]
      refine tY 10 (v := ?_) rfl (by kernel_rfl) (.inl ⟨by rfl, ?_⟩) ‹_› ?_
      rotate_left 1
      ·intro w hSw
       (try dsimp only at hSw)
       first | (go_simp; done) | (go_simp; with_reducible rfl)
      try simp only [Act.put, sA, sB, sC]
      refine tY 11 (v := ?_) rfl (by kernel_rfl) (.inl ⟨by rfl, ?_⟩) ‹_› ?_
      rotate_left 1
      ·intro w hSw
       (try dsimp only at hSw)
       first | (go_simp; done) | (go_simp; with_reducible rfl)
      try simp only [Act.put, sA, sB, sC]
      refine tY 12 (v := ?_) rfl (by kernel_rfl) (.inl ⟨by rfl, ?_⟩) ‹_› ?_
      rotate_left 1
      ·intro w hSw
       (try dsimp only at hSw)
       first | (go_simp; done) | (go_simp; with_reducible rfl)
      try simp only [Act.put, sA, sB, sC]
      refine tY 13 (v := ?_) rfl (by kernel_rfl) (.inl ⟨by rfl, ?_⟩) ‹_› ?_
      rotate_left 1
      ·intro w hSw
       (try dsimp only at hSw)
       first | (go_simp; done) | (go_simp; with_reducible rfl)
      try simp only [Act.put, sA, sB, sC]
      refine tY 14 (v := ?_) rfl (by kernel_rfl) (.inl ⟨by rfl, ?_⟩) ‹_› ?_
      rotate_left 1
      ·intro w hSw
       (try dsimp only at hSw)
       first | (go_simp; done) | (go_simp; with_reducible rfl)
      try simp only [Act.put, sA, sB, sC]
      refine tY 15 (v := ?_) rfl (by kernel_rfl) (.inl ⟨by rfl, ?_⟩) ‹_› ?_
      rotate_left 1
      ·intro w hSw
       (try dsimp only at hSw)
       first | (go_simp; done) | (go_simp; with_reducible rfl)
      try simp only [Act.put, sA, sB, sC]
      refine wpAnyH_ready (rs := [16]) (by kernel_rfl) (by simp) ?_
      refine rC rfl (fun K hK => ?_) AllReadyH.nil
      go_simp
      refine (dU CF1 _ b3').mono ?_
      rintro e w4 ⟨rfl, b4⟩
      have b4' := bT b3' b4
      (try go_wp2_with fail)
      refine hK.out _ _ (by first | exact dU PC _ (Below.refl _ _) | exact dU PC _ bd | exact dU PC _ b3' | exact dU PC _ b4') (fun hHeld => ?_)
      clear hK K
      try simp only [Act.put, sA, sB, sC]
      refine tY 17 (v := ?_) rfl (by kernel_rfl) (.inl ⟨by rfl, ?_⟩) ‹_› ?_
      rotate_left 1
      ·intro w hSw
       (try dsimp only at hSw)
       first | (go_simp; done) | (go_simp; with_reducible rfl)
      try simp only [Act.put, sA, sB, sC]
      refine tY 18 (v := ?_) rfl (by kernel_rfl) (.inl ⟨by rfl, ?_⟩) ‹_› ?_
      rotate_left 1
      ·intro w hSw
       (try dsimp only at hSw)
       first | (go_simp; done) | (go_simp; with_reducible rfl)
      try simp only [Act.put, sA, sB, sC]
      refine wpAnyH_done (by kernel_rfl) ?_ _
      refine NoPanic.normal ?_
      (try simp only [Act.put, sA, sB, sC])
      have BB := bT hB' b4'
      clear PC CN1 bd
      go_wp2
      go_ret
      exact ⟨R, BB⟩
     have H2 := dH (dU HI ⟨hm, db, de⟩)
     have cb : (by_ != (eras.length : Int)) = false := by simpa using db
     have ce : (me != (fo : Int)) = false := by simpa using de
     clear NO HI hm db de
     refine wp_region_noPanic ?_
     refine wp_region_held_drew (S := fun W => W.cell? ⟨w.heap.size, 0, none⟩ = some (.slice da ds.length dc) ∧ W.cell? ⟨w.heap.size, 1, none⟩ = some (.int .i64 cop) ∧ W.cell? ⟨w.heap.size, 4, none⟩ = some (.slice ea eras.length ec) ∧ W.cell? ⟨w.heap.size, 5, none⟩ = some (.int .i64 trim) ∧ W.cell? ⟨ws, 0, none⟩ = some (.int .i64 by_) ∧ W.cell? ⟨ws, 1, none⟩ = some (.int .i64 me) ∧ W.cell? ⟨ws, 2, none⟩ = some (.slice xsa sl xsc) ∧ W.cell? ⟨ws, 3, none⟩ = some (.slice xea el xec) ∧ W.cell? ⟨ws, 4, none⟩ = some (.bool mp) ∧ W.cell? ⟨ws, 5, none⟩ = some (.slice xwa wl xwc)) (by kernel_rfl) (by first | exact dU PC _ (Below.refl _ _) | exact dU PC _ bd | exact dU PC _ b3' | exact dU PC _ b4') (fun hHeld => ?_)
     refine tY 0 (v := ?_) rfl (by kernel_rfl) (.inl ⟨by rfl, ?_⟩) ‹_› ?_
     rotate_left 1
     ·intro w hSw
      (try dsimp only at hSw)
      first | (go_simp; done) | (go_simp; with_reducible rfl)
     try simp only [Act.put, sA, sB, sC]
     refine tY 1 (v := ?_) rfl (by kernel_rfl) (.inl ⟨by rfl, ?_⟩) ‹_› ?_
     rotate_left 1
     ·intro w hSw
      (try dsimp only at hSw)
      first | (go_simp; done) | (go_simp; with_reducible rfl)
     try simp only [Act.put, sA, sB, sC]
     refine tY 2 (v := ?_) rfl (by kernel_rfl) (.inl ⟨by rfl, ?_⟩) ‹_› ?_
     rotate_left 1
     ·intro w hSw
      (try dsimp only at hSw)
      first | (go_simp; done) | (go_simp; with_reducible rfl)
     try simp only [Act.put, sA, sB, sC]
     refine wpAnyH_ready (rs := [3]) (by kernel_rfl) (by simp) ?_
     refine rC rfl (fun K hK => ?_) AllReadyH.nil
     go_simp
     refine (dU CN1 _ bd).mono ?_
     rintro e w3 ⟨rfl, b3⟩
     have b3' := bT bd b3
     (try go_wp2_with fail)
     refine hK.out _ _ (by first | exact dU PC _ (Below.refl _ _) | exact dU PC _ bd | exact dU PC _ b3' | exact dU PC _ b4') (fun hHeld => ?_)
     clear hK K
     try simp only [Act.put, sA, sB, sC]
     refine tY 4 (v := ?_) rfl (by kernel_rfl) (.inl ⟨by rfl, ?_⟩) ‹_› ?_
     rotate_left 1
     ·intro w hSw
      (try dsimp only at hSw)
      first | (go_simp; done) | (go_simp; with_reducible rfl)
     try simp only [Act.put, sA, sB, sC]
     refine tY 5 (v := ?_) rfl (by kernel_rfl) (.inl ⟨by rfl, ?_⟩) ‹_› ?_
     rotate_left 1
     ·intro w hSw
      (try dsimp only at hSw)
      first | (go_simp; done) | (go_simp; with_reducible rfl)
     try simp only [Act.put, sA, sB, sC]
     refine tY 6 (v := ?_) rfl (by kernel_rfl) (.inl ⟨by rfl, ?_⟩) ‹_› ?_
     rotate_left 1
     ·intro w hSw
      (try dsimp only at hSw)
      first | (go_simp; done) | (go_simp; with_reducible rfl)
     try simp only [Act.put, sA, sB, sC]
     refine tY 7 (v := ?_) rfl (by kernel_rfl) (.inl ⟨by rfl, ?_⟩) ‹_› ?_
     rotate_left 1
     ·intro w hSw
      (try dsimp only at hSw)
      first | (go_simp; done) | (go_simp; with_reducible rfl)
     try simp only [Act.put, sA, sB, sC]
     refine tY 8 (v := ?_) rfl (by kernel_rfl) (.inl ⟨by rfl, ?_⟩) ‹_› ?_
     rotate_left 1
     ·intro w hSw
      (try dsimp only at hSw)
      first | (go_simp; done) | (go_simp; with_reducible rfl)
     try simp only [Act.put, sA, sB, sC]
     refine tY 9 (v := ?_) rfl (by kernel_rfl) (.inl ⟨by rfl, ?_⟩) ‹_› ?_
     rotate_left 1
     ·intro w hSw
      (try dsimp only at hSw)
      first | (go_simp; done) | (go_simp; with_reducible rfl)
     try simp only [Act.put, sA, sB, sC]
     refine tY 10 (v := ?_) rfl (by kernel_rfl) (.inl ⟨by rfl, ?_⟩) ‹_› ?_
     rotate_left 1
     ·intro w hSw
      (try dsimp only at hSw)
      first | (go_simp; done) | (go_simp; with_reducible rfl)
     try simp only [Act.put, sA, sB, sC]
     refine tY 11 (v := ?_) rfl (by kernel_rfl) (.inl ⟨by rfl, ?_⟩) ‹_› ?_
     rotate_left 1
     ·intro w hSw
      (try dsimp only at hSw)
      first | (go_simp; done) | (go_simp; with_reducible rfl)
     try simp only [Act.put, sA, sB, sC]
     refine tY 12 (v := ?_) rfl (by kernel_rfl) (.inl ⟨by rfl, ?_⟩) ‹_› ?_
     rotate_left 1
     ·intro w hSw
      (try dsimp only at hSw)
      first | (go_simp; done) | (go_simp; with_reducible rfl)
     try simp only [Act.put, sA, sB, sC]
     refine tY 13 (v := ?_) rfl (by kernel_rfl) (.inl ⟨by rfl, ?_⟩) ‹_› ?_
     rotate_left 1
     ·intro w hSw
      (try dsimp only at hSw)
      first | (go_simp; done) | (go_simp; with_reducible rfl)
     try simp only [Act.put, sA, sB, sC]
     refine tY 14 (v := ?_) rfl (by kernel_rfl) (.inl ⟨by rfl, ?_⟩) ‹_› ?_
     rotate_left 1
     ·intro w hSw
      (try dsimp only at hSw)
      first | (go_simp; done) | (go_simp; with_reducible rfl)
     try simp only [Act.put, sA, sB, sC]
     refine tY 15 (v := ?_) rfl (by kernel_rfl) (.inl ⟨by rfl, ?_⟩) ‹_› ?_
     rotate_left 1
     ·intro w hSw
      (try dsimp only at hSw)
      first | (go_simp; done) | (go_simp; with_reducible rfl)
     try simp only [Act.put, sA, sB, sC]
     refine wpAnyH_ready (rs := [16]) (by kernel_rfl) (by simp) ?_
     refine rC rfl (fun K hK => ?_) AllReadyH.nil
     go_simp
     refine (dU CF1 _ b3').mono ?_
     rintro e w4 ⟨rfl, b4⟩
     have b4' := bT b3' b4
     (try go_wp2_with fail)
     refine hK.out _ _ (by first | exact dU PC _ (Below.refl _ _) | exact dU PC _ bd | exact dU PC _ b3' | exact dU PC _ b4') (fun hHeld => ?_)
     clear hK K
     try simp only [Act.put, sA, sB, sC]
     refine tY 17 (v := ?_) rfl (by kernel_rfl) (.inl ⟨by rfl, ?_⟩) ‹_› ?_
     rotate_left 1
     ·intro w hSw
      (try dsimp only at hSw)
      first | (go_simp; done) | (go_simp; with_reducible rfl)
     try simp only [Act.put, sA, sB, sC]
     refine tY 18 (v := ?_) rfl (by kernel_rfl) (.inl ⟨by rfl, ?_⟩) ‹_› ?_
     rotate_left 1
     ·intro w hSw
      (try dsimp only at hSw)
      first | (go_simp; done) | (go_simp; with_reducible rfl)
     try simp only [Act.put, sA, sB, sC]
     refine wpAnyH_done (by kernel_rfl) ?_ _
     refine NoPanic.normal ?_
     (try simp only [Act.put, sA, sB, sC])
     have BB := bT hb b4'
     clear PC CN1 bd
     go_wp2
     go_roundw
     case rel => exact ⟨k + 1, by go_num, by omega, dU H2, BB⟩
     case measure => simp [intOf]; omega
    ·have R := RetB.yes ((dU PD2).1 fun i h => dU hc i h (by omega))
     clear hc PD2 GV GN CM CF
     go_wp2
     go_ret
     exact ⟨R, hB2⟩
end Go.Proofs.YtkiclbbialadlaaGreat
