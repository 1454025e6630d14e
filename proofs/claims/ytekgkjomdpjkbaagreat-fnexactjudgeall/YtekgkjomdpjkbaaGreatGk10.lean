/- Several texts in one: JgQ, Q14M. -/
import Derived.Test.YtekgkjomdpjkbaaGreatJgP
import Derived.Test.YtekgkjomdpjkbaaGreatGk15
import Derived.Deep.RegionHeld3
import Derived.Deep.DeepCutAuto
import Derived.Test.YtekgkjomdpjkbaaGreatGk12
namespace Go.Proofs.YtekgkjomdpjkbaaGreat
open Go.ChangeShapes Go.WideShapes Go.ChangeAt Go.RowKit
set_option linter.unusedSimpArgs false
set_option linter.unusedVariables false
set_option maxRecDepth 100000
def sameP (m : Wo) : Prop := woP m ∧ (m.torn = true ∨ samR m.readers m.reg.trim)
theorem sam_at {l : List Rr} (h : l.length = 2) (tr : Int) : samR l tr ↔ agreeP (l[0]'(by omega)) (l[1]'(by omega)) tr ∧ agreeP (l[1]'(by omega)) (l[0]'(by omega)) tr := by
 match l, h with
 | [a, b], _ => exact ⟨fun ⟨a', b', e, h⟩ => by cases e; exact h, fun h => ⟨a, b, rfl, h⟩⟩
set_option maxHeartbeats 16000000 in
theorem specSame_any (v : Value) (m : Wo) (w : World) (ok : okWorld m) (hs : sizWorld m ≤ 1048576) (hv : RdWorld v m w) :
  Calls Tryz.prog 20 #[v] w fun e w' => RetB (sameP m) e ∧ Below w.heap.size w w' := by
 have CW := dH fun W (hb : Below w.heap.size w W) => specWorldOk_any v m W ok hs (hv.below hb)
 have HP := dH (plsOf ok)
 obtain ⟨da, dc, sa, sc, la, lc, ea, ec, wa, wc, na, nc, ra, rc', ta, tc, rfl, hd, hst, hlo, hre, hwr, hme, hrd, hse⟩ := partsWorld hv
 clear hd hst hlo hre hwr hme hse hs ok
 have HR := dH fun W (hb : Below w.heap.size w W) => RdReaderS.below hrd hb
 clear hrd hv
 have WP : Hid (sameP m ↔ woP m ∧ (m.torn = true ∨ samR m.readers m.reg.trim)) := Iff.rfl
 have WL : Hid (woP m → m.readers.length = 2) := fun h => h.2.2.1.1
 have WS : Hid (woP m → ∀ r ∈ m.readers, smallR r) := fun h => smallOf h
 generalize woP m = PW at *
 generalize sameP m = PQ at *
 obtain ⟨⟨ds, cop⟩, stores, lost, ⟨eras, trim⟩, writers, mends, readers, sent, torn⟩ := m
 simp only at *
 have B0 : Below w.heap.size w (w.alloc (.cells #[.slice da ds.length dc, .int .i64 cop, .slice sa stores.length sc, .slice la lost.length lc, .slice ea eras.length ec, .int .i64 trim, .slice wa writers.length wc, .slice na mends.length nc, .slice ra readers.length rc', .slice ta sent.length tc, .bool torn] 47)) := (Below.refl _ _).alloc (Nat.le_refl _) _
 have X0 := Bx.new w [.slice da ds.length dc, .int .i64 cop, .slice sa stores.length sc, .slice la lost.length lc, .slice ea eras.length ec, .int .i64 trim, .slice wa writers.length wc, .slice na mends.length nc, .slice ra readers.length rc', .slice ta sent.length tc, .bool torn] 47
 go_enter Tryz.func20, Tryz.ntmps20
 go_wp2_with fail
 generalize w.alloc (.cells #[.slice da ds.length dc, .int .i64 cop, .slice sa stores.length sc, .slice la lost.length lc, .slice ea eras.length ec, .int .i64 trim, .slice wa writers.length wc, .slice na mends.length nc, .slice ra readers.length rc', .slice ta sent.length tc, .bool torn] 47) = w0 at *
 refine (dU CW _ B0).mono ?_
 rintro e w1 ⟨⟨q, rfl, hq⟩, b1⟩
 have B1 := dH (bT B0 b1)
 have X1 := X0.below b1
 cases q
 ·have R := dH (show RetB PQ (.returned (.bool false)) from RetB.no fun h => by have := hq.2 ((dU WP).1 h).1; cases this)
  clear hq CW b1 X0 B0 HR WP X1 WL WS HP
  go_wp2
  go_ret
  exact ⟨dU R, dU B1⟩
 have HQ := dH (hq.1 rfl)
 have HL := dH (dU WL (hq.1 rfl))
 have HM := dH (dU WS (hq.1 rfl))
 clear hq CW b1 X0 B0 WL WS
 cases torn
 case true =>
  have R := dH (show RetB PQ (.returned (.bool true)) from RetB.yes ((dU WP).2 ⟨dU HQ, .inl rfl⟩))
  have k10 := X1 10 _ rfl
  have BF := dU B1
  clear WP HQ HL HR HM HP X1
  go_wp2_with fail
  go_quiet (fail)
  go_wp2
  go_ret
  exact ⟨dU R, below_drewN BF _⟩
 case false =>
  have h0 : 0 < readers.length := by rw [dU HL]; omega
  have h1 : 1 < readers.length := by rw [dU HL]; omega
  have i0 : (0 : Int) < (readers.length : Int) := by omega
  have i1 : (1 : Int) < (readers.length : Int) := by omega
  have F0 : Hid (PQ ↔ agreeP readers[0] readers[1] trim ∧ agreeP readers[1] readers[0] trim) := (dU WP).trans ⟨fun h => by
   rcases h.2 with q | q
   ·cases q
   ·exact (sam_at (dU HL) trim).1 q, fun h => ⟨dU HQ, .inr ((sam_at (dU HL) trim).2 h)⟩⟩
  obtain ⟨rb, ro, sv, rfl, c0, c1, c2, hR0⟩ := readerIn (dU HR _ (dU B1)) h0
  obtain ⟨rb', ro', sv', e', d0, d1, d2, hR1⟩ := readerIn (dU HR _ (dU B1)) h1
  simp only [Option.some.injEq, Addr.mk.injEq, and_true] at e'
  obtain ⟨rfl, rfl⟩ := e'
  have sm0 := dU HM _ (List.getElem_mem h0)
  have sm1 := dU HM _ (List.getElem_mem h1)
  have pl0 := dU HP _ (List.getElem_mem h0)
  have pl1 := dU HP _ (List.getElem_mem h1)
  clear HM HP WP HQ HR
  generalize readers[0] = r0 at *
  generalize readers[1] = r1 at *
  have C1 := dH fun W (hW : Below w1.heap.size w1 W) => specAgree_any (.slice da ds.length dc) (.int .i64 cop) (.slice sa stores.length sc) (.slice la lost.length lc) (.slice ea eras.length ec) (.slice wa writers.length wc) (.slice na mends.length nc) (.slice (some ⟨rb, ro, none⟩) readers.length rc') (.slice ta sent.length tc) (.bool false) _ _ r0 r1 trim W (hR0.below hW) (hR1.below hW) sm0 sm1 pl0
  have C2 := dH fun W (hW : Below w1.heap.size w1 W) => specAgree_any (.slice da ds.length dc) (.int .i64 cop) (.slice sa stores.length sc) (.slice la lost.length lc) (.slice ea eras.length ec) (.slice wa writers.length wc) (.slice na mends.length nc) (.slice (some ⟨rb, ro, none⟩) readers.length rc') (.slice ta sent.length tc) (.bool false) _ _ r1 r0 trim W (hR1.below hW) (hR0.below hW) sm1 sm0 pl1
  obtain ⟨sx, esv, hes⟩ := hR0
  simp only [Value.agg.injEq] at esv
  obtain rfl : sv = sx := by simpa using esv
  obtain ⟨aa, ac, rfl, -⟩ := formEventS hes
  clear esv hes
  obtain ⟨sy, esv, hes⟩ := hR1
  simp only [Value.agg.injEq] at esv
  obtain rfl : sv' = sy := by simpa using esv
  obtain ⟨ba, bc, rfl, -⟩ := formEventS hes
  clear esv hes sm0 sm1 pl0 pl1 HL
  simp only [Nat.zero_mul, Nat.add_zero] at c0 c1 c2
  simp only [Nat.one_mul, Nat.add_assoc, Nat.reduceAdd] at d0 d1 d2
  have PK := dH fun W (hW : Below w1.heap.size w1 W) => (show (W.cell? ⟨w.heap.size, 0, none⟩ = some (.slice da ds.length dc) ∧ W.cell? ⟨w.heap.size, 1, none⟩ = some (.int .i64 cop) ∧ W.cell? ⟨w.heap.size, 2, none⟩ = some (.slice sa stores.length sc) ∧ W.cell? ⟨w.heap.size, 3, none⟩ = some (.slice la lost.length lc) ∧ W.cell? ⟨w.heap.size, 4, none⟩ = some (.slice ea eras.length ec) ∧ W.cell? ⟨w.heap.size, 5, none⟩ = some (.int .i64 trim) ∧ W.cell? ⟨w.heap.size, 6, none⟩ = some (.slice wa writers.length wc) ∧ W.cell? ⟨w.heap.size, 7, none⟩ = some (.slice na mends.length nc) ∧ W.cell? ⟨w.heap.size, 8, none⟩ = some (.slice (some ⟨rb, ro, none⟩) readers.length rc') ∧ W.cell? ⟨w.heap.size, 9, none⟩ = some (.slice ta sent.length tc) ∧ W.cell? ⟨w.heap.size, 10, none⟩ = some (.bool false)) ∧ W.cell? ⟨rb, ro, none⟩ = some (.int .i64 r0.epoch) ∧ W.cell? ⟨rb, ro + 1, none⟩ = some (.int .i64 r0.off) ∧ W.cell? ⟨rb, ro + 2, none⟩ = some (.slice aa r0.out.length ac) ∧ W.cell? ⟨rb, ro + 3, none⟩ = some (.int .i64 r1.epoch) ∧ W.cell? ⟨rb, ro + 4, none⟩ = some (.int .i64 r1.off) ∧ W.cell? ⟨rb, ro + 5, none⟩ = some (.slice ba r1.out.length bc) from ⟨⟨(X1.below hW) 0 _ rfl, (X1.below hW) 1 _ rfl, (X1.below hW) 2 _ rfl, (X1.below hW) 3 _ rfl, (X1.below hW) 4 _ rfl, (X1.below hW) 5 _ rfl, (X1.below hW) 6 _ rfl, (X1.below hW) 7 _ rfl, (X1.below hW) 8 _ rfl, (X1.below hW) 9 _ rfl, (X1.below hW) 10 _ rfl⟩, (hW.cell (p := ⟨rb, ro, none⟩) (dCell_lt c0)).trans c0, (hW.cell (p := ⟨rb, ro + 1, none⟩) (dCell_lt c1)).trans c1, (hW.cell (p := ⟨rb, ro + 2, none⟩) (dCell_lt c2)).trans c2, (hW.cell (p := ⟨rb, ro + 3, none⟩) (dCell_lt d0)).trans d0, (hW.cell (p := ⟨rb, ro + 4, none⟩) (dCell_lt d1)).trans d1, (hW.cell (p := ⟨rb, ro + 5, none⟩) (dCell_lt d2)).trans d2⟩)
  have bd : Below w1.heap.size w1 w1.drew := (Below.refl _ _).drew
  have k10 := X1 10 _ rfl
  clear X1 c0 c1 c2 d0 d1 d2
  by_cases hA : agreeP r0 r1 trim
  case neg =>
   have R := dH (show RetB PQ (.returned (.bool false)) from RetB.no fun h => hA ((dU F0).1 h).1)
   clear F0
   go_wp2_with fail
   have hwd := bd
   refine wp_region_noPanic ?_
   refine wp_region_held_drew (S := fun W => (W.cell? ⟨w.heap.size, 0, none⟩ = some (.slice da ds.length dc) ∧ W.cell? ⟨w.heap.size, 1, none⟩ = some (.int .i64 cop) ∧ W.cell? ⟨w.heap.size, 2, none⟩ = some (.slice sa stores.length sc) ∧ W.cell? ⟨w.heap.size, 3, none⟩ = some (.slice la lost.length lc) ∧ W.cell? ⟨w.heap.size, 4, none⟩ = some (.slice ea eras.length ec) ∧ W.cell? ⟨w.heap.size, 5, none⟩ = some (.int .i64 trim) ∧ W.cell? ⟨w.heap.size, 6, none⟩ = some (.slice wa writers.length wc) ∧ W.cell? ⟨w.heap.size, 7, none⟩ = some (.slice na mends.length nc) ∧ W.cell? ⟨w.heap.size, 8, none⟩ = some (.slice (some ⟨rb, ro, none⟩) readers.length rc') ∧ W.cell? ⟨w.heap.size, 9, none⟩ = some (.slice ta sent.length tc) ∧ W.cell? ⟨w.heap.size, 10, none⟩ = some (.bool false)) ∧ W.cell? ⟨rb, ro, none⟩ = some (.int .i64 r0.epoch) ∧ W.cell? ⟨rb, ro + 1, none⟩ = some (.int .i64 r0.off) ∧ W.cell? ⟨rb, ro + 2, none⟩ = some (.slice aa r0.out.length ac) ∧ W.cell? ⟨rb, ro + 3, none⟩ = some (.int .i64 r1.epoch) ∧ W.cell? ⟨rb, ro + 4, none⟩ = some (.int .i64 r1.off) ∧ W.cell? ⟨rb, ro + 5, none⟩ = some (.slice ba r1.out.length bc)) (by kernel_rfl) (by first | exact dU PK _ hwd | exact dU PK _ bd) (fun hHeld => ?_)
   clear bd
   generalize w1.drew = wd at *
   refine tY 0 (v := ?_) rfl (by kernel_rfl) (.inl ⟨by rfl, ?_⟩) ‹_› ?_
   rotate_left 1
   ·intro w hSw
    (try dsimp only at hSw)
    first | (go_simp; done) | (go_simp; with_reducible rfl)
   try simp only [Act.put, sA, sB, sC]
   refine tY 1 (v := ?_) rfl (by kernel_rfl) (.inl ⟨by rfl, ?_⟩) ‹_› ?_
   rotate_left 1
   ·intro w hSw
    (try dsimp only at hSw)
    first | (go_simp; done) | (go_simp; with_reducible rfl)
   try simp only [Act.put, sA, sB, sC]
   refine tY 2 (v := ?_) rfl (by kernel_rfl) (.inl ⟨by rfl, ?_⟩) ‹_› ?_
   rotate_left 1
   ·intro w hSw
    (try dsimp only at hSw)
    first | (go_simp; done) | (go_simp; with_reducible rfl)
   try simp only [Act.put, sA, sB, sC]
   refine tY 3 (v := ?_) rfl (by kernel_rfl) (.inl ⟨by rfl, ?_⟩) ‹_› ?_
   rotate_left 1
   ·intro w hSw
    (try dsimp only at hSw)
    first | (go_simp; done) | (go_simp; with_reducible rfl)
   try simp only [Act.put, sA, sB, sC]
   refine tY 4 (v := ?_) rfl (by kernel_rfl) (.inl ⟨by rfl, ?_⟩) ‹_› ?_
   rotate_left 1
   ·intro w hSw
    (try dsimp only at hSw)
    first | (go_simp; done) | (go_simp; with_reducible rfl)
   try simp only [Act.put, sA, sB, sC]
   refine tY 5 (v := ?_) rfl (by kernel_rfl) (.inl ⟨by rfl, ?_⟩) ‹_› ?_
   rotate_left 1
   ·intro w hSw
    (try dsimp only at hSw)
    first | (go_simp; done) | (go_simp; with_reducible rfl)
   try simp only [Act.put, sA, sB, sC]
   refine tY 6 (v := ?_) rfl (by kernel_rfl) (.inl ⟨by rfl, ?_⟩) ‹_› ?_
   rotate_left 1
   ·intro w hSw
    (try dsimp only at hSw)
    first | (go_simp; done) | (go_simp; with_reducible rfl)
   try simp only [Act.put, sA, sB, sC]
   refine tY 7 (v := ?_) rfl (by kernel_rfl) (.inl ⟨by rfl, ?_⟩) ‹_› ?_
   rotate_left 1
   ·intro w hSw
    (try dsimp only at hSw)
    first | (go_simp; done) | (go_simp; with_reducible rfl)
   try simp only [Act.put, sA, sB, sC]
   refine tY 8 (v := ?_) rfl (by kernel_rfl) (.inl ⟨by rfl, ?_⟩) ‹_› ?_
   rotate_left 1
   ·intro w hSw
    (try dsimp only at hSw)
    first | (go_simp; done) | (go_simp; with_reducible rfl)
   try simp only [Act.put, sA, sB, sC]
   refine tY 9 (v := ?_) rfl (by kernel_rfl) (.inl ⟨by rfl, ?_⟩) ‹_› ?_
   rotate_left 1
   ·intro w hSw
    (try dsimp only at hSw)
    first | (go_simp; done) | (go_simp; with_reducible rfl)
   try simp only [Act.put, sA, sB, sC]
   refine tY 10 (v := ?_) rfl (by kernel_rfl) (.inl ⟨by rfl, ?_⟩) ‹_› ?_
   rotate_left 1
   ·intro w hSw
    (try dsimp only at hSw)
    first | (go_simp; done) | (go_simp; with_reducible rfl)
   try simp only [Act.put, sA, sB, sC]
   refine tY 11 (v := ?_) rfl (by kernel_rfl) (.inl ⟨by rfl, ?_⟩) ‹_› ?_
   rotate_left 1
   ·intro w hSw
    (try dsimp only at hSw)
    first | (go_simp; done) | (go_simp; with_reducible rfl)
   try simp only [Act.put, sA, sB, sC]
   refine wpAnyH_ready (rs := [12]) (by kernel_rfl) (by simp) ?_
   refine rC rfl (fun K hK => ?_) AllReadyH.nil
   go_simp
   refine (dU C1 wd hwd).mono ?_
   rintro e wd' ⟨⟨b8, rfl, h8⟩, bl9⟩
   obtain rfl : b8 = false := by cases b8; rfl; exact absurd (h8.1 rfl) hA
   clear h8
   replace hwd := bT hwd bl9
   clear bl9
   generalize wd' = wd at *
   (try go_wp2_with fail)
   refine hK.out _ _ (by first | exact dU PK _ hwd | exact dU PK _ bd) (fun hHeld => ?_)
   clear hK K
   try simp only [Act.put, sA, sB, sC]
   refine tY 13 (v := ?_) rfl (by kernel_rfl) (.inl ⟨by rfl, ?_⟩) ‹_› ?_
   rotate_left 1
   ·intro w hSw
    (try dsimp only at hSw)
    first | (go_simp; done) | (go_simp; with_reducible rfl)
   try simp only [Act.put, sA, sB, sC]
   refine tY 14 rfl (by kernel_rfl) (.inr ⟨by rfl, rfl⟩) ‹_› ?_
   try simp only [Act.put, sA, sB, sC]
   refine tY 15 rfl (by kernel_rfl) (.inr ⟨by rfl, rfl⟩) ‹_› ?_
   try simp only [Act.put, sA, sB, sC]
   refine tY 16 rfl (by kernel_rfl) (.inr ⟨by rfl, rfl⟩) ‹_› ?_
   try simp only [Act.put, sA, sB, sC]
   refine tY 17 rfl (by kernel_rfl) (.inr ⟨by rfl, rfl⟩) ‹_› ?_
   try simp only [Act.put, sA, sB, sC]
   refine tY 18 rfl (by kernel_rfl) (.inr ⟨by rfl, rfl⟩) ‹_› ?_
   try simp only [Act.put, sA, sB, sC]
   refine tY 19 rfl (by kernel_rfl) (.inr ⟨by rfl, rfl⟩) ‹_› ?_
   try simp only [Act.put, sA, sB, sC]
   refine tY 20 rfl (by kernel_rfl) (.inr ⟨by rfl, rfl⟩) ‹_› ?_
   try simp only [Act.put, sA, sB, sC]
   refine tY 21 rfl (by kernel_rfl) (.inr ⟨by rfl, rfl⟩) ‹_› ?_
   try simp only [Act.put, sA, sB, sC]
   refine tY 22 rfl (by kernel_rfl) (.inr ⟨by rfl, rfl⟩) ‹_› ?_
   try simp only [Act.put, sA, sB, sC]
   refine tY 23 rfl (by kernel_rfl) (.inr ⟨by rfl, rfl⟩) ‹_› ?_
   try simp only [Act.put, sA, sB, sC]
   refine tY 24 (v := ?_) rfl (by kernel_rfl) (.inl ⟨by rfl, ?_⟩) ‹_› ?_
   rotate_left 1
   ·intro w hSw
    (try dsimp only at hSw)
    first | (go_simp; done) | (go_simp; with_reducible rfl)
   try simp only [Act.put, sA, sB, sC]
   refine tY 25 (v := ?_) rfl (by kernel_rfl) (.inl ⟨by rfl, ?_⟩) ‹_› ?_
   rotate_left 1
   ·intro w hSw
    (try dsimp only at hSw)
    first | (go_simp; done) | (go_simp; with_reducible rfl)
   try simp only [Act.put, sA, sB, sC]
   refine tY 26 (v := ?_) rfl (by kernel_rfl) (.inl ⟨by rfl, ?_⟩) ‹_› ?_
   rotate_left 1
   ·intro w hSw
    (try dsimp only at hSw)
    first | (go_simp; done) | (go_simp; with_reducible rfl)
   try simp only [Act.put, sA, sB, sC]
   refine wpAnyH_done (by kernel_rfl) ?_ _
   refine NoPanic.normal ?_
   have BF := bT (dU B1) hwd
   clear PK C1 C2
   go_wp2
   go_ret
   exact ⟨dU R, BF⟩
  case pos =>
   go_wp2_with fail
   have hwd := bd
   refine wp_region_noPanic ?_
   refine wp_region_held_drew (S := fun W => (W.cell? ⟨w.heap.size, 0, none⟩ = some (.slice da ds.length dc) ∧ W.cell? ⟨w.heap.size, 1, none⟩ = some (.int .i64 cop) ∧ W.cell? ⟨w.heap.size, 2, none⟩ = some (.slice sa stores.length sc) ∧ W.cell? ⟨w.heap.size, 3, none⟩ = some (.slice la lost.length lc) ∧ W.cell? ⟨w.heap.size, 4, none⟩ = some (.slice ea eras.length ec) ∧ W.cell? ⟨w.heap.size, 5, none⟩ = some (.int .i64 trim) ∧ W.cell? ⟨w.heap.size, 6, none⟩ = some (.slice wa writers.length wc) ∧ W.cell? ⟨w.heap.size, 7, none⟩ = some (.slice na mends.length nc) ∧ W.cell? ⟨w.heap.size, 8, none⟩ = some (.slice (some ⟨rb, ro, none⟩) readers.length rc') ∧ W.cell? ⟨w.heap.size, 9, none⟩ = some (.slice ta sent.length tc) ∧ W.cell? ⟨w.heap.size, 10, none⟩ = some (.bool false)) ∧ W.cell? ⟨rb, ro, none⟩ = some (.int .i64 r0.epoch) ∧ W.cell? ⟨rb, ro + 1, none⟩ = some (.int .i64 r0.off) ∧ W.cell? ⟨rb, ro + 2, none⟩ = some (.slice aa r0.out.length ac) ∧ W.cell? ⟨rb, ro + 3, none⟩ = some (.int .i64 r1.epoch) ∧ W.cell? ⟨rb, ro + 4, none⟩ = some (.int .i64 r1.off) ∧ W.cell? ⟨rb, ro + 5, none⟩ = some (.slice ba r1.out.length bc)) (by kernel_rfl) (by first | exact dU PK _ hwd | exact dU PK _ bd) (fun hHeld => ?_)
   clear bd
   generalize w1.drew = wd at *
   refine tY 0 (v := ?_) rfl (by kernel_rfl) (.inl ⟨by rfl, ?_⟩) ‹_› ?_
   rotate_left 1
   ·intro w hSw
    (try dsimp only at hSw)
    first | (go_simp; done) | (go_simp; with_reducible rfl)
   try simp only [Act.put, sA, sB, sC]
   refine tY 1 (v := ?_) rfl (by kernel_rfl) (.inl ⟨by rfl, ?_⟩) ‹_› ?_
   rotate_left 1
   ·intro w hSw
    (try dsimp only at hSw)
    first | (go_simp; done) | (go_simp; with_reducible rfl)
   try simp only [Act.put, sA, sB, sC]
   refine tY 2 (v := ?_) rfl (by kernel_rfl) (.inl ⟨by rfl, ?_⟩) ‹_› ?_
   rotate_left 1
   ·intro w hSw
    (try dsimp only at hSw)
    first | (go_simp; done) | (go_simp; with_reducible rfl)
   try simp only [Act.put, sA, sB, sC]
   refine tY 3 (v := ?_) rfl (by kernel_rfl) (.inl ⟨by rfl, ?_⟩) ‹_› ?_
   rotate_left 1
   ·intro w hSw
    (try dsimp only at hSw)
    first | (go_simp; done) | (go_simp; with_reducible rfl)
   try simp only [Act.put, sA, sB, sC]
   refine tY 4 (v := ?_) rfl (by kernel_rfl) (.inl ⟨by rfl, ?_⟩) ‹_› ?_
   rotate_left 1
   ·intro w hSw
    (try dsimp only at hSw)
    first | (go_simp; done) | (go_simp; with_reducible rfl)
   try simp only [Act.put, sA, sB, sC]
   refine tY 5 (v := ?_) rfl (by kernel_rfl) (.inl ⟨by rfl, ?_⟩) ‹_› ?_
   rotate_left 1
   ·intro w hSw
    (try dsimp only at hSw)
    first | (go_simp; done) | (go_simp; with_reducible rfl)
   try simp only [Act.put, sA, sB, sC]
   refine tY 6 (v := ?_) rfl (by kernel_rfl) (.inl ⟨by rfl, ?_⟩) ‹_› ?_
   rotate_left 1
   ·intro w hSw
    (try dsimp only at hSw)
    first | (go_simp; done) | (go_simp; with_reducible rfl)
   try simp only [Act.put, sA, sB, sC]
   refine tY 7 (v := ?_) rfl (by kernel_rfl) (.inl ⟨by rfl, ?_⟩) ‹_› ?_
   rotate_left 1
   ·intro w hSw
    (try dsimp only at hSw)
    first | (go_simp; done) | (go_simp; with_reducible rfl)
   try simp only [Act.put, sA, sB, sC]
   refine tY 8 (v := ?_) rfl (by kernel_rfl) (.inl ⟨by rfl, ?_⟩) ‹_› ?_
   rotate_left 1
   ·intro w hSw
    (try dsimp only at hSw)
    first | (go_simp; done) | (go_simp; with_reducible rfl)
   try simp only [Act.put, sA, sB, sC]
   refine tY 9 (v := ?_) rfl (by kernel_rfl) (.inl ⟨by rfl, ?_⟩) ‹_› ?_
   rotate_left 1
   ·intro w hSw
    (try dsimp only at hSw)
    first | (go_simp; done) | (go_simp; with_reducible rfl)
   try simp only [Act.put, sA, sB, sC]
   refine tY 10 (v := ?_) rfl (by kernel_rfl) (.inl ⟨by rfl, ?_⟩) ‹_› ?_
   rotate_left 1
   ·intro w hSw
    (try dsimp only at hSw)
    first | (go_simp; done) | (go_simp; with_reducible rfl)
   try simp only [Act.put, sA, sB, sC]
   refine tY 11 (v := ?_) rfl (by kernel_rfl) (.inl ⟨by rfl, ?_⟩) ‹_› ?_
   rotate_left 1
   ·intro w hSw
    (try dsimp only at hSw)
    first | (go_simp; done) | (go_simp; with_reducible rfl)
   try simp only [Act.put, sA, sB, sC]
   refine wpAnyH_ready (rs := [12]) (by kernel_rfl) (by simp) ?_
   refine rC rfl (fun K hK => ?_) AllReadyH.nil
   go_simp
   refine (dU C1 wd hwd).mono ?_
   rintro e wd' ⟨⟨b8, rfl, h8⟩, bl9⟩
   obtain rfl : b8 = true := h8.2 hA
   clear h8
   replace hwd := bT hwd bl9
   clear bl9
   generalize wd' = wd at *
   (try go_wp2_with fail)
   refine hK.out _ _ (by first | exact dU PK _ hwd | exact dU PK _ bd) (fun hHeld => ?_)
   clear hK K
   try simp only [Act.put, sA, sB, sC]
   refine tY 13 (v := ?_) rfl (by kernel_rfl) (.inl ⟨by rfl, ?_⟩) ‹_› ?_
   rotate_left 1
   ·intro w hSw
    (try dsimp only at hSw)
    first | (go_simp; done) | (go_simp; with_reducible rfl)
   try simp only [Act.put, sA, sB, sC]
   refine tY 14 (v := ?_) rfl (by kernel_rfl) (.inl ⟨by rfl, ?_⟩) ‹_› ?_
   rotate_left 1
   ·intro w hSw
    (try dsimp only at hSw)
    first | (go_simp; done) | (go_simp; with_reducible rfl)
   try simp only [Act.put, sA, sB, sC]
   refine tY 15 (v := ?_) rfl (by kernel_rfl) (.inl ⟨by rfl, ?_⟩) ‹_› ?_
   rotate_left 1
   ·intro w hSw
    (try dsimp only at hSw)
    first | (go_simp; done) | (go_simp; with_reducible rfl)
   try simp only [Act.put, sA, sB, sC]
   refine tY 16 (v := ?_) rfl (by kernel_rfl) (.inl ⟨by rfl, ?_⟩) ‹_› ?_
   rotate_left 1
   ·intro w hSw
    (try dsimp only at hSw)
    first | (go_simp; done) | (go_simp; with_reducible rfl)
   try simp only [Act.put, sA, sB, sC]
   refine tY 17 (v := ?_) rfl (by kernel_rfl) (.inl ⟨by rfl, ?_⟩) ‹_› ?_
   rotate_left 1
   ·intro w hSw
    (try dsimp only at hSw)
    first | (go_simp; done) | (go_simp; with_reducible rfl)
   try simp only [Act.put, sA, sB, sC]
   refine tY 18 (v := ?_) rfl (by kernel_rfl) (.inl ⟨by rfl, ?_⟩) ‹_› ?_
   rotate_left 1
   ·intro w hSw
    (try dsimp only at hSw)
    first | (go_simp; done) | (go_simp; with_reducible rfl)
   try simp only [Act.put, sA, sB, sC]
   refine tY 19 (v := ?_) rfl (by kernel_rfl) (.inl ⟨by rfl, ?_⟩) ‹_› ?_
   rotate_left 1
   ·intro w hSw
    (try dsimp only at hSw)
    first | (go_simp; done) | (go_simp; with_reducible rfl)
   try simp only [Act.put, sA, sB, sC]
   refine tY 20 (v := ?_) rfl (by kernel_rfl) (.inl ⟨by rfl, ?_⟩) ‹_› ?_
   rotate_left 1
   ·intro w hSw
    (try dsimp only at hSw)
    first | (go_simp; done) | (go_simp; with_reducible rfl)
   try simp only [Act.put, sA, sB, sC]
   refine tY 21 (v := ?_) rfl (by kernel_rfl) (.inl ⟨by rfl, ?_⟩) ‹_› ?_
   rotate_left 1
   ·intro w hSw
    (try dsimp only at hSw)
    first | (go_simp; done) | (go_simp; with_reducible rfl)
   try simp only [Act.put, sA, sB, sC]
   refine tY 22 (v := ?_) rfl (by kernel_rfl) (.inl ⟨by rfl, ?_⟩) ‹_› ?_
   rotate_left 1
   ·intro w hSw
    (try dsimp only at hSw)
    first | (go_simp; done) | (go_simp; with_reducible rfl)
   try simp only [Act.put, sA, sB, sC]
   refine wpAnyH_ready (rs := [23]) (by kernel_rfl) (by simp) ?_
   refine rC rfl (fun K hK => ?_) AllReadyH.nil
   go_simp
   refine (dU C2 wd hwd).mono ?_
   rintro e wd' ⟨⟨b9, rfl, h9⟩, bl9⟩
   replace h9 := dH h9
   replace hwd := bT hwd bl9
   clear bl9
   generalize wd' = wd at *
   (try go_wp2_with fail)
   refine hK.out _ _ (by first | exact dU PK _ hwd | exact dU PK _ bd) (fun hHeld => ?_)
   clear hK K
   try simp only [Act.put, sA, sB, sC]
   refine tY 24 (v := ?_) rfl (by kernel_rfl) (.inl ⟨by rfl, ?_⟩) ‹_› ?_
   rotate_left 1
   ·intro w hSw
    (try dsimp only at hSw)
    first | (go_simp; done) | (go_simp; with_reducible rfl)
   try simp only [Act.put, sA, sB, sC]
   refine tY 25 (v := ?_) rfl (by kernel_rfl) (.inl ⟨by rfl, ?_⟩) ‹_› ?_
   rotate_left 1
   ·intro w hSw
    (try dsimp only at hSw)
    first | (go_simp; done) | (go_simp; with_reducible rfl)
   try simp only [Act.put, sA, sB, sC]
   refine tY 26 (v := ?_) rfl (by kernel_rfl) (.inl ⟨by rfl, ?_⟩) ‹_› ?_
   rotate_left 1
   ·intro w hSw
    (try dsimp only at hSw)
    first | (go_simp; done) | (go_simp; with_reducible rfl)
   try simp only [Act.put, sA, sB, sC]
   refine wpAnyH_done (by kernel_rfl) ?_ _
   refine NoPanic.normal ?_
   have BF := bT (dU B1) hwd
   have R := dH (show RetB PQ (.returned (.bool b9)) from ⟨b9, rfl, (dU h9).trans ⟨fun h => (dU F0).2 ⟨hA, h⟩, fun h => ((dU F0).1 h).2⟩⟩)
   clear PK C1 C2 h9 F0
   cases b9
   all_goals
    go_wp2
    go_ret
    exact ⟨dU R, BF⟩
theorem sameL_any (bx : Nat) (rv : Value) (l : List Rr) (tr : Int) (w : World) (hc : w.cell? ⟨bx, 8, none⟩ = some rv) (hc5 : w.cell? ⟨bx, 5, none⟩ = some (.int .i64 tr)) (hr : RdReaderS rv l w) (h2 : l.length = 2) (hs : ∀ r ∈ l, r.out.length ≤ 1048576 ∧ plsR r ∧ smallR r) :
  Calls Tryz.prog 127 #[.pointer (some ⟨bx, 0, none⟩)] w fun e w' => RetB (samR l tr) e ∧ Below w.heap.size w w' := by
 match l, h2, hr, hs with
 | [a, b], _, hr, hs =>
  have ha := hs a (by simp)
  have hb := hs b (by simp)
  exact (sameC_any bx rv a b tr w hc hc5 hr ha.2.2 hb.2.2 ha.1 hb.1 ha.2.1 hb.2.1).mono fun e w' ⟨h1, h2⟩ => ⟨h1.to_iff ⟨fun q => ⟨a, b, rfl, q⟩, fun ⟨a', b', e, q⟩ => by cases e; exact q⟩, h2⟩
theorem judgeSame1 (w : World) (m : Wo) (ok : okWorld m) (hs : sizWorld m ≤ 1048576) (h : woP m) : Judge1 w m ⟨#[115, 97, 109, 101]⟩ (m.torn = true ∨ samR m.readers m.reg.trim) := fun W bx b mb hb hc hm ⟨c5, rv, tv, c8, c9, hr, ht⟩ => by
 have hrl : ∀ r ∈ m.readers, r.out.length ≤ 1048576 := fun r hr => rrOut_le (by unfold sizWorld at hs; omega) hr
 have C := sameL_any bx rv m.readers m.reg.trim W c8 c5 hr h.2.2.1.1 (fun r hr => ⟨hrl r hr, plsOf ok r hr, smallOf h r hr⟩)
 cases ht' : m.torn with
 | false =>
  rw [ht'] at hm
  exact (judged1_found ⟨#[115, 97, 109, 101]⟩ mb b 5 4 127 _ _ _ W (by intro args w; rfl) hc hm (by kernel_rfl) C).mono fun e w' ⟨h1, h2⟩ => ⟨h1.to_iff ⟨.inr, fun q => q.resolve_left (by simp)⟩, h2⟩
 | true =>
  rw [ht'] at hm
  exact (judged1_none ⟨#[115, 97, 109, 101]⟩ mb b 5 _ W hc hm (by kernel_rfl)).mono fun e w' ⟨h1, h2⟩ => ⟨h1.to_iff ⟨fun _ => .inl rfl, fun _ => trivial⟩, h2⟩
theorem judgedSame_any (v nv' : Value) (m : Wo) (w : World) (ok : okWorld m) (hs : sizWorld m ≤ 1048576) (hv : RdWorld v m w) (hn : Txs w nv' [⟨#[115, 97, 109, 101]⟩]) :
  Calls Tryz.prog 42 #[v, nv'] w fun e w' => RetB (sameP m) e ∧ Below w.heap.size w w' :=
 (judgedG_any v nv' m [⟨#[115, 97, 109, 101]⟩] (fun _ => m.torn = true ∨ samR m.readers m.reg.trim) w ok hs hv hn fun h z hz => by
  obtain rfl : z = ⟨#[115, 97, 109, 101]⟩ := by simpa using hz
  exact judgeSame1 w m ok hs h).mono fun e w' ⟨h1, h2⟩ => ⟨h1.to_iff ⟨fun h => ⟨h.1, h.2 ⟨#[115, 97, 109, 101]⟩ (by simp)⟩, fun h => ⟨h.1, fun _ _ => h.2⟩⟩, h2⟩
set_option maxHeartbeats 4000000 in
theorem implSame_any (v : Value) (m : Wo) (w : World) (ok : okWorld m) (hs : sizWorld m ≤ 1048576) (hv : RdWorld v m w) :
  Calls Tryz.prog 21 #[v] w fun e w' => RetB (sameP m) e ∧ Below w.heap.size w w' := by
 have CJ := dH fun W (hb : Below w.heap.size w W) nv' (hn : Txs W nv' [⟨#[115, 97, 109, 101]⟩]) => judgedSame_any v nv' m W ok hs (hv.below hb) hn
 obtain ⟨da, dc, sa, sc, la, lc, ea, ec, wa, wc, na, nc, ra, rc', ta, tc, rfl, hd, hst, hlo, hre, hwr, hme, hrd, hse⟩ := partsWorld hv
 clear hd hst hlo hre hwr hme hse hs ok hrd hv
 generalize sameP m = PQ at *
 obtain ⟨⟨ds, cop⟩, stores, lost, ⟨eras, trim⟩, writers, mends, readers, sent, torn⟩ := m
 simp only at *
 have B0 : Below w.heap.size w (w.alloc (.cells #[.slice da ds.length dc, .int .i64 cop, .slice sa stores.length sc, .slice la lost.length lc, .slice ea eras.length ec, .int .i64 trim, .slice wa writers.length wc, .slice na mends.length nc, .slice ra readers.length rc', .slice ta sent.length tc, .bool torn] 47)) := (Below.refl _ _).alloc (Nat.le_refl _) _
 have es : (w.alloc (.cells #[.slice da ds.length dc, .int .i64 cop, .slice sa stores.length sc, .slice la lost.length lc, .slice ea eras.length ec, .int .i64 trim, .slice wa writers.length wc, .slice na mends.length nc, .slice ra readers.length rc', .slice ta sent.length tc, .bool torn] 47)).heap.size = w.heap.size + 1 := by simp
 have N1 := names1 (w.alloc (.cells #[.slice da ds.length dc, .int .i64 cop, .slice sa stores.length sc, .slice la lost.length lc, .slice ea eras.length ec, .int .i64 trim, .slice wa writers.length wc, .slice na mends.length nc, .slice ra readers.length rc', .slice ta sent.length tc, .bool torn] 47)) ⟨#[115, 97, 109, 101]⟩
 rw [es] at N1
 replace N1 := dH N1
 have B1 := dH (bT B0 ((Below.refl _ _).alloc (Nat.le_refl _) (.cells #[.string ⟨#[115, 97, 109, 101]⟩] 9)))
 clear es B0
 go_enter Tryz.func21, Tryz.ntmps21
 go_wp2_with fail
 refine (dU CJ _ (dU B1) _ (dU N1)).mono ?_
 rintro e w1 ⟨⟨q, rfl, h⟩, b1⟩
 have R := dH (show RetB PQ (.returned (.bool q)) from ⟨q, rfl, h⟩)
 have B2 := bT (dU B1) b1
 clear CJ h b1 B1 N1
 cases q
 all_goals
  go_wp2
  go_ret
  exact ⟨dU R, B2⟩
theorem bothJudgeSame_ (m0 : Wo) (ok0 : okWorld m0) (hs0 : sizWorld m0 ≤ 1048576) : ∃ (s0 : Bool), (∀ W v0, RdWorld v0 m0 W → Calls Tryz.prog 20 #[v0] W fun e w' => e = .returned (.bool s0) ∧ Below W.heap.size W w') ∧ (∀ W v0, RdWorld v0 m0 W → Calls Tryz.prog 21 #[v0] W fun e w' => e = .returned (.bool s0) ∧ Below W.heap.size W w') :=
 ⟨bq (sameP m0), fun W v0 h => (specSame_any v0 m0 W ok0 hs0 h).mono fun e w' ⟨h1, h2⟩ => ⟨h1.bq, h2⟩, fun W v0 h => (implSame_any v0 m0 W ok0 hs0 h).mono fun e w' ⟨h1, h2⟩ => ⟨h1.bq, h2⟩⟩
end Go.Proofs.YtekgkjomdpjkbaaGreat
