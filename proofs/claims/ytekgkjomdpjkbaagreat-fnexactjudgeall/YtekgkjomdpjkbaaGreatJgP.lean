/- spec's JudgeKept (tools/mkjgp.py). -/
import Derived.Test.YtekgkjomdpjkbaaGreatGz22
import Derived.Test.YtekgkjomdpjkbaaGreatGk8
import Derived.Deep.RegionHeld3
import Derived.Deep.DeepCutAuto
namespace Go.Proofs.YtekgkjomdpjkbaaGreat
open Go.ChangeShapes Go.WideShapes Go.ChangeAt Go.RowKit
set_option linter.unusedVariables false
set_option linter.unusedSimpArgs false
set_option maxRecDepth 100000

def keptP (m : Wo) : Prop := woP m ∧ (m.torn = true ∨ ∀ r ∈ m.readers, keptR m.sent m.reg.trim r)
theorem smallOf {m : Wo} (h : woP m) : ∀ r ∈ m.readers, smallR r := fun r hr => by
 have := h.2.2.1.2 r hr
 unfold rrP at this
 unfold smallR
 omega
theorem plsOf {m : Wo} (h : okWorld m) : ∀ r ∈ m.readers, plsR r := fun r hr e he => ((h.2.2.2.2.2.2.1 r hr).2.2 e he).2.1
theorem keptE_tale (r : Rr) (tr : Int) (s : Se) : keptE r tr s ↔ (s.sure = true → tr < s.pl → s.pl < plN r → (taleM r.out s.pl).isSome = true) := by
 unfold keptE
 rw [tale_talesR, Option.isSome_map]
set_option maxHeartbeats 16000000 in
theorem specKept_any (v : Value) (m : Wo) (w : World) (ok : okWorld m) (hs : sizWorld m ≤ 1048576) (hv : RdWorld v m w) :
  Calls Tryz.prog 16 #[v] w fun e w' => RetB (keptP m) e ∧ Below w.heap.size w w' := by
 have ba' : ∀ (w : World) o, Below w.heap.size w (w.alloc o) := fun w o => (Below.refl _ _).alloc (Nat.le_refl _) o
 have CW := dH fun W (hb : Below w.heap.size w W) => specWorldOk_any v m W ok hs (hv.below hb)
 obtain ⟨da, dc, sa, sc, la, lc, ea, ec, wa, wk, na, nc, ra, rc', ta, tc, rfl, hd, hst, hlo, hre, hwr, hme, hrd, hse⟩ := partsWorld hv
 clear hd hst hlo hre hwr hme hs ok
 have HR := dH fun W (hb : Below w.heap.size w W) => RdReaderS.below hrd hb
 have HS := dH fun W (hb : Below w.heap.size w W) => RdSentS.below hse hb
 have hsl := hse.1
 clear hrd hv hse
 have WP : Hid (keptP m ↔ woP m ∧ (m.torn = true ∨ ∀ r ∈ m.readers, keptR m.sent m.reg.trim r)) := Iff.rfl
 have WL : Hid (woP m → m.readers.length = 2) := fun h => h.2.2.1.1
 have WS : Hid (woP m → ∀ r ∈ m.readers, smallR r) := fun h => smallOf h
 generalize woP m = PW at *
 generalize keptP m = PQ at *
 obtain ⟨⟨ds, cop⟩, stores, lost, ⟨eras, trim⟩, writers, mends, readers, sent, torn⟩ := m
 simp only at *
 have B0 : Below w.heap.size w (w.alloc (.cells #[.slice da ds.length dc, .int .i64 cop, .slice sa stores.length sc, .slice la lost.length lc, .slice ea eras.length ec, .int .i64 trim, .slice wa writers.length wk, .slice na mends.length nc, .slice ra readers.length rc', .slice ta sent.length tc, .bool torn] 47)) := (Below.refl _ _).alloc (Nat.le_refl _) _
 have X0 := Bx.new w [.slice da ds.length dc, .int .i64 cop, .slice sa stores.length sc, .slice la lost.length lc, .slice ea eras.length ec, .int .i64 trim, .slice wa writers.length wk, .slice na mends.length nc, .slice ra readers.length rc', .slice ta sent.length tc, .bool torn] 47
 go_enter Tryz.func16, Tryz.ntmps16
 go_wp2_with fail
 generalize w.alloc (.cells #[.slice da ds.length dc, .int .i64 cop, .slice sa stores.length sc, .slice la lost.length lc, .slice ea eras.length ec, .int .i64 trim, .slice wa writers.length wk, .slice na mends.length nc, .slice ra readers.length rc', .slice ta sent.length tc, .bool torn] 47) = w0 at *
 refine (dU CW _ B0).mono ?_
 rintro e w1 ⟨⟨q, rfl, hq⟩, b1⟩
 have B1 := dH (bT B0 b1)
 have X1 := X0.below b1
 cases q
 ·have R := dH (show RetB PQ (.returned (.bool false)) from RetB.no fun h => by have := hq.2 ((dU WP).1 h).1; cases this)
  clear hq CW b1 X0 B0 HR HS WP X1 WL WS
  go_wp2
  go_ret
  exact ⟨dU R, dU B1⟩
 have HQ := dH (hq.1 rfl)
 have HL := dH (dU WL (hq.1 rfl))
 have HM := dH (dU WS (hq.1 rfl))
 clear hq CW b1 X0 B0 WL WS
 have k10 := X1 10 _ rfl
 have k8 := X1 8 _ rfl
 cases torn
 case true =>
  have R := dH (show RetB PQ (.returned (.bool true)) from RetB.yes ((dU WP).2 ⟨dU HQ, .inl rfl⟩))
  clear WP HQ HL HR HS HM X1
  go_wp2
  go_rounds 1
  go_ret
  exact ⟨dU R, dU B1⟩
 case false =>
  have RY : Hid ((∀ i (h : i < readers.length), keptR sent trim readers[i]) → RetB PQ (.returned (.bool true))) := fun h => RetB.yes ((dU WP).2 ⟨dU HQ, .inr fun r hr => by obtain ⟨i, hi, rfl⟩ := List.getElem_of_mem hr; exact h i hi⟩)
  have RN : Hid (∀ i (h : i < readers.length) j (h' : j < sent.length), ¬ keptE readers[i] trim sent[j] → RetB PQ (.returned (.bool false))) := fun i h j h' hn => RetB.no fun q => by
   rcases ((dU WP).1 q).2 with q | q
   ·cases q
   ·exact hn (q _ (List.getElem_mem h) _ (List.getElem_mem h'))
  clear WP HQ
  clear k10 k8
  have k10 := X1 10 _ rfl
  go_wp2
  go_loopw [3] (fun x wr => ∃ k : Nat, x = .int .i64 (k : Int) ∧ k ≤ 2 ∧ Hid (∀ i (h : i < readers.length), i < k → keptR sent trim readers[i]) ∧ Below w1.heap.size w1 wr) (fun x _ => 2 - (intOf x).toNat)
  case atStart => exact ⟨0, rfl, by omega, fun i h h' => by omega, Below.refl _ _⟩
  case round =>
   obtain ⟨k, rfl, hk, hinv, hbo⟩ := hrel
   clear k10
   have k10 := (X1.below hbo) 10 _ rfl
   have k9 := (X1.below hbo) 9 _ rfl
   by_cases hlt : (k : Int) < 2
   ·have hkl : k < readers.length := by rw [dU HL]; omega
    have hin : (k : Int) < (readers.length : Int) := by omega
    have HI : Hid ((∀ j (h : j < sent.length), keptE readers[k] trim sent[j]) → ∀ i (h : i < readers.length), i < k + 1 → keptR sent trim readers[i]) := fun hh i h hi => by
     by_cases e : i = k
     ·subst e
      intro z hz
      obtain ⟨j, hj, rfl⟩ := List.getElem_of_mem hz
      exact hh j hj
     ·exact dU hinv i h (by omega)
    have HNN : Hid (∀ j (h' : j < sent.length), ¬ keptE readers[k] trim sent[j] → RetB PQ (.returned (.bool false))) := fun j h' e => dU RN k hkl j h' e
    have RA : Hid (∀ W, Below w.heap.size w W → ∃ b off sv, ra = some ⟨b, off, none⟩ ∧ W.cell? ⟨b, off + k * 3, none⟩ = some (.int .i64 readers[k].epoch) ∧ W.cell? ⟨b, off + k * 3 + 1, none⟩ = some (.int .i64 readers[k].off) ∧ W.cell? ⟨b, off + k * 3 + 2, none⟩ = some sv ∧ RdReader (.agg #[.int .i64 readers[k].epoch, .int .i64 readers[k].off, sv]) readers[k] W) := fun W hW => readerIn (dU HR W hW) hkl
    have SM := dH (dU HM _ (List.getElem_mem hkl))
    clear hinv
    generalize readers[k] = rd at *
    go_wp2
    go_loopw [4] (fun y wy => ∃ j : Nat, y = .int .i64 (j : Int) ∧ j ≤ sent.length ∧ Hid (∀ i (h : i < sent.length), i < j → keptE rd trim sent[i]) ∧ Below w1.heap.size w1 wy) (fun y _ => sent.length - (intOf y).toNat)
    case atStart => exact ⟨0, rfl, by omega, fun i h h' => by omega, hbo⟩
    case round =>
     obtain ⟨j, rfl, hj, hjn, hby⟩ := hrel
     have Bw := bT (dU B1) hby
     have XX := X1.below hby
     clear k9 k10
     have k9 := XX 9 _ rfl
     by_cases hlj : (j : Int) < (sent.length : Int)
     ·have hjl : j < sent.length := by omega
      obtain ⟨eb, eo, rfl, he⟩ := Rw.atSe (dU HS wr Bw) hjl
      obtain ⟨g0, g1, g2⟩ := he j hjl
      have H2 : Hid (keptE rd trim sent[j] → ∀ i (h : i < sent.length), i < j + 1 → keptE rd trim sent[i]) := fun hh i h hi => by
       by_cases e : i = j
       ·subst e; exact hh
       ·exact dU hjn i h (by omega)
      have HNJ := dH (dU HNN j hjl)
      have KT := dH (keptE_tale rd trim sent[j])
      clear he hjn HNN HI RY RN
      generalize sent[j] = s at *
      obtain ⟨s0, s1, s2⟩ := s
      simp only at g0 g1 g2 KT
      generalize keptE rd trim ⟨s0, s1, s2⟩ = KE at *
      have bz := ba' wr (.cells #[.int .i64 s0, .string s1, .bool s2] 84)
      have XS := Bx.new wr [.int .i64 s0, .string s1, .bool s2] 84
      have hbz := bT hby bz
      have XW := XX.below bz
      obtain ⟨rb, ro, sv, rfl, r0', r1', r2', hrv⟩ := dU RA _ (bT (dU B1) hbz)
      clear RA HR HS HM
      have CT := dH fun W (hW : Below (wr.alloc (.cells #[.int .i64 s0, .string s1, .bool s2] 84)).heap.size (wr.alloc (.cells #[.int .i64 s0, .string s1, .bool s2] 84)) W) => told_any _ rd s0 W (hrv.below hW)
      have CP0 := dH fun W (hW : Below (wr.alloc (.cells #[.int .i64 s0, .string s1, .bool s2] 84)).heap.size (wr.alloc (.cells #[.int .i64 s0, .string s1, .bool s2] 84)) W) => specPassed_any _ rd s0 W (hrv.below hW) (dU SM)
      obtain ⟨sv', esv, hes⟩ := hrv
      simp only [Value.agg.injEq] at esv
      obtain rfl : sv = sv' := by simpa using esv
      obtain ⟨ua, uc, rfl, hul⟩ := formEventS hes
      have RC := dH fun W (hW : Below (wr.alloc (.cells #[.int .i64 s0, .string s1, .bool s2] 84)).heap.size (wr.alloc (.cells #[.int .i64 s0, .string s1, .bool s2] 84)) W) => And.intro ((hW.cell (p := ⟨rb, ro + k * 3, none⟩) (dCell_lt r0')).trans r0') (And.intro ((hW.cell (p := ⟨rb, ro + k * 3 + 1, none⟩) (dCell_lt r1')).trans r1') ((hW.cell (p := ⟨rb, ro + k * 3 + 2, none⟩) (dCell_lt r2')).trans r2'))
      clear esv hes SM
      generalize taleM rd.out s0 = T at *
      generalize plN rd = NN at *
      generalize rd.epoch = ep at *
      generalize rd.off = of at *
      generalize rd.out.length = ol at *
      have k8 := XW 8 _ rfl
      have z0 := XS 0 _ rfl
      go_wp2_with fail
      generalize hsb : wr.heap.size = sb at *
      generalize wr.alloc (.cells #[.int .i64 s0, .string s1, .bool s2] 84) = wz at *
      have hbr := Below.refl wz.heap.size wz
      go_cut [6, 7] from 20 to 66 (fun s6 s7 wx => s6 = .string (T.getD ⟨#[]⟩) ∧ s7 = .bool T.isSome ∧ Below wz.heap.size wz wx)
      case first =>
       unfold taleV at CT
       go_region_held3 (fun W => W.cell? ⟨w.heap.size, 8, none⟩ = some (.slice (some ⟨rb, ro, none⟩) readers.length rc') ∧ W.cell? ⟨rb, ro + k * 3, none⟩ = some (.int .i64 ep) ∧ W.cell? ⟨rb, ro + k * 3 + 1, none⟩ = some (.int .i64 of) ∧ W.cell? ⟨rb, ro + k * 3 + 2, none⟩ = some (.slice ua ol uc) ∧ W.cell? ⟨sb, 0, none⟩ = some (.int .i64 s0)) (go_keep)
        (first | (go_at_call 52; refine (dU CT _ hbr.drew).mono ?_; rintro e wq ⟨rfl, bq⟩; have hbq := bT hbr.drew bq; have y1 := (XW.below hbq) 8 _ rfl; obtain ⟨y2, y3, y4⟩ := dU RC _ hbq; have y5 := (XS.below hbq) 0 _ rfl))
       all_goals
        go_wp2_with fail
        go_meet
        case rel => exact ⟨rfl, rfl, hbq⟩
      case rest =>
       obtain ⟨rfl, rfl, bc⟩ := hcut
       generalize wc = wy at *
       clear k8 z0 r0' r1' r2' hbr CT g0 g1 g2 k9
       replace hbz := bT hbz bc
       replace XW := XW.below bc
       replace XS := XS.below bc
       have R0 := dH fun W (hW : Below wy.heap.size wy W) => dU RC W (bT bc hW)
       have CP := dH fun W (hW : Below wy.heap.size wy W) => dU CP0 W (bT bc hW)
       clear RC CP0 bc
       generalize T.getD ⟨#[]⟩ = td at *
       generalize T.isSome = tb at *
       have k5 := XW 5 _ rfl
       have k8 := XW 8 _ rfl
       have z0 := XS 0 _ rfl
       have z2 := XS 2 _ rfl
       obtain ⟨q0, q1, q2⟩ := dU R0 wy (Below.refl _ _)
       cases s2
       case false =>
        have H3 := dH (dU H2 ((dU KT).2 fun h => by cases h))
        clear H2 HNJ KT XW XS XX R0 CP
        go_wp2_with fail
        go_quiet (fail)
        go_wp2
        go_roundw
        case rel => exact ⟨j + 1, by go_num, by omega, H3, below_drewN hbz _⟩
        case measure => simp [intOf]; omega
       by_cases htr : trim < s0
       case neg =>
        have hd : decide (trim < s0) = false := decide_eq_false htr
        have H3 := dH (dU H2 ((dU KT).2 fun _ h => absurd h htr))
        clear H2 HNJ KT XW XS XX R0 CP
        go_wp2_with fail
        go_quiet (fail)
        go_wp2
        go_roundw
        case rel => exact ⟨j + 1, by go_num, by omega, H3, below_drewN hbz _⟩
        case measure => simp [intOf]; omega
       have hd : decide (trim < s0) = true := decide_eq_true htr
       have PK := dH fun W (hW : Below wy.heap.size wy W) => (show (W.cell? ⟨sb, 0, none⟩ = some (.int .i64 s0) ∧ W.cell? ⟨sb, 2, none⟩ = some (.bool true)) ∧ W.cell? ⟨w.heap.size, 5, none⟩ = some (.int .i64 trim) ∧ W.cell? ⟨w.heap.size, 8, none⟩ = some (.slice (some ⟨rb, ro, none⟩) readers.length rc') ∧ W.cell? ⟨rb, ro + k * 3, none⟩ = some (.int .i64 ep) ∧ W.cell? ⟨rb, ro + k * 3 + 1, none⟩ = some (.int .i64 of) ∧ W.cell? ⟨rb, ro + k * 3 + 2, none⟩ = some (.slice ua ol uc) from ⟨⟨(XS.below hW) 0 _ rfl, (XS.below hW) 2 _ rfl⟩, (XW.below hW) 5 _ rfl, (XW.below hW) 8 _ rfl, dU R0 W hW⟩)
       have bd : Below wy.heap.size wy wy.drew := (Below.refl _ _).drew
       by_cases hps : s0 < NN
       case neg =>
        have H3 := dH (dU H2 ((dU KT).2 fun _ _ h => absurd h hps))
        clear H2 HNJ KT XW XS XX R0
        go_wp2_with fail
        have hwd := bd
        refine wp_region_noPanic ?_
        refine wp_region_held_drew (S := fun W => (W.cell? ⟨sb, 0, none⟩ = some (.int .i64 s0) ∧ W.cell? ⟨sb, 2, none⟩ = some (.bool true)) ∧ W.cell? ⟨w.heap.size, 5, none⟩ = some (.int .i64 trim) ∧ W.cell? ⟨w.heap.size, 8, none⟩ = some (.slice (some ⟨rb, ro, none⟩) readers.length rc') ∧ W.cell? ⟨rb, ro + k * 3, none⟩ = some (.int .i64 ep) ∧ W.cell? ⟨rb, ro + k * 3 + 1, none⟩ = some (.int .i64 of) ∧ W.cell? ⟨rb, ro + k * 3 + 2, none⟩ = some (.slice ua ol uc)) (by kernel_rfl) (by first | exact dU PK _ hwd | exact dU PK _ bd) (fun hHeld => ?_)
        clear bd
        generalize wy.drew = wd at *
        refine tY 0 (v := ?_) rfl (by kernel_rfl) (.inl ⟨by rfl, ?_⟩) ‹_› ?_
        rotate_left 1
        ·intro w hSw
         (try dsimp only at hSw)
         first | (go_simp; done) | (go_simp; with_reducible rfl)
        try simp only [Act.put, sA, sB, sC]
        refine tY 1 (v := ?_) rfl (by kernel_rfl) (.inl ⟨by rfl, ?_⟩) ‹_› ?_
        rotate_left 1
        ·intro w hSw
         (try dsimp only at hSw)
         first | (go_simp; done) | (go_simp; with_reducible rfl)
        try simp only [Act.put, sA, sB, sC]
        refine tY 2 (v := ?_) rfl (by kernel_rfl) (.inl ⟨by rfl, ?_⟩) ‹_› ?_
        rotate_left 1
        ·intro w hSw
         (try dsimp only at hSw)
         first | (go_simp; done) | (go_simp; with_reducible rfl)
        try simp only [Act.put, sA, sB, sC]
        refine tY 3 (v := ?_) rfl (by kernel_rfl) (.inl ⟨by rfl, ?_⟩) ‹_› ?_
        rotate_left 1
        ·intro w hSw
         (try dsimp only at hSw)
         first | (go_simp; done) | (go_simp; with_reducible rfl)
        try simp only [Act.put, sA, sB, sC]
        refine tY 4 (v := ?_) rfl (by kernel_rfl) (.inl ⟨by rfl, ?_⟩) ‹_› ?_
        rotate_left 1
        ·intro w hSw
         (try dsimp only at hSw)
         first | (go_simp; done) | (go_simp; with_reducible rfl)
        try simp only [Act.put, sA, sB, sC]
        refine tY 5 (v := ?_) rfl (by kernel_rfl) (.inl ⟨by rfl, ?_⟩) ‹_› ?_
        rotate_left 1
        ·intro w hSw
         (try dsimp only at hSw)
         first | (go_simp; done) | (go_simp; with_reducible rfl)
        try simp only [Act.put, sA, sB, sC]
        refine tY 6 (v := ?_) rfl (by kernel_rfl) (.inl ⟨by rfl, ?_⟩) ‹_› ?_
        rotate_left 1
        ·intro w hSw
         (try dsimp only at hSw)
         first | (go_simp; done) | (go_simp; with_reducible rfl)
        try simp only [Act.put, sA, sB, sC]
        refine tY 7 (v := ?_) rfl (by kernel_rfl) (.inl ⟨by rfl, ?_⟩) ‹_› ?_
        rotate_left 1
        ·intro w hSw
         (try dsimp only at hSw)
         first | (go_simp; done) | (go_simp; with_reducible rfl)
        try simp only [Act.put, sA, sB, sC]
        refine tY 8 (v := ?_) rfl (by kernel_rfl) (.inl ⟨by rfl, ?_⟩) ‹_› ?_
        rotate_left 1
        ·intro w hSw
         (try dsimp only at hSw)
         first | (go_simp; done) | (go_simp; with_reducible rfl)
        try simp only [Act.put, sA, sB, sC]
        refine tY 9 (v := ?_) rfl (by kernel_rfl) (.inl ⟨by rfl, ?_⟩) ‹_› ?_
        rotate_left 1
        ·intro w hSw
         (try dsimp only at hSw)
         first | (go_simp; done) | (go_simp; with_reducible rfl)
        try simp only [Act.put, sA, sB, sC]
        refine tY 10 (v := ?_) rfl (by kernel_rfl) (.inl ⟨by rfl, ?_⟩) ‹_› ?_
        rotate_left 1
        ·intro w hSw
         (try dsimp only at hSw)
         first | (go_simp; done) | (go_simp; with_reducible rfl)
        try simp only [Act.put, sA, sB, sC]
        refine tY 11 (v := ?_) rfl (by kernel_rfl) (.inl ⟨by rfl, ?_⟩) ‹_› ?_
        rotate_left 1
        ·intro w hSw
         (try dsimp only at hSw)
         first | (go_simp; done) | (go_simp; with_reducible rfl)
        try simp only [Act.put, sA, sB, sC]
        refine tY 12 (v := ?_) rfl (by kernel_rfl) (.inl ⟨by rfl, ?_⟩) ‹_› ?_
        rotate_left 1
        ·intro w hSw
         (try dsimp only at hSw)
         first | (go_simp; done) | (go_simp; with_reducible rfl)
        try simp only [Act.put, sA, sB, sC]
        refine tY 13 (v := ?_) rfl (by kernel_rfl) (.inl ⟨by rfl, ?_⟩) ‹_› ?_
        rotate_left 1
        ·intro w hSw
         (try dsimp only at hSw)
         first | (go_simp; done) | (go_simp; with_reducible rfl)
        try simp only [Act.put, sA, sB, sC]
        refine tY 14 (v := ?_) rfl (by kernel_rfl) (.inl ⟨by rfl, ?_⟩) ‹_› ?_
        rotate_left 1
        ·intro w hSw
         (try dsimp only at hSw)
         first | (go_simp; done) | (go_simp; with_reducible rfl)
        try simp only [Act.put, sA, sB, sC]
        refine tY 15 (v := ?_) rfl (by kernel_rfl) (.inl ⟨by rfl, ?_⟩) ‹_› ?_
        rotate_left 1
        ·intro w hSw
         (try dsimp only at hSw)
         first | (go_simp; done) | (go_simp; with_reducible rfl)
        try simp only [Act.put, sA, sB, sC]
        refine tY 16 (v := ?_) rfl (by kernel_rfl) (.inl ⟨by rfl, ?_⟩) ‹_› ?_
        rotate_left 1
        ·intro w hSw
         (try dsimp only at hSw)
         first | (go_simp; done) | (go_simp; with_reducible rfl)
        try simp only [Act.put, sA, sB, sC]
        refine tY 17 (v := ?_) rfl (by kernel_rfl) (.inl ⟨by rfl, ?_⟩) ‹_› ?_
        rotate_left 1
        ·intro w hSw
         (try dsimp only at hSw)
         first | (go_simp; done) | (go_simp; with_reducible rfl)
        try simp only [Act.put, sA, sB, sC]
        refine wpAnyH_ready (rs := [18]) (by kernel_rfl) (by simp) ?_
        refine rC rfl (fun K hK => ?_) AllReadyH.nil
        go_simp
        refine (dU CP wd hwd).mono ?_
        rintro e wd' ⟨⟨b9, rfl, h9⟩, bl9⟩
        obtain rfl : b9 = false := by cases b9; rfl; exact absurd (h9.1 rfl) (by omega)
        replace hwd := bT hwd bl9
        clear bl9 h9
        generalize wd' = wd at *
        (try go_wp2_with fail)
        refine hK.out _ _ (by first | exact dU PK _ hwd | exact dU PK _ bd) (fun hHeld => ?_)
        clear hK K
        try simp only [Act.put, sA, sB, sC]
        refine tY 19 (v := ?_) rfl (by kernel_rfl) (.inl ⟨by rfl, ?_⟩) ‹_› ?_
        rotate_left 1
        ·intro w hSw
         (try dsimp only at hSw)
         first | (go_simp; done) | (go_simp; with_reducible rfl)
        try simp only [Act.put, sA, sB, sC]
        refine tY 20 (v := ?_) rfl (by kernel_rfl) (.inl ⟨by rfl, ?_⟩) ‹_› ?_
        rotate_left 1
        ·intro w hSw
         (try dsimp only at hSw)
         first | (go_simp; done) | (go_simp; with_reducible rfl)
        try simp only [Act.put, sA, sB, sC]
        refine tY 21 rfl (by kernel_rfl) (.inr ⟨by rfl, rfl⟩) ‹_› ?_
        try simp only [Act.put, sA, sB, sC]
        refine tY 22 rfl (by kernel_rfl) (.inr ⟨by rfl, rfl⟩) ‹_› ?_
        try simp only [Act.put, sA, sB, sC]
        refine tY 23 (v := ?_) rfl (by kernel_rfl) (.inl ⟨by rfl, ?_⟩) ‹_› ?_
        rotate_left 1
        ·intro w hSw
         (try dsimp only at hSw)
         first | (go_simp; done) | (go_simp; with_reducible rfl)
        try simp only [Act.put, sA, sB, sC]
        refine wpAnyH_done (by kernel_rfl) ?_ _
        refine NoPanic.normal ?_
        have hw3 := bT hbz hwd
        clear PK CP
        go_wp2
        go_roundw
        case rel => exact ⟨j + 1, by go_num, by omega, H3, hw3⟩
        case measure => simp [intOf]; omega
       cases tb
       case true =>
        have H3 := dH (dU H2 ((dU KT).2 fun _ _ _ => rfl))
        clear H2 HNJ KT XW XS XX R0
        go_wp2_with fail
        have hwd := bd
        refine wp_region_noPanic ?_
        refine wp_region_held_drew (S := fun W => (W.cell? ⟨sb, 0, none⟩ = some (.int .i64 s0) ∧ W.cell? ⟨sb, 2, none⟩ = some (.bool true)) ∧ W.cell? ⟨w.heap.size, 5, none⟩ = some (.int .i64 trim) ∧ W.cell? ⟨w.heap.size, 8, none⟩ = some (.slice (some ⟨rb, ro, none⟩) readers.length rc') ∧ W.cell? ⟨rb, ro + k * 3, none⟩ = some (.int .i64 ep) ∧ W.cell? ⟨rb, ro + k * 3 + 1, none⟩ = some (.int .i64 of) ∧ W.cell? ⟨rb, ro + k * 3 + 2, none⟩ = some (.slice ua ol uc)) (by kernel_rfl) (by first | exact dU PK _ hwd | exact dU PK _ bd) (fun hHeld => ?_)
        clear bd
        generalize wy.drew = wd at *
        refine tY 0 (v := ?_) rfl (by kernel_rfl) (.inl ⟨by rfl, ?_⟩) ‹_› ?_
        rotate_left 1
        ·intro w hSw
         (try dsimp only at hSw)
         first | (go_simp; done) | (go_simp; with_reducible rfl)
        try simp only [Act.put, sA, sB, sC]
        refine tY 1 (v := ?_) rfl (by kernel_rfl) (.inl ⟨by rfl, ?_⟩) ‹_› ?_
        rotate_left 1
        ·intro w hSw
         (try dsimp only at hSw)
         first | (go_simp; done) | (go_simp; with_reducible rfl)
        try simp only [Act.put, sA, sB, sC]
        refine tY 2 (v := ?_) rfl (by kernel_rfl) (.inl ⟨by rfl, ?_⟩) ‹_› ?_
        rotate_left 1
        ·intro w hSw
         (try dsimp only at hSw)
         first | (go_simp; done) | (go_simp; with_reducible rfl)
        try simp only [Act.put, sA, sB, sC]
        refine tY 3 (v := ?_) rfl (by kernel_rfl) (.inl ⟨by rfl, ?_⟩) ‹_› ?_
        rotate_left 1
        ·intro w hSw
         (try dsimp only at hSw)
         first | (go_simp; done) | (go_simp; with_reducible rfl)
        try simp only [Act.put, sA, sB, sC]
        refine tY 4 (v := ?_) rfl (by kernel_rfl) (.inl ⟨by rfl, ?_⟩) ‹_› ?_
        rotate_left 1
        ·intro w hSw
         (try dsimp only at hSw)
         first | (go_simp; done) | (go_simp; with_reducible rfl)
        try simp only [Act.put, sA, sB, sC]
        refine tY 5 (v := ?_) rfl (by kernel_rfl) (.inl ⟨by rfl, ?_⟩) ‹_› ?_
        rotate_left 1
        ·intro w hSw
         (try dsimp only at hSw)
         first | (go_simp; done) | (go_simp; with_reducible rfl)
        try simp only [Act.put, sA, sB, sC]
        refine tY 6 (v := ?_) rfl (by kernel_rfl) (.inl ⟨by rfl, ?_⟩) ‹_› ?_
        rotate_left 1
        ·intro w hSw
         (try dsimp only at hSw)
         first | (go_simp; done) | (go_simp; with_reducible rfl)
        try simp only [Act.put, sA, sB, sC]
        refine tY 7 (v := ?_) rfl (by kernel_rfl) (.inl ⟨by rfl, ?_⟩) ‹_› ?_
        rotate_left 1
        ·intro w hSw
         (try dsimp only at hSw)
         first | (go_simp; done) | (go_simp; with_reducible rfl)
        try simp only [Act.put, sA, sB, sC]
        refine tY 8 (v := ?_) rfl (by kernel_rfl) (.inl ⟨by rfl, ?_⟩) ‹_› ?_
        rotate_left 1
        ·intro w hSw
         (try dsimp only at hSw)
         first | (go_simp; done) | (go_simp; with_reducible rfl)
        try simp only [Act.put, sA, sB, sC]
        refine tY 9 (v := ?_) rfl (by kernel_rfl) (.inl ⟨by rfl, ?_⟩) ‹_› ?_
        rotate_left 1
        ·intro w hSw
         (try dsimp only at hSw)
         first | (go_simp; done) | (go_simp; with_reducible rfl)
        try simp only [Act.put, sA, sB, sC]
        refine tY 10 (v := ?_) rfl (by kernel_rfl) (.inl ⟨by rfl, ?_⟩) ‹_› ?_
        rotate_left 1
        ·intro w hSw
         (try dsimp only at hSw)
         first | (go_simp; done) | (go_simp; with_reducible rfl)
        try simp only [Act.put, sA, sB, sC]
        refine tY 11 (v := ?_) rfl (by kernel_rfl) (.inl ⟨by rfl, ?_⟩) ‹_› ?_
        rotate_left 1
        ·intro w hSw
         (try dsimp only at hSw)
         first | (go_simp; done) | (go_simp; with_reducible rfl)
        try simp only [Act.put, sA, sB, sC]
        refine tY 12 (v := ?_) rfl (by kernel_rfl) (.inl ⟨by rfl, ?_⟩) ‹_› ?_
        rotate_left 1
        ·intro w hSw
         (try dsimp only at hSw)
         first | (go_simp; done) | (go_simp; with_reducible rfl)
        try simp only [Act.put, sA, sB, sC]
        refine tY 13 (v := ?_) rfl (by kernel_rfl) (.inl ⟨by rfl, ?_⟩) ‹_› ?_
        rotate_left 1
        ·intro w hSw
         (try dsimp only at hSw)
         first | (go_simp; done) | (go_simp; with_reducible rfl)
        try simp only [Act.put, sA, sB, sC]
        refine tY 14 (v := ?_) rfl (by kernel_rfl) (.inl ⟨by rfl, ?_⟩) ‹_› ?_
        rotate_left 1
        ·intro w hSw
         (try dsimp only at hSw)
         first | (go_simp; done) | (go_simp; with_reducible rfl)
        try simp only [Act.put, sA, sB, sC]
        refine tY 15 (v := ?_) rfl (by kernel_rfl) (.inl ⟨by rfl, ?_⟩) ‹_› ?_
        rotate_left 1
        ·intro w hSw
         (try dsimp only at hSw)
         first | (go_simp; done) | (go_simp; with_reducible rfl)
        try simp only [Act.put, sA, sB, sC]
        refine tY 16 (v := ?_) rfl (by kernel_rfl) (.inl ⟨by rfl, ?_⟩) ‹_› ?_
        rotate_left 1
        ·intro w hSw
         (try dsimp only at hSw)
         first | (go_simp; done) | (go_simp; with_reducible rfl)
        try simp only [Act.put, sA, sB, sC]
        refine tY 17 (v := ?_) rfl (by kernel_rfl) (.inl ⟨by rfl, ?_⟩) ‹_› ?_
        rotate_left 1
        ·intro w hSw
         (try dsimp only at hSw)
         first | (go_simp; done) | (go_simp; with_reducible rfl)
        try simp only [Act.put, sA, sB, sC]
        refine wpAnyH_ready (rs := [18]) (by kernel_rfl) (by simp) ?_
        refine rC rfl (fun K hK => ?_) AllReadyH.nil
        go_simp
        refine (dU CP wd hwd).mono ?_
        rintro e wd' ⟨⟨b9, rfl, h9⟩, bl9⟩
        obtain rfl : b9 = true := h9.2 hps
        replace hwd := bT hwd bl9
        clear bl9 h9
        generalize wd' = wd at *
        (try go_wp2_with fail)
        refine hK.out _ _ (by first | exact dU PK _ hwd | exact dU PK _ bd) (fun hHeld => ?_)
        clear hK K
        try simp only [Act.put, sA, sB, sC]
        refine tY 19 (v := ?_) rfl (by kernel_rfl) (.inl ⟨by rfl, ?_⟩) ‹_› ?_
        rotate_left 1
        ·intro w hSw
         (try dsimp only at hSw)
         first | (go_simp; done) | (go_simp; with_reducible rfl)
        try simp only [Act.put, sA, sB, sC]
        refine tY 20 (v := ?_) rfl (by kernel_rfl) (.inl ⟨by rfl, ?_⟩) ‹_› ?_
        rotate_left 1
        ·intro w hSw
         (try dsimp only at hSw)
         first | (go_simp; done) | (go_simp; with_reducible rfl)
        try simp only [Act.put, sA, sB, sC]
        refine tY 21 (v := ?_) rfl (by kernel_rfl) (.inl ⟨by rfl, ?_⟩) ‹_› ?_
        rotate_left 1
        ·intro w hSw
         (try dsimp only at hSw)
         first | (go_simp; done) | (go_simp; with_reducible rfl)
        try simp only [Act.put, sA, sB, sC]
        refine tY 22 (v := ?_) rfl (by kernel_rfl) (.inl ⟨by rfl, ?_⟩) ‹_› ?_
        rotate_left 1
        ·intro w hSw
         (try dsimp only at hSw)
         first | (go_simp; done) | (go_simp; with_reducible rfl)
        try simp only [Act.put, sA, sB, sC]
        refine tY 23 (v := ?_) rfl (by kernel_rfl) (.inl ⟨by rfl, ?_⟩) ‹_› ?_
        rotate_left 1
        ·intro w hSw
         (try dsimp only at hSw)
         first | (go_simp; done) | (go_simp; with_reducible rfl)
        try simp only [Act.put, sA, sB, sC]
        refine wpAnyH_done (by kernel_rfl) ?_ _
        refine NoPanic.normal ?_
        have hw3 := bT hbz hwd
        clear PK CP
        go_wp2
        go_roundw
        case rel => exact ⟨j + 1, by go_num, by omega, H3, hw3⟩
        case measure => simp [intOf]; omega
       case false =>
        have R := dH (dU HNJ fun h => by have := (dU KT).1 h rfl htr hps; cases this)
        clear H2 HNJ KT XW XS XX R0
        go_wp2_with fail
        have hwd := bd
        refine wp_region_noPanic ?_
        refine wp_region_held_drew (S := fun W => (W.cell? ⟨sb, 0, none⟩ = some (.int .i64 s0) ∧ W.cell? ⟨sb, 2, none⟩ = some (.bool true)) ∧ W.cell? ⟨w.heap.size, 5, none⟩ = some (.int .i64 trim) ∧ W.cell? ⟨w.heap.size, 8, none⟩ = some (.slice (some ⟨rb, ro, none⟩) readers.length rc') ∧ W.cell? ⟨rb, ro + k * 3, none⟩ = some (.int .i64 ep) ∧ W.cell? ⟨rb, ro + k * 3 + 1, none⟩ = some (.int .i64 of) ∧ W.cell? ⟨rb, ro + k * 3 + 2, none⟩ = some (.slice ua ol uc)) (by kernel_rfl) (by first | exact dU PK _ hwd | exact dU PK _ bd) (fun hHeld => ?_)
        clear bd
        generalize wy.drew = wd at *
        refine tY 0 (v := ?_) rfl (by kernel_rfl) (.inl ⟨by rfl, ?_⟩) ‹_› ?_
        rotate_left 1
        ·intro w hSw
         (try dsimp only at hSw)
         first | (go_simp; done) | (go_simp; with_reducible rfl)
        try simp only [Act.put, sA, sB, sC]
        refine tY 1 (v := ?_) rfl (by kernel_rfl) (.inl ⟨by rfl, ?_⟩) ‹_› ?_
        rotate_left 1
        ·intro w hSw
         (try dsimp only at hSw)
         first | (go_simp; done) | (go_simp; with_reducible rfl)
        try simp only [Act.put, sA, sB, sC]
        refine tY 2 (v := ?_) rfl (by kernel_rfl) (.inl ⟨by rfl, ?_⟩) ‹_› ?_
        rotate_left 1
        ·intro w hSw
         (try dsimp only at hSw)
         first | (go_simp; done) | (go_simp; with_reducible rfl)
        try simp only [Act.put, sA, sB, sC]
        refine tY 3 (v := ?_) rfl (by kernel_rfl) (.inl ⟨by rfl, ?_⟩) ‹_› ?_
        rotate_left 1
        ·intro w hSw
         (try dsimp only at hSw)
         first | (go_simp; done) | (go_simp; with_reducible rfl)
        try simp only [Act.put, sA, sB, sC]
        refine tY 4 (v := ?_) rfl (by kernel_rfl) (.inl ⟨by rfl, ?_⟩) ‹_› ?_
        rotate_left 1
        ·intro w hSw
         (try dsimp only at hSw)
         first | (go_simp; done) | (go_simp; with_reducible rfl)
        try simp only [Act.put, sA, sB, sC]
        refine tY 5 (v := ?_) rfl (by kernel_rfl) (.inl ⟨by rfl, ?_⟩) ‹_› ?_
        rotate_left 1
        ·intro w hSw
         (try dsimp only at hSw)
         first | (go_simp; done) | (go_simp; with_reducible rfl)
        try simp only [Act.put, sA, sB, sC]
        refine tY 6 (v := ?_) rfl (by kernel_rfl) (.inl ⟨by rfl, ?_⟩) ‹_› ?_
        rotate_left 1
        ·intro w hSw
         (try dsimp only at hSw)
         first | (go_simp; done) | (go_simp; with_reducible rfl)
        try simp only [Act.put, sA, sB, sC]
        refine tY 7 (v := ?_) rfl (by kernel_rfl) (.inl ⟨by rfl, ?_⟩) ‹_› ?_
        rotate_left 1
        ·intro w hSw
         (try dsimp only at hSw)
         first | (go_simp; done) | (go_simp; with_reducible rfl)
        try simp only [Act.put, sA, sB, sC]
        refine tY 8 (v := ?_) rfl (by kernel_rfl) (.inl ⟨by rfl, ?_⟩) ‹_› ?_
        rotate_left 1
        ·intro w hSw
         (try dsimp only at hSw)
         first | (go_simp; done) | (go_simp; with_reducible rfl)
        try simp only [Act.put, sA, sB, sC]
        refine tY 9 (v := ?_) rfl (by kernel_rfl) (.inl ⟨by rfl, ?_⟩) ‹_› ?_
        rotate_left 1
        ·intro w hSw
         (try dsimp only at hSw)
         first | (go_simp; done) | (go_simp; with_reducible rfl)
        try simp only [Act.put, sA, sB, sC]
        refine tY 10 (v := ?_) rfl (by kernel_rfl) (.inl ⟨by rfl, ?_⟩) ‹_› ?_
        rotate_left 1
        ·intro w hSw
         (try dsimp only at hSw)
         first | (go_simp; done) | (go_simp; with_reducible rfl)
        try simp only [Act.put, sA, sB, sC]
        refine tY 11 (v := ?_) rfl (by kernel_rfl) (.inl ⟨by rfl, ?_⟩) ‹_› ?_
        rotate_left 1
        ·intro w hSw
         (try dsimp only at hSw)
         first | (go_simp; done) | (go_simp; with_reducible rfl)
        try simp only [Act.put, sA, sB, sC]
        refine tY 12 (v := ?_) rfl (by kernel_rfl) (.inl ⟨by rfl, ?_⟩) ‹_› ?_
        rotate_left 1
        ·intro w hSw
         (try dsimp only at hSw)
         first | (go_simp; done) | (go_simp; with_reducible rfl)
        try simp only [Act.put, sA, sB, sC]
        refine tY 13 (v := ?_) rfl (by kernel_rfl) (.inl ⟨by rfl, ?_⟩) ‹_› ?_
        rotate_left 1
        ·intro w hSw
         (try dsimp only at hSw)
         first | (go_simp; done) | (go_simp; with_reducible rfl)
        try simp only [Act.put, sA, sB, sC]
        refine tY 14 (v := ?_) rfl (by kernel_rfl) (.inl ⟨by rfl, ?_⟩) ‹_› ?_
        rotate_left 1
        ·intro w hSw
         (try dsimp only at hSw)
         first | (go_simp; done) | (go_simp; with_reducible rfl)
        try simp only [Act.put, sA, sB, sC]
        refine tY 15 (v := ?_) rfl (by kernel_rfl) (.inl ⟨by rfl, ?_⟩) ‹_› ?_
        rotate_left 1
        ·intro w hSw
         (try dsimp only at hSw)
         first | (go_simp; done) | (go_simp; with_reducible rfl)
        try simp only [Act.put, sA, sB, sC]
        refine tY 16 (v := ?_) rfl (by kernel_rfl) (.inl ⟨by rfl, ?_⟩) ‹_› ?_
        rotate_left 1
        ·intro w hSw
         (try dsimp only at hSw)
         first | (go_simp; done) | (go_simp; with_reducible rfl)
        try simp only [Act.put, sA, sB, sC]
        refine tY 17 (v := ?_) rfl (by kernel_rfl) (.inl ⟨by rfl, ?_⟩) ‹_› ?_
        rotate_left 1
        ·intro w hSw
         (try dsimp only at hSw)
         first | (go_simp; done) | (go_simp; with_reducible rfl)
        try simp only [Act.put, sA, sB, sC]
        refine wpAnyH_ready (rs := [18]) (by kernel_rfl) (by simp) ?_
        refine rC rfl (fun K hK => ?_) AllReadyH.nil
        go_simp
        refine (dU CP wd hwd).mono ?_
        rintro e wd' ⟨⟨b9, rfl, h9⟩, bl9⟩
        obtain rfl : b9 = true := h9.2 hps
        replace hwd := bT hwd bl9
        clear bl9 h9
        generalize wd' = wd at *
        (try go_wp2_with fail)
        refine hK.out _ _ (by first | exact dU PK _ hwd | exact dU PK _ bd) (fun hHeld => ?_)
        clear hK K
        try simp only [Act.put, sA, sB, sC]
        refine tY 19 (v := ?_) rfl (by kernel_rfl) (.inl ⟨by rfl, ?_⟩) ‹_› ?_
        rotate_left 1
        ·intro w hSw
         (try dsimp only at hSw)
         first | (go_simp; done) | (go_simp; with_reducible rfl)
        try simp only [Act.put, sA, sB, sC]
        refine tY 20 (v := ?_) rfl (by kernel_rfl) (.inl ⟨by rfl, ?_⟩) ‹_› ?_
        rotate_left 1
        ·intro w hSw
         (try dsimp only at hSw)
         first | (go_simp; done) | (go_simp; with_reducible rfl)
        try simp only [Act.put, sA, sB, sC]
        refine tY 21 (v := ?_) rfl (by kernel_rfl) (.inl ⟨by rfl, ?_⟩) ‹_› ?_
        rotate_left 1
        ·intro w hSw
         (try dsimp only at hSw)
         first | (go_simp; done) | (go_simp; with_reducible rfl)
        try simp only [Act.put, sA, sB, sC]
        refine tY 22 (v := ?_) rfl (by kernel_rfl) (.inl ⟨by rfl, ?_⟩) ‹_› ?_
        rotate_left 1
        ·intro w hSw
         (try dsimp only at hSw)
         first | (go_simp; done) | (go_simp; with_reducible rfl)
        try simp only [Act.put, sA, sB, sC]
        refine tY 23 (v := ?_) rfl (by kernel_rfl) (.inl ⟨by rfl, ?_⟩) ‹_› ?_
        rotate_left 1
        ·intro w hSw
         (try dsimp only at hSw)
         first | (go_simp; done) | (go_simp; with_reducible rfl)
        try simp only [Act.put, sA, sB, sC]
        refine wpAnyH_done (by kernel_rfl) ?_ _
        refine NoPanic.normal ?_
        have BF := bT (dU B1) (bT hbz hwd)
        clear PK CP
        go_wp2
        go_ret
        exact ⟨dU R, BF⟩
     ·have H3 := dH (dU HI fun i h => dU hjn i h (by omega))
      clear hjn HI HNN RA
      go_wp2
      go_roundw
      case rel => exact ⟨k + 1, by go_num, by omega, H3, hby⟩
      case measure => simp [intOf]; omega
   ·have R := dH (dU RY fun i h => dU hinv i h (by rw [dU HL] at h; omega))
    have BF := bT (dU B1) hbo
    clear RY RN hinv HR HL
    go_wp2
    go_ret
    exact ⟨dU R, BF⟩
end Go.Proofs.YtekgkjomdpjkbaaGreat
