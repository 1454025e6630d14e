/- Mends drawn: l9DrawRight (printed by tools/mkmdc.py). -/
import Derived.Test.YtjkjmapibcfcdaaGreatGz7
import Derived.Test.YtjkjmapibcfcdaaGreatGz8
import Derived.Test.YtjkjmapibcfcdaaGreatMnU
import Derived.Test.YtjkjmapibcfcdaaGreatGx3
import Derived.Test.YtjkjmapibcfcdaaGreatGx2
import Derived.Deep.RegionLaw
import Derived.Deep.RegionHeld3
import Derived.Deep.DeepCutAuto
namespace Go.Proofs.YtjkjmapibcfcdaaGreat
open Go.ChangeShapes Go.WideShapes Go.ChangeAt Go.RowKit
set_option linter.unusedVariables false
set_option linter.unusedSimpArgs false
set_option maxRecDepth 100000

theorem l1Below_le (bk : Nat) (n : Nat) (h2 : n ≤ 4611686018427387904) (w : World) (hc : Cur w bk) :
  Calls Tryz.prog 24 #[.pointer (some ⟨bk, 0, none⟩), .int .i64 n] w fun e w' => (∃ x : Nat, x ≤ n ∧ e = .returned (.int .i64 (x : Int))) ∧ Cur w' bk ∧ Drawn bk w w' := by
 rcases Nat.eq_zero_or_pos n with h | h
 ·subst h
  have H := dH hc
  clear hc
  go_enter Tryz.func24, Tryz.ntmps24
  go_wp2
  go_ret
  exact ⟨⟨0, Nat.le_refl _, rfl⟩, dU H, Drawn.refl _ _⟩
 ·refine (l1Below_any bk n h h2 w hc).mono ?_
  rintro e w' ⟨⟨x, hx, rfl⟩, h1, h2⟩
  exact ⟨⟨x, by omega, rfl⟩, h1, h2⟩
theorem MIn.bare (lo hi : Nat) (W : World) : MIn lo hi (.slice none 0 0) (.slice none 0 0) (.slice none 0 0) [] [] [] W :=
 ⟨⟨⟨by simp, none, 0, rfl, by simp, .inl rfl⟩, .inl rfl⟩, ⟨.inl ⟨rfl, none, rfl⟩, fun _ => rfl⟩, .inl rfl, LAp.nil _ _ _, (fun b hb => by simp [touch] at hb), (fun p hp => by cases hp), .inl rfl, .inl rfl, .inl rfl⟩
theorem ownBelow {lo hi : Nat} {sv ev wv : Value} {ws : List (List Int)} {ss : List Int} {es : List Ent} {W W' : World} (h : ∃ rs, rs.map Nst.m = ws ∧ MIn lo hi sv ev wv rs ss es W) (hh : hi ≤ W.heap.size) (hb : Below W.heap.size W W') : ∃ rs, rs.map Nst.m = ws ∧ MIn lo hi sv ev wv rs ss es W' := by
 obtain ⟨rs, h1, h2⟩ := h
 exact ⟨rs, h1, h2.below hh hb⟩
theorem eraFit {s : St} {x : Int} (h : fitS s) (hl : s.kept.length ≤ 200) : fitE (eraM s x) ∧ (eraM s x).length ≤ 200 := by
 unfold eraM
 split
 ·refine ⟨fun e he => h.1 e (List.mem_filter.1 he).1, ?_⟩
  have := List.length_filter_le (fun e : Ent => e.pl / 4294967296 == x) s.kept
  exact Nat.le_trans this hl
 ·exact ⟨(fun e he => by cases he), by simp⟩
def DrewM (w : World) (e : Ending) (w' : World) : Prop := ∃ (m : Mn) (q : Pm), e = .returned (.agg #[.int .i64 m.bye, .int .i64 m.epoch, .slice q.sa m.sealed.length q.sc, .slice q.ea m.seen.length q.ec, .bool m.planned, .slice q.wa m.wrote.length q.wc]) ∧ (∃ rs, rs.map Nst.m = m.wrote ∧ MIn w.heap.size w'.heap.size (.slice q.sa m.sealed.length q.sc) (.slice q.ea m.seen.length q.ec) (.slice q.wa m.wrote.length q.wc) rs m.sealed m.seen w') ∧ fitM m
def DrawQ (w : World) (bk : Nat) (e : Ending) (w' : World) : Prop := DrewM w e w' ∧ Cur w' bk ∧ Drawn bk w w'
set_option maxHeartbeats 32000000 in
theorem l9DrawRight_any (bk : Nat) (ca : Option Addr) (cc : Nat) (ds : List Int) (cop : Int) (w : World) (hc : Cur w bk) (hv : Ns w (.slice ca ds.length cc) ds) (hl : ds.length ≤ 9) (hne : ds = [] ∨ bO (.slice ca ds.length cc) ≠ bk) :
  Calls Tryz.prog 115 #[.pointer (some ⟨bk, 0, none⟩), .agg #[.slice ca ds.length cc, .int .i64 cop]] w (DrawQ w bk) := by
 have ba : ∀ (w : World) o, Below w.heap.size w (w.alloc o) := fun w o => (Below.refl _ _).alloc (Nat.le_refl _) o
 have hk := hc.lt
 have hw := hv.lt
 have b1 := ba w (.cells #[.slice ca ds.length cc, .int .i64 cop] 26)
 have b2 := ba (w.alloc (.cells #[.slice ca ds.length cc, .int .i64 cop] 26)) (.cells #[.int .i64 0, .int .i64 0, .slice none 0 0, .slice none 0 0, .bool false, .slice none 0 0] 30)
 have bb := bT b1 b2
 have X0 := dH ((Bx.new w [.slice ca ds.length cc, .int .i64 cop] 26).below b2)
 have R0 := BxZ.new (B := w.heap.size) (w.alloc (.cells #[.slice ca ds.length cc, .int .i64 cop] 26)) [.int .i64 0, .int .i64 0, .slice none 0 0, .slice none 0 0, .bool false, .slice none 0 0] 30 (by simp)
 rw [show (w.alloc (.cells #[.slice ca ds.length cc, .int .i64 cop] 26)).heap.size = w.heap.size + 1 by simp] at R0
 replace R0 := dH R0
 have C0 := hc.below bb
 have NN := dH (hv.below bb)
 have e3 : Hid (((w.alloc (.cells #[.slice ca ds.length cc, .int .i64 cop] 26)).alloc (.cells #[.int .i64 0, .int .i64 0, .slice none 0 0, .slice none 0 0, .bool false, .slice none 0 0] 30)).heap.size = w.heap.size + 2) := by simp [Hid]
 clear hc hv b1 b2
 go_enter Tryz.func115, Tryz.ntmps115
 go_wp2_with fail
 generalize (w.alloc (.cells #[.slice ca ds.length cc, .int .i64 cop] 26)).alloc (.cells #[.int .i64 0, .int .i64 0, .slice none 0 0, .slice none 0 0, .bool false, .slice none 0 0] 30) = w0 at *
 have h3 := dU e3
 refine (l1Below_any bk 2 (by omega) (by omega) _ C0).mono ?_
 rintro r w1 ⟨⟨x, hx, rfl⟩, hc1, hd1⟩
 have hs1 := hd1.size
 have hwx : IntKind.i64.wrap (1 + (x : Int)) = 1 + (x : Int) := by rw [IntKind.wrap_i64]; omega
 have CN := dH (specNew_any (1 + (x : Int)) 4 w1)
 have hwx2 : wrap64 (1 + (x : Int)) = 1 + (x : Int) := by first | exact hwx | (unfold wrap64; omega) | skip
 go_wp2_with fail
 refine (dU CN).mono ?_
 rintro r w2 ⟨rfl, b2⟩
 have hs2 := b2.size
 have ht : w.heap.size + 2 ≤ w2.heap.size := by omega
 have D0 : Hid (D9 w bk w2.heap.size ca cc ds cop (w2.alloc (.cells #[.int .i64 4, .int .i64 (1 + (x : Int)), .slice none 0 0, .slice none 0 0, .bool false, .slice none 0 0] 30)) (w2.heap.size + 1) ⟨4, 1 + (x : Int), [], [], false, []⟩ ⟨none, 0, none, 0, none, 0⟩) := by
  have b3 := ba w2 (.cells #[.int .i64 4, .int .i64 (1 + (x : Int)), .slice none 0 0, .slice none 0 0, .bool false, .slice none 0 0] 30)
  have b23 := bT b2 b3
  have es : (w2.alloc (.cells #[.int .i64 4, .int .i64 (1 + (x : Int)), .slice none 0 0, .slice none 0 0, .bool false, .slice none 0 0] 30)).heap.size = w2.heap.size + 1 := by simp
  exact ⟨hc1.below b23, (Drawn.of_below bb).trans (hd1.trans (Drawn.of_below b23)), ((dU X0).drawn hd1 (by omega)).below b23, ((dU NN).drawn hd1 hne).below b23, ((dU R0).drawn hd1 (by omega)).below b23, ⟨BxZ.new (B := 0) w2 [.int .i64 4, .int .i64 (1 + (x : Int)), .slice none 0 0, .slice none 0 0, .bool false, .slice none 0 0] 30 (Nat.zero_le _), ⟨[], rfl, MIn.bare _ _ _⟩, by omega, .inl (by omega)⟩, fitM_new x (by omega)⟩
 clear X0 R0 NN C0 bb hc1 hd1 CN b2
 go_wp2_with fail
 have es : (w2.alloc (.cells #[.int .i64 4, .int .i64 (1 + (x : Int)), .slice none 0 0, .slice none 0 0, .bool false, .slice none 0 0] 30)).heap.size = w2.heap.size + 1 := by simp
 generalize w2.alloc (.cells #[.int .i64 4, .int .i64 (1 + (x : Int)), .slice none 0 0, .slice none 0 0, .bool false, .slice none 0 0] 30) = w3 at *
 generalize w2.heap.size = bt at *
 have D1 := (dU D0).weak (B' := w3.heap.size) (by omega) (Nat.le_refl _)
 clear D0
 refine (l1Below_any bk 5 (by omega) (by omega) _ D1.cur).mono ?_
 rintro r w4 ⟨⟨n, hn, rfl⟩, hc4, hd4⟩
 have D2 := dH ((D1.move hk ht hne hc4 hd4).weak (B' := w4.heap.size) hd4.size (Nat.le_refl _))
 clear D1 hc4 hd4
 go_wp2_with fail
 go_loopw [7] (fun y wr => ∃ (k : Nat) (m : Mn) (q : Pm), y = .int .i64 (k : Int) ∧ k ≤ n ∧ Hid (D9 w bk bt ca cc ds cop wr wr.heap.size m q)) (fun y _ => n - (intOf y).toNat)
 case atStart => exact ⟨0, _, _, rfl, Nat.zero_le _, D2⟩
 case round =>
  obtain ⟨k, m, q, rfl, hkn, D3⟩ := hrel
  clear D2
  have D := dU D3
  have hwr := D.lt
  clear D3
  by_cases hlt : (k : Int) < (n : Int)
  ·have CP := dH fun W (B : Nat) (h : D9 w bk bt ca cc ds cop W B m q) (z : Nat) (hz : z ≤ 9) (lv : Value) (es : List Ent) (he : RdEntryS lv es W) (hf : fitE es) (hel : es.length ≤ 200) => specSeal9_ap _ _ lv (ds, cop) m (z : Int) es W ⟨_, rfl, h.ns⟩ h.men.rd he h.fit.1.2.2.2.1 hf h.fit.siz (by simp only; omega) (by omega)
   have pD := D.cells
   have Dc := D.below (Below.refl _ _).drew
   have pDd := Dc.cells
   have hsw : wr.heap.size ≤ wr.drew.heap.size := Nat.le_refl _
   go_wp2_with fail
   go_cut [8, 9] (fun sv ov wx => ∃ (bo lo' hi' : Nat) (m' : Mn) (mb : Bool) (q' : Pm), sv = .pointer (some ⟨bo, 0, none⟩) ∧ ov = .bool mb ∧ wr.heap.size ≤ bo ∧ Hid (mb = true → bt + 1 ≤ lo' ∧ fitM m' ∧ DX wx bo lo' hi' m' q') ∧ Hid (D9 w bk bt ca cc ds cop wx wr.heap.size m q))
   case first =>
    refine wp_region_noPanic ?_
    refine wp_region_held_drew (S := fun W => (W.cell? ⟨w.heap.size, 0, none⟩ = some (.slice ca ds.length cc) ∧ W.cell? ⟨w.heap.size, 1, none⟩ = some (.int .i64 cop)) ∧ W.cell? ⟨bt, 0, none⟩ = some (.int .i64 m.bye) ∧ W.cell? ⟨bt, 1, none⟩ = some (.int .i64 m.epoch) ∧ W.cell? ⟨bt, 2, none⟩ = some (.slice q.sa m.sealed.length q.sc) ∧ W.cell? ⟨bt, 3, none⟩ = some (.slice q.ea m.seen.length q.ec) ∧ W.cell? ⟨bt, 4, none⟩ = some (.bool m.planned) ∧ W.cell? ⟨bt, 5, none⟩ = some (.slice q.wa m.wrote.length q.wc)) (by kernel_rfl) (by first | with_reducible exact Dc.cells | with_reducible exact pDd | with_reducible exact pD | go_keep) (fun hHeld => ?_)
    have hsz : wr.heap.size ≤ wr.drew.heap.size := Nat.le_refl _
    generalize wr.drew = wd at *
    refine tY 0 (v := ?_) rfl (by kernel_rfl) (.inl ⟨by rfl, ?_⟩) ‹_› ?_
    rotate_left 1
    ·intro w hSw
     (try dsimp only at hSw)
     first | (go_simp; done) | (go_simp; with_reducible rfl)
    try simp only [Act.put, sA, sB, sC]
    refine tY 1 (v := ?_) rfl (by kernel_rfl) (.inl ⟨by rfl, ?_⟩) ‹_› ?_
    rotate_left 1
    ·intro w hSw
     (try dsimp only at hSw)
     first | (go_simp; done) | (go_simp; with_reducible rfl)
    try simp only [Act.put, sA, sB, sC]
    refine tY 2 (v := ?_) rfl (by kernel_rfl) (.inl ⟨by rfl, ?_⟩) ‹_› ?_
    rotate_left 1
    ·intro w hSw
     (try dsimp only at hSw)
     first | (go_simp; done) | (go_simp; with_reducible rfl)
    try simp only [Act.put, sA, sB, sC]
    refine tY 3 (v := ?_) rfl (by kernel_rfl) (.inl ⟨by rfl, ?_⟩) ‹_› ?_
    rotate_left 1
    ·intro w hSw
     (try dsimp only at hSw)
     first | (go_simp; done) | (go_simp; with_reducible rfl)
    try simp only [Act.put, sA, sB, sC]
    refine tY 4 (v := ?_) rfl (by kernel_rfl) (.inl ⟨by rfl, ?_⟩) ‹_› ?_
    rotate_left 1
    ·intro w hSw
     (try dsimp only at hSw)
     first | (go_simp; done) | (go_simp; with_reducible rfl)
    try simp only [Act.put, sA, sB, sC]
    refine tY 5 (v := ?_) rfl (by kernel_rfl) (.inl ⟨by rfl, ?_⟩) ‹_› ?_
    rotate_left 1
    ·intro w hSw
     (try dsimp only at hSw)
     first | (go_simp; done) | (go_simp; with_reducible rfl)
    try simp only [Act.put, sA, sB, sC]
    refine tY 7 (v := ?_) rfl (by kernel_rfl) (.inl ⟨by rfl, ?_⟩) ‹_› ?_
    rotate_left 1
    ·intro w hSw
     (try dsimp only at hSw)
     first | (go_simp; done) | (go_simp; with_reducible rfl)
    try simp only [Act.put, sA, sB, sC]
    refine tY 9 (v := ?_) rfl (by kernel_rfl) (.inl ⟨by rfl, ?_⟩) ‹_› ?_
    rotate_left 1
    ·intro w hSw
     (try dsimp only at hSw)
     first | (go_simp; done) | (go_simp; with_reducible rfl)
    try simp only [Act.put, sA, sB, sC]
    refine tY 10 (v := ?_) rfl (by kernel_rfl) (.inl ⟨by rfl, ?_⟩) ‹_› ?_
    rotate_left 1
    ·intro w hSw
     (try dsimp only at hSw)
     first | (go_simp; done) | (go_simp; with_reducible rfl)
    try simp only [Act.put, sA, sB, sC]
    refine wpAnyH_ready (rs := [6, 16]) (by kernel_rfl) (by simp) ?_
    refine rC rfl (fun K hK => ?_) (rC rfl (fun K hK => ?_) AllReadyH.nil)
    ·go_simp
     refine (l1Below_le bk ds.length (by omega) wd Dc.cur).mono ?_
     rintro e wd ⟨⟨z7, hz7, rfl⟩, hc7, hd7⟩
     replace Dc := Dc.move hk ht hne hc7 hd7
     try replace NZ := NZ.drawn hd7 (by omega)
     replace hsz : wr.heap.size ≤ wd.heap.size := Nat.le_trans hsz hd7.size
     clear hc7 hd7
     (try go_wp2_with fail)
     refine hK.out _ _ (by first | with_reducible exact Dc.cells | with_reducible exact pDd | with_reducible exact pD | go_keep) (fun hHeld => ?_)
     clear hK K
     try simp only [Act.put, sA, sB, sC]
     refine wpAnyH_ready (rs := [8, 16]) (by kernel_rfl) (by simp) ?_
     refine rC rfl (fun K hK => ?_) (rC rfl (fun K hK => ?_) AllReadyH.nil)
     ·go_simp
      refine (l6DrawRight_any bk wd Dc.cur).mono ?_
      rintro e wd ⟨⟨u8, rfl, s8, O8, hf8, hl8, -⟩, hc7, hd7⟩
      replace Dc := Dc.move hk ht hne hc7 hd7
      try replace NZ := NZ.drawn hd7 (by omega)
      replace hsz : wr.heap.size ≤ wd.heap.size := Nat.le_trans hsz hd7.size
      have S8 := O8.rs
      clear O8
      clear hc7 hd7
      (try go_wp2_with fail)
      refine hK.out _ _ (by first | with_reducible exact Dc.cells | with_reducible exact pDd | with_reducible exact pD | go_keep) (fun hHeld => ?_)
      clear hK K
      try simp only [Act.put, sA, sB, sC]
      refine wpAnyH_ready (rs := [11, 16]) (by kernel_rfl) (by simp) ?_
      refine rC rfl (fun K hK => ?_) (rC rfl (fun K hK => ?_) AllReadyH.nil)
      ·go_simp
       refine (specEra_any u8 s8 m.epoch wd S8 hf8).mono ?_
       rintro e wd' ⟨⟨u9, rfl, A9⟩, b9⟩
       have E8 : Rw 4 Ent.cl wd' u9 (eraM s8 m.epoch) := (ApR.own elemE A9).rw
       replace Dc := Dc.below b9
       try replace NZ := NZ.below b9
       replace hsz : wr.heap.size ≤ wd'.heap.size := Nat.le_trans hsz b9.size
       clear A9 b9 S8
       generalize wd' = wd at *
       (try go_wp2_with fail)
       refine hK.out _ _ (by first | with_reducible exact Dc.cells | with_reducible exact pDd | with_reducible exact pD | go_keep) (fun hHeld => ?_)
       clear hK K
       try simp only [Act.put, sA, sB, sC]
       refine wpAnyH_ready (rs := [12, 16]) (by kernel_rfl) (by simp) ?_
       refine rC rfl (fun K hK => ?_) (rC rfl (fun K hK => ?_) AllReadyH.nil)
       ·go_simp
        have C6 := dU CP wd _ Dc z7 (by omega) u9 (eraM s8 m.epoch) E8 (eraFit hf8 hl8).1 (eraFit hf8 hl8).2
        try (have hN7 := NZ.lt)
        refine C6.mono ?_
        clear C6
        obtain ⟨lo6, el6⟩ : ∃ l, wd.heap.size = l := ⟨_, rfl⟩
        have F6 := fun h => fitM.sealed9 (ds := ds) (cop := cop) (m := m) (x := (z7 : Int)) (l := eraM s8 m.epoch) h
        intro e wd' hA6
        generalize hAM : seal9M ds cop m (z7 : Int) (eraM s8 m.epoch) = AM at *
        obtain ⟨m6, k6⟩ := AM
        clear hAM
        obtain ⟨⟨u6, rfl, O6, A6⟩, b6⟩ := hA6
        obtain ⟨q6, rfl, I6⟩ := ApM.both O6 A6
        simp only at I6 F6
        replace Dc := Dc.below b6
        try replace NZ := NZ.below b6
        rw [el6] at I6
        try rw [el6] at hN7
        have hs6 := b6.size
        have hl6 : bt + 1 ≤ lo6 := by omega
        replace hsz : wr.heap.size ≤ wd'.heap.size := by omega
        obtain ⟨hi6, eh6⟩ : ∃ l, wd'.heap.size = l := ⟨_, rfl⟩
        rw [eh6] at I6
        have hh6 : hi6 ≤ wd'.heap.size := by omega
        clear b6 O6 A6 hs6 el6 eh6
        try clear S8
        try clear E8
        try clear Z8
        generalize wd' = wd at *
        (try go_wp2_with fail)
        refine hK.out _ _ (by first | with_reducible exact Dc.cells | with_reducible exact pDd | with_reducible exact pD | go_keep) (fun hHeld => ?_)
        clear hK K
        try simp only [Act.put, sA, sB, sC]
        refine tY 13 (v := ?_) rfl (by kernel_rfl) (.inl ⟨by rfl, ?_⟩) ‹_› ?_
        rotate_left 1
        ·intro w hSw
         (try dsimp only at hSw)
         first | (go_simp; done) | (go_simp; with_reducible rfl)
        try simp only [Act.put, sA, sB, sC]
        refine tY 14 (v := ?_) rfl (by kernel_rfl) (.inl ⟨by rfl, ?_⟩) ‹_› ?_
        rotate_left 1
        ·intro w hSw
         (try dsimp only at hSw)
         first | (go_simp; done) | (go_simp; with_reducible rfl)
        try simp only [Act.put, sA, sB, sC]
        refine tY 15 (v := ?_) rfl (by kernel_rfl) (.inl ⟨by rfl, ?_⟩) ‹_› ?_
        rotate_left 1
        ·intro w hSw
         (try dsimp only at hSw)
         first | (go_simp; done) | (go_simp; with_reducible rfl)
        try simp only [Act.put, sA, sB, sC]
        refine wpAnyH_ready (rs := [16]) (by kernel_rfl) (by simp) ?_
        refine rC rfl (fun K hK => ?_) AllReadyH.nil
        go_simp
        have NZ := BxZ.new (B := 0) wd [.int .i64 0, .int .i64 0, .slice none 0 0, .slice none 0 0, .bool false, .slice none 0 0] 30 (Nat.zero_le _)
        have es7 : (wd.alloc (.cells #[.int .i64 0, .int .i64 0, .slice none 0 0, .slice none 0 0, .bool false, .slice none 0 0] 30)).heap.size = wd.heap.size + 1 := by simp
        replace Dc := Dc.below (ba wd (.cells #[.int .i64 0, .int .i64 0, .slice none 0 0, .slice none 0 0, .bool false, .slice none 0 0] 30))
        try replace S8 := S8.below (ba wd (.cells #[.int .i64 0, .int .i64 0, .slice none 0 0, .slice none 0 0, .bool false, .slice none 0 0] 30))
        try replace E8 := Rw.below E8 (ba wd (.cells #[.int .i64 0, .int .i64 0, .slice none 0 0, .slice none 0 0, .bool false, .slice none 0 0] 30))
        try replace Z8 := Z8.below (ba wd (.cells #[.int .i64 0, .int .i64 0, .slice none 0 0, .slice none 0 0, .bool false, .slice none 0 0] 30))
        try (have hap : hi6 ≤ wd.heap.size := hh6)
        try (replace I6 := fun h => ownBelow (I6 h) hh6 (ba wd (.cells #[.int .i64 0, .int .i64 0, .slice none 0 0, .slice none 0 0, .bool false, .slice none 0 0] 30)))
        try (replace hh6 : hi6 ≤ (wd.alloc (.cells #[.int .i64 0, .int .i64 0, .slice none 0 0, .slice none 0 0, .bool false, .slice none 0 0] 30)).heap.size := by omega)
        have hb7 : wr.heap.size ≤ wd.heap.size := hsz
        replace hsz : wr.heap.size ≤ (wd.alloc (.cells #[.int .i64 0, .int .i64 0, .slice none 0 0, .slice none 0 0, .bool false, .slice none 0 0] 30)).heap.size := by omega
        clear es7
        generalize wd.heap.size = b7 at *
        generalize wd.alloc (.cells #[.int .i64 0, .int .i64 0, .slice none 0 0, .slice none 0 0, .bool false, .slice none 0 0] 30) = wd at *
        refine hK.out _ _ (by first | with_reducible exact Dc.cells | with_reducible exact pDd | with_reducible exact pD | go_keep) (fun hHeld => ?_)
        clear hK K
        try simp only [Act.put, sA, sB, sC]
        refine wpAnyH_ready (rs := [17]) (by kernel_rfl) (by simp) ?_
        refine rC rfl (fun K hK => ?_) AllReadyH.nil
        obtain ⟨⟨z0, f0⟩, ⟨z1, f1⟩, ⟨z2, f2⟩, ⟨z3, f3⟩, ⟨z4, f4⟩, ⟨z5, f5⟩⟩ : (_ ∧ _) ∧ (_ ∧ _) ∧ (_ ∧ _) ∧ (_ ∧ _) ∧ (_ ∧ _) ∧ (_ ∧ _) := ⟨NZ.2 0 _ rfl, NZ.2 1 _ rfl, NZ.2 2 _ rfl, NZ.2 3 _ rfl, NZ.2 4 _ rfl, NZ.2 5 _ rfl⟩
        go_simp
        have N8 : Hid (k6 = true → bt + 1 ≤ lo6 ∧ fitM m6 ∧ DX _ b7 lo6 hi6 m6 q6) := fun h => ⟨hl6, F6 h, DX.put (I6 h) hh6 NZ (by first | exact .inl hN7 | exact .inr hap)⟩
        replace Dc := Dc.set6 hk ht hw hb7 (by omega) (.int .i64 m6.bye) (.int .i64 m6.epoch) (.slice q6.sa m6.sealed.length q6.sc) (.slice q6.ea m6.seen.length q6.ec) (.bool m6.planned) (.slice q6.wa m6.wrote.length q6.wc)
        clear z0 f0 z1 f1 z2 f2 z3 f3 z4 f4 z5 f5 NZ I6
        refine hK.out _ _ (by first | with_reducible exact Dc.cells | with_reducible exact pDd | with_reducible exact pD | go_keep) (fun hHeld => ?_)
        clear hK K
        try simp only [Act.put, sA, sB, sC]
        refine tY 18 (v := ?_) rfl (by kernel_rfl) (.inl ⟨by rfl, ?_⟩) ‹_› ?_
        rotate_left 1
        ·intro w hSw
         (try dsimp only at hSw)
         first | (go_simp; done) | (go_simp; with_reducible rfl)
        try simp only [Act.put, sA, sB, sC]
        refine wpAnyH_done (by kernel_rfl) ?_ _
        refine NoPanic.normal ?_
        go_wp2_with fail
        go_meet
        case rel => exact ⟨b7, lo6, hi6, m6, k6, q6, rfl, rfl, hb7, N8, Dc⟩
       ·go_simp
        have NZ := BxZ.new (B := 0) wd [.int .i64 0, .int .i64 0, .slice none 0 0, .slice none 0 0, .bool false, .slice none 0 0] 30 (Nat.zero_le _)
        have es7 : (wd.alloc (.cells #[.int .i64 0, .int .i64 0, .slice none 0 0, .slice none 0 0, .bool false, .slice none 0 0] 30)).heap.size = wd.heap.size + 1 := by simp
        replace Dc := Dc.below (ba wd (.cells #[.int .i64 0, .int .i64 0, .slice none 0 0, .slice none 0 0, .bool false, .slice none 0 0] 30))
        try replace S8 := S8.below (ba wd (.cells #[.int .i64 0, .int .i64 0, .slice none 0 0, .slice none 0 0, .bool false, .slice none 0 0] 30))
        try replace E8 := Rw.below E8 (ba wd (.cells #[.int .i64 0, .int .i64 0, .slice none 0 0, .slice none 0 0, .bool false, .slice none 0 0] 30))
        try replace Z8 := Z8.below (ba wd (.cells #[.int .i64 0, .int .i64 0, .slice none 0 0, .slice none 0 0, .bool false, .slice none 0 0] 30))
        try (have hap : hi6 ≤ wd.heap.size := hh6)
        try (replace I6 := fun h => ownBelow (I6 h) hh6 (ba wd (.cells #[.int .i64 0, .int .i64 0, .slice none 0 0, .slice none 0 0, .bool false, .slice none 0 0] 30)))
        try (replace hh6 : hi6 ≤ (wd.alloc (.cells #[.int .i64 0, .int .i64 0, .slice none 0 0, .slice none 0 0, .bool false, .slice none 0 0] 30)).heap.size := by omega)
        have hb7 : wr.heap.size ≤ wd.heap.size := hsz
        replace hsz : wr.heap.size ≤ (wd.alloc (.cells #[.int .i64 0, .int .i64 0, .slice none 0 0, .slice none 0 0, .bool false, .slice none 0 0] 30)).heap.size := by omega
        clear es7
        generalize wd.heap.size = b7 at *
        generalize wd.alloc (.cells #[.int .i64 0, .int .i64 0, .slice none 0 0, .slice none 0 0, .bool false, .slice none 0 0] 30) = wd at *
        refine hK.out _ _ (by first | with_reducible exact Dc.cells | with_reducible exact pDd | with_reducible exact pD | go_keep) (fun hHeld => ?_)
        clear hK K
        try simp only [Act.put, sA, sB, sC]
        refine wpAnyH_ready (rs := [12]) (by kernel_rfl) (by simp) ?_
        refine rC rfl (fun K hK => ?_) AllReadyH.nil
        go_simp
        have C6 := dU CP wd _ Dc z7 (by omega) u9 (eraM s8 m.epoch) E8 (eraFit hf8 hl8).1 (eraFit hf8 hl8).2
        try (have hN7 := NZ.lt)
        refine C6.mono ?_
        clear C6
        obtain ⟨lo6, el6⟩ : ∃ l, wd.heap.size = l := ⟨_, rfl⟩
        have F6 := fun h => fitM.sealed9 (ds := ds) (cop := cop) (m := m) (x := (z7 : Int)) (l := eraM s8 m.epoch) h
        intro e wd' hA6
        generalize hAM : seal9M ds cop m (z7 : Int) (eraM s8 m.epoch) = AM at *
        obtain ⟨m6, k6⟩ := AM
        clear hAM
        obtain ⟨⟨u6, rfl, O6, A6⟩, b6⟩ := hA6
        obtain ⟨q6, rfl, I6⟩ := ApM.both O6 A6
        simp only at I6 F6
        replace Dc := Dc.below b6
        try replace NZ := NZ.below b6
        rw [el6] at I6
        try rw [el6] at hN7
        have hs6 := b6.size
        have hl6 : bt + 1 ≤ lo6 := by omega
        replace hsz : wr.heap.size ≤ wd'.heap.size := by omega
        obtain ⟨hi6, eh6⟩ : ∃ l, wd'.heap.size = l := ⟨_, rfl⟩
        rw [eh6] at I6
        have hh6 : hi6 ≤ wd'.heap.size := by omega
        clear b6 O6 A6 hs6 el6 eh6
        try clear S8
        try clear E8
        try clear Z8
        generalize wd' = wd at *
        (try go_wp2_with fail)
        refine hK.out _ _ (by first | with_reducible exact Dc.cells | with_reducible exact pDd | with_reducible exact pD | go_keep) (fun hHeld => ?_)
        clear hK K
        try simp only [Act.put, sA, sB, sC]
        refine tY 13 (v := ?_) rfl (by kernel_rfl) (.inl ⟨by rfl, ?_⟩) ‹_› ?_
        rotate_left 1
        ·intro w hSw
         (try dsimp only at hSw)
         first | (go_simp; done) | (go_simp; with_reducible rfl)
        try simp only [Act.put, sA, sB, sC]
        refine tY 14 (v := ?_) rfl (by kernel_rfl) (.inl ⟨by rfl, ?_⟩) ‹_› ?_
        rotate_left 1
        ·intro w hSw
         (try dsimp only at hSw)
         first | (go_simp; done) | (go_simp; with_reducible rfl)
        try simp only [Act.put, sA, sB, sC]
        refine tY 15 (v := ?_) rfl (by kernel_rfl) (.inl ⟨by rfl, ?_⟩) ‹_› ?_
        rotate_left 1
        ·intro w hSw
         (try dsimp only at hSw)
         first | (go_simp; done) | (go_simp; with_reducible rfl)
        try simp only [Act.put, sA, sB, sC]
        refine wpAnyH_ready (rs := [17]) (by kernel_rfl) (by simp) ?_
        refine rC rfl (fun K hK => ?_) AllReadyH.nil
        obtain ⟨⟨z0, f0⟩, ⟨z1, f1⟩, ⟨z2, f2⟩, ⟨z3, f3⟩, ⟨z4, f4⟩, ⟨z5, f5⟩⟩ : (_ ∧ _) ∧ (_ ∧ _) ∧ (_ ∧ _) ∧ (_ ∧ _) ∧ (_ ∧ _) ∧ (_ ∧ _) := ⟨NZ.2 0 _ rfl, NZ.2 1 _ rfl, NZ.2 2 _ rfl, NZ.2 3 _ rfl, NZ.2 4 _ rfl, NZ.2 5 _ rfl⟩
        go_simp
        have N8 : Hid (k6 = true → bt + 1 ≤ lo6 ∧ fitM m6 ∧ DX _ b7 lo6 hi6 m6 q6) := fun h => ⟨hl6, F6 h, DX.put (I6 h) hh6 NZ (by first | exact .inl hN7 | exact .inr hap)⟩
        replace Dc := Dc.set6 hk ht hw hb7 (by omega) (.int .i64 m6.bye) (.int .i64 m6.epoch) (.slice q6.sa m6.sealed.length q6.sc) (.slice q6.ea m6.seen.length q6.ec) (.bool m6.planned) (.slice q6.wa m6.wrote.length q6.wc)
        clear z0 f0 z1 f1 z2 f2 z3 f3 z4 f4 z5 f5 NZ I6
        refine hK.out _ _ (by first | with_reducible exact Dc.cells | with_reducible exact pDd | with_reducible exact pD | go_keep) (fun hHeld => ?_)
        clear hK K
        try simp only [Act.put, sA, sB, sC]
        refine tY 18 (v := ?_) rfl (by kernel_rfl) (.inl ⟨by rfl, ?_⟩) ‹_› ?_
        rotate_left 1
        ·intro w hSw
         (try dsimp only at hSw)
         first | (go_simp; done) | (go_simp; with_reducible rfl)
        try simp only [Act.put, sA, sB, sC]
        refine wpAnyH_done (by kernel_rfl) ?_ _
        refine NoPanic.normal ?_
        go_wp2_with fail
        go_meet
        case rel => exact ⟨b7, lo6, hi6, m6, k6, q6, rfl, rfl, hb7, N8, Dc⟩
      ·go_simp
       have NZ := BxZ.new (B := 0) wd [.int .i64 0, .int .i64 0, .slice none 0 0, .slice none 0 0, .bool false, .slice none 0 0] 30 (Nat.zero_le _)
       have es7 : (wd.alloc (.cells #[.int .i64 0, .int .i64 0, .slice none 0 0, .slice none 0 0, .bool false, .slice none 0 0] 30)).heap.size = wd.heap.size + 1 := by simp
       replace Dc := Dc.below (ba wd (.cells #[.int .i64 0, .int .i64 0, .slice none 0 0, .slice none 0 0, .bool false, .slice none 0 0] 30))
       try replace S8 := S8.below (ba wd (.cells #[.int .i64 0, .int .i64 0, .slice none 0 0, .slice none 0 0, .bool false, .slice none 0 0] 30))
       try replace E8 := Rw.below E8 (ba wd (.cells #[.int .i64 0, .int .i64 0, .slice none 0 0, .slice none 0 0, .bool false, .slice none 0 0] 30))
       try replace Z8 := Z8.below (ba wd (.cells #[.int .i64 0, .int .i64 0, .slice none 0 0, .slice none 0 0, .bool false, .slice none 0 0] 30))
       try (have hap : hi6 ≤ wd.heap.size := hh6)
       try (replace I6 := fun h => ownBelow (I6 h) hh6 (ba wd (.cells #[.int .i64 0, .int .i64 0, .slice none 0 0, .slice none 0 0, .bool false, .slice none 0 0] 30)))
       try (replace hh6 : hi6 ≤ (wd.alloc (.cells #[.int .i64 0, .int .i64 0, .slice none 0 0, .slice none 0 0, .bool false, .slice none 0 0] 30)).heap.size := by omega)
       have hb7 : wr.heap.size ≤ wd.heap.size := hsz
       replace hsz : wr.heap.size ≤ (wd.alloc (.cells #[.int .i64 0, .int .i64 0, .slice none 0 0, .slice none 0 0, .bool false, .slice none 0 0] 30)).heap.size := by omega
       clear es7
       generalize wd.heap.size = b7 at *
       generalize wd.alloc (.cells #[.int .i64 0, .int .i64 0, .slice none 0 0, .slice none 0 0, .bool false, .slice none 0 0] 30) = wd at *
       refine hK.out _ _ (by first | with_reducible exact Dc.cells | with_reducible exact pDd | with_reducible exact pD | go_keep) (fun hHeld => ?_)
       clear hK K
       try simp only [Act.put, sA, sB, sC]
       refine wpAnyH_ready (rs := [11]) (by kernel_rfl) (by simp) ?_
       refine rC rfl (fun K hK => ?_) AllReadyH.nil
       go_simp
       refine (specEra_any u8 s8 m.epoch wd S8 hf8).mono ?_
       rintro e wd' ⟨⟨u9, rfl, A9⟩, b9⟩
       have E8 : Rw 4 Ent.cl wd' u9 (eraM s8 m.epoch) := (ApR.own elemE A9).rw
       replace Dc := Dc.below b9
       try replace NZ := NZ.below b9
       replace hsz : wr.heap.size ≤ wd'.heap.size := Nat.le_trans hsz b9.size
       clear A9 b9 S8
       generalize wd' = wd at *
       (try go_wp2_with fail)
       refine hK.out _ _ (by first | with_reducible exact Dc.cells | with_reducible exact pDd | with_reducible exact pD | go_keep) (fun hHeld => ?_)
       clear hK K
       try simp only [Act.put, sA, sB, sC]
       refine wpAnyH_ready (rs := [12]) (by kernel_rfl) (by simp) ?_
       refine rC rfl (fun K hK => ?_) AllReadyH.nil
       go_simp
       have C6 := dU CP wd _ Dc z7 (by omega) u9 (eraM s8 m.epoch) E8 (eraFit hf8 hl8).1 (eraFit hf8 hl8).2
       try (have hN7 := NZ.lt)
       refine C6.mono ?_
       clear C6
       obtain ⟨lo6, el6⟩ : ∃ l, wd.heap.size = l := ⟨_, rfl⟩
       have F6 := fun h => fitM.sealed9 (ds := ds) (cop := cop) (m := m) (x := (z7 : Int)) (l := eraM s8 m.epoch) h
       intro e wd' hA6
       generalize hAM : seal9M ds cop m (z7 : Int) (eraM s8 m.epoch) = AM at *
       obtain ⟨m6, k6⟩ := AM
       clear hAM
       obtain ⟨⟨u6, rfl, O6, A6⟩, b6⟩ := hA6
       obtain ⟨q6, rfl, I6⟩ := ApM.both O6 A6
       simp only at I6 F6
       replace Dc := Dc.below b6
       try replace NZ := NZ.below b6
       rw [el6] at I6
       try rw [el6] at hN7
       have hs6 := b6.size
       have hl6 : bt + 1 ≤ lo6 := by omega
       replace hsz : wr.heap.size ≤ wd'.heap.size := by omega
       obtain ⟨hi6, eh6⟩ : ∃ l, wd'.heap.size = l := ⟨_, rfl⟩
       rw [eh6] at I6
       have hh6 : hi6 ≤ wd'.heap.size := by omega
       clear b6 O6 A6 hs6 el6 eh6
       try clear S8
       try clear E8
       try clear Z8
       generalize wd' = wd at *
       (try go_wp2_with fail)
       refine hK.out _ _ (by first | with_reducible exact Dc.cells | with_reducible exact pDd | with_reducible exact pD | go_keep) (fun hHeld => ?_)
       clear hK K
       try simp only [Act.put, sA, sB, sC]
       refine tY 13 (v := ?_) rfl (by kernel_rfl) (.inl ⟨by rfl, ?_⟩) ‹_› ?_
       rotate_left 1
       ·intro w hSw
        (try dsimp only at hSw)
        first | (go_simp; done) | (go_simp; with_reducible rfl)
       try simp only [Act.put, sA, sB, sC]
       refine tY 14 (v := ?_) rfl (by kernel_rfl) (.inl ⟨by rfl, ?_⟩) ‹_› ?_
       rotate_left 1
       ·intro w hSw
        (try dsimp only at hSw)
        first | (go_simp; done) | (go_simp; with_reducible rfl)
       try simp only [Act.put, sA, sB, sC]
       refine tY 15 (v := ?_) rfl (by kernel_rfl) (.inl ⟨by rfl, ?_⟩) ‹_› ?_
       rotate_left 1
       ·intro w hSw
        (try dsimp only at hSw)
        first | (go_simp; done) | (go_simp; with_reducible rfl)
       try simp only [Act.put, sA, sB, sC]
       refine wpAnyH_ready (rs := [17]) (by kernel_rfl) (by simp) ?_
       refine rC rfl (fun K hK => ?_) AllReadyH.nil
       obtain ⟨⟨z0, f0⟩, ⟨z1, f1⟩, ⟨z2, f2⟩, ⟨z3, f3⟩, ⟨z4, f4⟩, ⟨z5, f5⟩⟩ : (_ ∧ _) ∧ (_ ∧ _) ∧ (_ ∧ _) ∧ (_ ∧ _) ∧ (_ ∧ _) ∧ (_ ∧ _) := ⟨NZ.2 0 _ rfl, NZ.2 1 _ rfl, NZ.2 2 _ rfl, NZ.2 3 _ rfl, NZ.2 4 _ rfl, NZ.2 5 _ rfl⟩
       go_simp
       have N8 : Hid (k6 = true → bt + 1 ≤ lo6 ∧ fitM m6 ∧ DX _ b7 lo6 hi6 m6 q6) := fun h => ⟨hl6, F6 h, DX.put (I6 h) hh6 NZ (by first | exact .inl hN7 | exact .inr hap)⟩
       replace Dc := Dc.set6 hk ht hw hb7 (by omega) (.int .i64 m6.bye) (.int .i64 m6.epoch) (.slice q6.sa m6.sealed.length q6.sc) (.slice q6.ea m6.seen.length q6.ec) (.bool m6.planned) (.slice q6.wa m6.wrote.length q6.wc)
       clear z0 f0 z1 f1 z2 f2 z3 f3 z4 f4 z5 f5 NZ I6
       refine hK.out _ _ (by first | with_reducible exact Dc.cells | with_reducible exact pDd | with_reducible exact pD | go_keep) (fun hHeld => ?_)
       clear hK K
       try simp only [Act.put, sA, sB, sC]
       refine tY 18 (v := ?_) rfl (by kernel_rfl) (.inl ⟨by rfl, ?_⟩) ‹_› ?_
       rotate_left 1
       ·intro w hSw
        (try dsimp only at hSw)
        first | (go_simp; done) | (go_simp; with_reducible rfl)
       try simp only [Act.put, sA, sB, sC]
       refine wpAnyH_done (by kernel_rfl) ?_ _
       refine NoPanic.normal ?_
       go_wp2_with fail
       go_meet
       case rel => exact ⟨b7, lo6, hi6, m6, k6, q6, rfl, rfl, hb7, N8, Dc⟩
     ·go_simp
      have NZ := BxZ.new (B := 0) wd [.int .i64 0, .int .i64 0, .slice none 0 0, .slice none 0 0, .bool false, .slice none 0 0] 30 (Nat.zero_le _)
      have es7 : (wd.alloc (.cells #[.int .i64 0, .int .i64 0, .slice none 0 0, .slice none 0 0, .bool false, .slice none 0 0] 30)).heap.size = wd.heap.size + 1 := by simp
      replace Dc := Dc.below (ba wd (.cells #[.int .i64 0, .int .i64 0, .slice none 0 0, .slice none 0 0, .bool false, .slice none 0 0] 30))
      try replace S8 := S8.below (ba wd (.cells #[.int .i64 0, .int .i64 0, .slice none 0 0, .slice none 0 0, .bool false, .slice none 0 0] 30))
      try replace E8 := Rw.below E8 (ba wd (.cells #[.int .i64 0, .int .i64 0, .slice none 0 0, .slice none 0 0, .bool false, .slice none 0 0] 30))
      try replace Z8 := Z8.below (ba wd (.cells #[.int .i64 0, .int .i64 0, .slice none 0 0, .slice none 0 0, .bool false, .slice none 0 0] 30))
      try (have hap : hi6 ≤ wd.heap.size := hh6)
      try (replace I6 := fun h => ownBelow (I6 h) hh6 (ba wd (.cells #[.int .i64 0, .int .i64 0, .slice none 0 0, .slice none 0 0, .bool false, .slice none 0 0] 30)))
      try (replace hh6 : hi6 ≤ (wd.alloc (.cells #[.int .i64 0, .int .i64 0, .slice none 0 0, .slice none 0 0, .bool false, .slice none 0 0] 30)).heap.size := by omega)
      have hb7 : wr.heap.size ≤ wd.heap.size := hsz
      replace hsz : wr.heap.size ≤ (wd.alloc (.cells #[.int .i64 0, .int .i64 0, .slice none 0 0, .slice none 0 0, .bool false, .slice none 0 0] 30)).heap.size := by omega
      clear es7
      generalize wd.heap.size = b7 at *
      generalize wd.alloc (.cells #[.int .i64 0, .int .i64 0, .slice none 0 0, .slice none 0 0, .bool false, .slice none 0 0] 30) = wd at *
      refine hK.out _ _ (by first | with_reducible exact Dc.cells | with_reducible exact pDd | with_reducible exact pD | go_keep) (fun hHeld => ?_)
      clear hK K
      try simp only [Act.put, sA, sB, sC]
      refine wpAnyH_ready (rs := [8]) (by kernel_rfl) (by simp) ?_
      refine rC rfl (fun K hK => ?_) AllReadyH.nil
      go_simp
      refine (l6DrawRight_any bk wd Dc.cur).mono ?_
      rintro e wd ⟨⟨u8, rfl, s8, O8, hf8, hl8, -⟩, hc7, hd7⟩
      replace Dc := Dc.move hk ht hne hc7 hd7
      try replace NZ := NZ.drawn hd7 (by omega)
      replace hsz : wr.heap.size ≤ wd.heap.size := Nat.le_trans hsz hd7.size
      have S8 := O8.rs
      clear O8
      clear hc7 hd7
      (try go_wp2_with fail)
      refine hK.out _ _ (by first | with_reducible exact Dc.cells | with_reducible exact pDd | with_reducible exact pD | go_keep) (fun hHeld => ?_)
      clear hK K
      try simp only [Act.put, sA, sB, sC]
      refine wpAnyH_ready (rs := [11]) (by kernel_rfl) (by simp) ?_
      refine rC rfl (fun K hK => ?_) AllReadyH.nil
      go_simp
      refine (specEra_any u8 s8 m.epoch wd S8 hf8).mono ?_
      rintro e wd' ⟨⟨u9, rfl, A9⟩, b9⟩
      have E8 : Rw 4 Ent.cl wd' u9 (eraM s8 m.epoch) := (ApR.own elemE A9).rw
      replace Dc := Dc.below b9
      try replace NZ := NZ.below b9
      replace hsz : wr.heap.size ≤ wd'.heap.size := Nat.le_trans hsz b9.size
      clear A9 b9 S8
      generalize wd' = wd at *
      (try go_wp2_with fail)
      refine hK.out _ _ (by first | with_reducible exact Dc.cells | with_reducible exact pDd | with_reducible exact pD | go_keep) (fun hHeld => ?_)
      clear hK K
      try simp only [Act.put, sA, sB, sC]
      refine wpAnyH_ready (rs := [12]) (by kernel_rfl) (by simp) ?_
      refine rC rfl (fun K hK => ?_) AllReadyH.nil
      go_simp
      have C6 := dU CP wd _ Dc z7 (by omega) u9 (eraM s8 m.epoch) E8 (eraFit hf8 hl8).1 (eraFit hf8 hl8).2
      try (have hN7 := NZ.lt)
      refine C6.mono ?_
      clear C6
      obtain ⟨lo6, el6⟩ : ∃ l, wd.heap.size = l := ⟨_, rfl⟩
      have F6 := fun h => fitM.sealed9 (ds := ds) (cop := cop) (m := m) (x := (z7 : Int)) (l := eraM s8 m.epoch) h
      intro e wd' hA6
      generalize hAM : seal9M ds cop m (z7 : Int) (eraM s8 m.epoch) = AM at *
      obtain ⟨m6, k6⟩ := AM
      clear hAM
      obtain ⟨⟨u6, rfl, O6, A6⟩, b6⟩ := hA6
      obtain ⟨q6, rfl, I6⟩ := ApM.both O6 A6
      simp only at I6 F6
      replace Dc := Dc.below b6
      try replace NZ := NZ.below b6
      rw [el6] at I6
      try rw [el6] at hN7
      have hs6 := b6.size
      have hl6 : bt + 1 ≤ lo6 := by omega
      replace hsz : wr.heap.size ≤ wd'.heap.size := by omega
      obtain ⟨hi6, eh6⟩ : ∃ l, wd'.heap.size = l := ⟨_, rfl⟩
      rw [eh6] at I6
      have hh6 : hi6 ≤ wd'.heap.size := by omega
      clear b6 O6 A6 hs6 el6 eh6
      try clear S8
      try clear E8
      try clear Z8
      generalize wd' = wd at *
      (try go_wp2_with fail)
      refine hK.out _ _ (by first | with_reducible exact Dc.cells | with_reducible exact pDd | with_reducible exact pD | go_keep) (fun hHeld => ?_)
      clear hK K
      try simp only [Act.put, sA, sB, sC]
      refine tY 13 (v := ?_) rfl (by kernel_rfl) (.inl ⟨by rfl, ?_⟩) ‹_› ?_
      rotate_left 1
      ·intro w hSw
       (try dsimp only at hSw)
       first | (go_simp; done) | (go_simp; with_reducible rfl)
      try simp only [Act.put, sA, sB, sC]
      refine tY 14 (v := ?_) rfl (by kernel_rfl) (.inl ⟨by rfl, ?_⟩) ‹_› ?_
      rotate_left 1
      ·intro w hSw
       (try dsimp only at hSw)
       first | (go_simp; done) | (go_simp; with_reducible rfl)
      try simp only [Act.put, sA, sB, sC]
      refine tY 15 (v := ?_) rfl (by kernel_rfl) (.inl ⟨by rfl, ?_⟩) ‹_› ?_
      rotate_left 1
      ·intro w hSw
       (try dsimp only at hSw)
       first | (go_simp; done) | (go_simp; with_reducible rfl)
      try simp only [Act.put, sA, sB, sC]
      refine wpAnyH_ready (rs := [17]) (by kernel_rfl) (by simp) ?_
      refine rC rfl (fun K hK => ?_) AllReadyH.nil
      obtain ⟨⟨z0, f0⟩, ⟨z1, f1⟩, ⟨z2, f2⟩, ⟨z3, f3⟩, ⟨z4, f4⟩, ⟨z5, f5⟩⟩ : (_ ∧ _) ∧ (_ ∧ _) ∧ (_ ∧ _) ∧ (_ ∧ _) ∧ (_ ∧ _) ∧ (_ ∧ _) := ⟨NZ.2 0 _ rfl, NZ.2 1 _ rfl, NZ.2 2 _ rfl, NZ.2 3 _ rfl, NZ.2 4 _ rfl, NZ.2 5 _ rfl⟩
      go_simp
      have N8 : Hid (k6 = true → bt + 1 ≤ lo6 ∧ fitM m6 ∧ DX _ b7 lo6 hi6 m6 q6) := fun h => ⟨hl6, F6 h, DX.put (I6 h) hh6 NZ (by first | exact .inl hN7 | exact .inr hap)⟩
      replace Dc := Dc.set6 hk ht hw hb7 (by omega) (.int .i64 m6.bye) (.int .i64 m6.epoch) (.slice q6.sa m6.sealed.length q6.sc) (.slice q6.ea m6.seen.length q6.ec) (.bool m6.planned) (.slice q6.wa m6.wrote.length q6.wc)
      clear z0 f0 z1 f1 z2 f2 z3 f3 z4 f4 z5 f5 NZ I6
      refine hK.out _ _ (by first | with_reducible exact Dc.cells | with_reducible exact pDd | with_reducible exact pD | go_keep) (fun hHeld => ?_)
      clear hK K
      try simp only [Act.put, sA, sB, sC]
      refine tY 18 (v := ?_) rfl (by kernel_rfl) (.inl ⟨by rfl, ?_⟩) ‹_› ?_
      rotate_left 1
      ·intro w hSw
       (try dsimp only at hSw)
       first | (go_simp; done) | (go_simp; with_reducible rfl)
      try simp only [Act.put, sA, sB, sC]
      refine wpAnyH_done (by kernel_rfl) ?_ _
      refine NoPanic.normal ?_
      go_wp2_with fail
      go_meet
      case rel => exact ⟨b7, lo6, hi6, m6, k6, q6, rfl, rfl, hb7, N8, Dc⟩
    ·go_simp
     have NZ := BxZ.new (B := 0) wd [.int .i64 0, .int .i64 0, .slice none 0 0, .slice none 0 0, .bool false, .slice none 0 0] 30 (Nat.zero_le _)
     have es7 : (wd.alloc (.cells #[.int .i64 0, .int .i64 0, .slice none 0 0, .slice none 0 0, .bool false, .slice none 0 0] 30)).heap.size = wd.heap.size + 1 := by simp
     replace Dc := Dc.below (ba wd (.cells #[.int .i64 0, .int .i64 0, .slice none 0 0, .slice none 0 0, .bool false, .slice none 0 0] 30))
     try replace S8 := S8.below (ba wd (.cells #[.int .i64 0, .int .i64 0, .slice none 0 0, .slice none 0 0, .bool false, .slice none 0 0] 30))
     try replace E8 := Rw.below E8 (ba wd (.cells #[.int .i64 0, .int .i64 0, .slice none 0 0, .slice none 0 0, .bool false, .slice none 0 0] 30))
     try replace Z8 := Z8.below (ba wd (.cells #[.int .i64 0, .int .i64 0, .slice none 0 0, .slice none 0 0, .bool false, .slice none 0 0] 30))
     try (have hap : hi6 ≤ wd.heap.size := hh6)
     try (replace I6 := fun h => ownBelow (I6 h) hh6 (ba wd (.cells #[.int .i64 0, .int .i64 0, .slice none 0 0, .slice none 0 0, .bool false, .slice none 0 0] 30)))
     try (replace hh6 : hi6 ≤ (wd.alloc (.cells #[.int .i64 0, .int .i64 0, .slice none 0 0, .slice none 0 0, .bool false, .slice none 0 0] 30)).heap.size := by omega)
     have hb7 : wr.heap.size ≤ wd.heap.size := hsz
     replace hsz : wr.heap.size ≤ (wd.alloc (.cells #[.int .i64 0, .int .i64 0, .slice none 0 0, .slice none 0 0, .bool false, .slice none 0 0] 30)).heap.size := by omega
     clear es7
     generalize wd.heap.size = b7 at *
     generalize wd.alloc (.cells #[.int .i64 0, .int .i64 0, .slice none 0 0, .slice none 0 0, .bool false, .slice none 0 0] 30) = wd at *
     refine hK.out _ _ (by first | with_reducible exact Dc.cells | with_reducible exact pDd | with_reducible exact pD | go_keep) (fun hHeld => ?_)
     clear hK K
     try simp only [Act.put, sA, sB, sC]
     refine wpAnyH_ready (rs := [6]) (by kernel_rfl) (by simp) ?_
     refine rC rfl (fun K hK => ?_) AllReadyH.nil
     go_simp
     refine (l1Below_le bk ds.length (by omega) wd Dc.cur).mono ?_
     rintro e wd ⟨⟨z7, hz7, rfl⟩, hc7, hd7⟩
     replace Dc := Dc.move hk ht hne hc7 hd7
     try replace NZ := NZ.drawn hd7 (by omega)
     replace hsz : wr.heap.size ≤ wd.heap.size := Nat.le_trans hsz hd7.size
     clear hc7 hd7
     (try go_wp2_with fail)
     refine hK.out _ _ (by first | with_reducible exact Dc.cells | with_reducible exact pDd | with_reducible exact pD | go_keep) (fun hHeld => ?_)
     clear hK K
     try simp only [Act.put, sA, sB, sC]
     refine wpAnyH_ready (rs := [8]) (by kernel_rfl) (by simp) ?_
     refine rC rfl (fun K hK => ?_) AllReadyH.nil
     go_simp
     refine (l6DrawRight_any bk wd Dc.cur).mono ?_
     rintro e wd ⟨⟨u8, rfl, s8, O8, hf8, hl8, -⟩, hc7, hd7⟩
     replace Dc := Dc.move hk ht hne hc7 hd7
     try replace NZ := NZ.drawn hd7 (by omega)
     replace hsz : wr.heap.size ≤ wd.heap.size := Nat.le_trans hsz hd7.size
     have S8 := O8.rs
     clear O8
     clear hc7 hd7
     (try go_wp2_with fail)
     refine hK.out _ _ (by first | with_reducible exact Dc.cells | with_reducible exact pDd | with_reducible exact pD | go_keep) (fun hHeld => ?_)
     clear hK K
     try simp only [Act.put, sA, sB, sC]
     refine wpAnyH_ready (rs := [11]) (by kernel_rfl) (by simp) ?_
     refine rC rfl (fun K hK => ?_) AllReadyH.nil
     go_simp
     refine (specEra_any u8 s8 m.epoch wd S8 hf8).mono ?_
     rintro e wd' ⟨⟨u9, rfl, A9⟩, b9⟩
     have E8 : Rw 4 Ent.cl wd' u9 (eraM s8 m.epoch) := (ApR.own elemE A9).rw
     replace Dc := Dc.below b9
     try replace NZ := NZ.below b9
     replace hsz : wr.heap.size ≤ wd'.heap.size := Nat.le_trans hsz b9.size
     clear A9 b9 S8
     generalize wd' = wd at *
     (try go_wp2_with fail)
     refine hK.out _ _ (by first | with_reducible exact Dc.cells | with_reducible exact pDd | with_reducible exact pD | go_keep) (fun hHeld => ?_)
     clear hK K
     try simp only [Act.put, sA, sB, sC]
     refine wpAnyH_ready (rs := [12]) (by kernel_rfl) (by simp) ?_
     refine rC rfl (fun K hK => ?_) AllReadyH.nil
     go_simp
     have C6 := dU CP wd _ Dc z7 (by omega) u9 (eraM s8 m.epoch) E8 (eraFit hf8 hl8).1 (eraFit hf8 hl8).2
     try (have hN7 := NZ.lt)
     refine C6.mono ?_
     clear C6
     obtain ⟨lo6, el6⟩ : ∃ l, wd.heap.size = l := ⟨_, rfl⟩
     have F6 := fun h => fitM.sealed9 (ds := ds) (cop := cop) (m := m) (x := (z7 : Int)) (l := eraM s8 m.epoch) h
     intro e wd' hA6
     generalize hAM : seal9M ds cop m (z7 : Int) (eraM s8 m.epoch) = AM at *
     obtain ⟨m6, k6⟩ := AM
     clear hAM
     obtain ⟨⟨u6, rfl, O6, A6⟩, b6⟩ := hA6
     obtain ⟨q6, rfl, I6⟩ := ApM.both O6 A6
     simp only at I6 F6
     replace Dc := Dc.below b6
     try replace NZ := NZ.below b6
     rw [el6] at I6
     try rw [el6] at hN7
     have hs6 := b6.size
     have hl6 : bt + 1 ≤ lo6 := by omega
     replace hsz : wr.heap.size ≤ wd'.heap.size := by omega
     obtain ⟨hi6, eh6⟩ : ∃ l, wd'.heap.size = l := ⟨_, rfl⟩
     rw [eh6] at I6
     have hh6 : hi6 ≤ wd'.heap.size := by omega
     clear b6 O6 A6 hs6 el6 eh6
     try clear S8
     try clear E8
     try clear Z8
     generalize wd' = wd at *
     (try go_wp2_with fail)
     refine hK.out _ _ (by first | with_reducible exact Dc.cells | with_reducible exact pDd | with_reducible exact pD | go_keep) (fun hHeld => ?_)
     clear hK K
     try simp only [Act.put, sA, sB, sC]
     refine tY 13 (v := ?_) rfl (by kernel_rfl) (.inl ⟨by rfl, ?_⟩) ‹_› ?_
     rotate_left 1
     ·intro w hSw
      (try dsimp only at hSw)
      first | (go_simp; done) | (go_simp; with_reducible rfl)
     try simp only [Act.put, sA, sB, sC]
     refine tY 14 (v := ?_) rfl (by kernel_rfl) (.inl ⟨by rfl, ?_⟩) ‹_› ?_
     rotate_left 1
     ·intro w hSw
      (try dsimp only at hSw)
      first | (go_simp; done) | (go_simp; with_reducible rfl)
     try simp only [Act.put, sA, sB, sC]
     refine tY 15 (v := ?_) rfl (by kernel_rfl) (.inl ⟨by rfl, ?_⟩) ‹_› ?_
     rotate_left 1
     ·intro w hSw
      (try dsimp only at hSw)
      first | (go_simp; done) | (go_simp; with_reducible rfl)
     try simp only [Act.put, sA, sB, sC]
     refine wpAnyH_ready (rs := [17]) (by kernel_rfl) (by simp) ?_
     refine rC rfl (fun K hK => ?_) AllReadyH.nil
     obtain ⟨⟨z0, f0⟩, ⟨z1, f1⟩, ⟨z2, f2⟩, ⟨z3, f3⟩, ⟨z4, f4⟩, ⟨z5, f5⟩⟩ : (_ ∧ _) ∧ (_ ∧ _) ∧ (_ ∧ _) ∧ (_ ∧ _) ∧ (_ ∧ _) ∧ (_ ∧ _) := ⟨NZ.2 0 _ rfl, NZ.2 1 _ rfl, NZ.2 2 _ rfl, NZ.2 3 _ rfl, NZ.2 4 _ rfl, NZ.2 5 _ rfl⟩
     go_simp
     have N8 : Hid (k6 = true → bt + 1 ≤ lo6 ∧ fitM m6 ∧ DX _ b7 lo6 hi6 m6 q6) := fun h => ⟨hl6, F6 h, DX.put (I6 h) hh6 NZ (by first | exact .inl hN7 | exact .inr hap)⟩
     replace Dc := Dc.set6 hk ht hw hb7 (by omega) (.int .i64 m6.bye) (.int .i64 m6.epoch) (.slice q6.sa m6.sealed.length q6.sc) (.slice q6.ea m6.seen.length q6.ec) (.bool m6.planned) (.slice q6.wa m6.wrote.length q6.wc)
     clear z0 f0 z1 f1 z2 f2 z3 f3 z4 f4 z5 f5 NZ I6
     refine hK.out _ _ (by first | with_reducible exact Dc.cells | with_reducible exact pDd | with_reducible exact pD | go_keep) (fun hHeld => ?_)
     clear hK K
     try simp only [Act.put, sA, sB, sC]
     refine tY 18 (v := ?_) rfl (by kernel_rfl) (.inl ⟨by rfl, ?_⟩) ‹_› ?_
     rotate_left 1
     ·intro w hSw
      (try dsimp only at hSw)
      first | (go_simp; done) | (go_simp; with_reducible rfl)
     try simp only [Act.put, sA, sB, sC]
     refine wpAnyH_done (by kernel_rfl) ?_ _
     refine NoPanic.normal ?_
     go_wp2_with fail
     go_meet
     case rel => exact ⟨b7, lo6, hi6, m6, k6, q6, rfl, rfl, hb7, N8, Dc⟩
   case rest =>
    obtain ⟨bo, lo', hi', m', mb, q', rfl, rfl, hbo, N2, D2⟩ := hcut
    clear CP Dc pDd D pD hsw
    generalize wc = w5 at *
    cases mb with
    | false =>
     have D5 := dU D2
     have HD := dH (D5.weak (B' := w5.heap.size) (by have := D5.men.fit; omega) (Nat.le_refl _))
     clear D2 D5 N2
     go_wp2
     go_roundw
     case rel => exact ⟨k + 1, m, q, by go_num, by omega, HD⟩
     case measure => simp [intOf]; omega
    | true =>
     obtain ⟨hl5, hf5, N5⟩ := dU N2 rfl
     have D5 := dU D2
     clear N2 D2
     have nb := N5.box
     obtain ⟨⟨y0, -⟩, ⟨y1, -⟩, ⟨y2, -⟩, ⟨y3, -⟩, ⟨y4, -⟩, ⟨y5, -⟩⟩ : (_ ∧ _) ∧ (_ ∧ _) ∧ (_ ∧ _) ∧ (_ ∧ _) ∧ (_ ∧ _) ∧ (_ ∧ _) := ⟨nb.2 0 _ rfl, nb.2 1 _ rfl, nb.2 2 _ rfl, nb.2 3 _ rfl, nb.2 4 _ rfl, nb.2 5 _ rfl⟩
     obtain ⟨⟨z0, f0⟩, ⟨z1, f1⟩, ⟨z2, f2⟩, ⟨z3, f3⟩, ⟨z4, f4⟩, ⟨z5, f5⟩⟩ : (_ ∧ _) ∧ (_ ∧ _) ∧ (_ ∧ _) ∧ (_ ∧ _) ∧ (_ ∧ _) ∧ (_ ∧ _) := ⟨D5.men.box.2 0 _ rfl, D5.men.box.2 1 _ rfl, D5.men.box.2 2 _ rfl, D5.men.box.2 3 _ rfl, D5.men.box.2 4 _ rfl, D5.men.box.2 5 _ rfl⟩
     have HT := (D5.take hk ht hw N5 hl5 hf5)
     replace HT := dH (HT.weak (B' := ((((((w5.setCell ⟨bt, 0, none⟩ (.int .i64 m'.bye)).setCell ⟨bt, 1, none⟩ (.int .i64 m'.epoch)).setCell ⟨bt, 2, none⟩ (.slice q'.sa m'.sealed.length q'.sc)).setCell ⟨bt, 3, none⟩ (.slice q'.ea m'.seen.length q'.ec)).setCell ⟨bt, 4, none⟩ (.bool m'.planned)).setCell ⟨bt, 5, none⟩ (.slice q'.wa m'.wrote.length q'.wc)).heap.size) (by simp) (Nat.le_refl _))
     clear D5 N5 nb
     go_wp2
     go_roundw
     case rel => exact ⟨k + 1, _, _, by go_num, by omega, HT⟩
     case measure => simp [intOf]; omega
  ·have Dw := dH D
   have CON := l1Once_any bk 3 (by omega) (by omega) wr D.cur
   replace CON := dH CON
   clear D
   go_wp2_with fail
   refine (dU CON).mono ?_
   rintro r w5 ⟨⟨y5, rfl⟩, hc5, hd5⟩
   have hs5 := hd5.size
   have D5 := (((dU Dw).move hk ht hne hc5 hd5).weak (B' := w5.heap.size) hs5 (Nat.le_refl _))
   clear Dw CON hc5 hd5
   cases y5 with
   | true =>
    obtain ⟨⟨z0, f0⟩, ⟨z1, f1⟩, ⟨z2, f2⟩, ⟨z3, f3⟩, ⟨z4, f4⟩, ⟨z5, f5⟩⟩ : (_ ∧ _) ∧ (_ ∧ _) ∧ (_ ∧ _) ∧ (_ ∧ _) ∧ (_ ∧ _) ∧ (_ ∧ _) := ⟨D5.res.2 0 _ rfl, D5.res.2 1 _ rfl, D5.res.2 2 _ rfl, D5.res.2 3 _ rfl, D5.res.2 4 _ rfl, D5.res.2 5 _ rfl⟩
    obtain ⟨-, k0, k1, k2, k3, k4, k5⟩ := D5.cells
    have ZZ := dH ((((((D5.res.put 0 (.int .i64 m.bye)).put 1 (.int .i64 m.epoch)).put 2 (.slice q.sa m.sealed.length q.sc)).put 3 (.slice q.ea m.seen.length q.ec)).put 4 (.bool m.planned)).put 5 (.slice q.wa m.wrote.length q.wc))
    obtain ⟨rs9, e9, M9⟩ := D5.men.own
    have hbt : bt < w5.heap.size := D5.lt
    have OO := dH ((((((M9.far (b := w.heap.size + 1) (o := 0) (.inl (by omega)) (.int .i64 m.bye)).far (b := w.heap.size + 1) (o := 1) (.inl (by omega)) (.int .i64 m.epoch)).far (b := w.heap.size + 1) (o := 2) (.inl (by omega)) (.slice q.sa m.sealed.length q.sc)).far (b := w.heap.size + 1) (o := 3) (.inl (by omega)) (.slice q.ea m.seen.length q.ec)).far (b := w.heap.size + 1) (o := 4) (.inl (by omega)) (.bool m.planned)).far (b := w.heap.size + 1) (o := 5) (.inl (by omega)) (.slice q.wa m.wrote.length q.wc))
    have CC := dH ((((((D5.cur.setNew4 (b := w.heap.size + 1) (by omega) 0 (.int .i64 m.bye)).setNew4 (b := w.heap.size + 1) (by omega) 1 (.int .i64 m.epoch)).setNew4 (b := w.heap.size + 1) (by omega) 2 (.slice q.sa m.sealed.length q.sc)).setNew4 (b := w.heap.size + 1) (by omega) 3 (.slice q.ea m.seen.length q.ec)).setNew4 (b := w.heap.size + 1) (by omega) 4 (.bool m.planned)).setNew4 (b := w.heap.size + 1) (by omega) 5 (.slice q.wa m.wrote.length q.wc))
    have DD := dH ((((((D5.drawn.setNew (b := w.heap.size + 1) (by omega) 0 (.int .i64 m.bye)).setNew (b := w.heap.size + 1) (by omega) 1 (.int .i64 m.epoch)).setNew (b := w.heap.size + 1) (by omega) 2 (.slice q.sa m.sealed.length q.sc)).setNew (b := w.heap.size + 1) (by omega) 3 (.slice q.ea m.seen.length q.ec)).setNew (b := w.heap.size + 1) (by omega) 4 (.bool m.planned)).setNew (b := w.heap.size + 1) (by omega) 5 (.slice q.wa m.wrote.length q.wc))
    have RR := dH D5.fit
    have E9 := dH e9
    have hV : w5.heap.size = ((((((w5.setCell ⟨w.heap.size + 1, 0, none⟩ (.int .i64 m.bye)).setCell ⟨w.heap.size + 1, 1, none⟩ (.int .i64 m.epoch)).setCell ⟨w.heap.size + 1, 2, none⟩ (.slice q.sa m.sealed.length q.sc)).setCell ⟨w.heap.size + 1, 3, none⟩ (.slice q.ea m.seen.length q.ec)).setCell ⟨w.heap.size + 1, 4, none⟩ (.bool m.planned)).setCell ⟨w.heap.size + 1, 5, none⟩ (.slice q.wa m.wrote.length q.wc)).heap.size := by simp
    clear D5 M9 e9
    go_wp2_with fail
    generalize ((((((w5.setCell ⟨w.heap.size + 1, 0, none⟩ (.int .i64 m.bye)).setCell ⟨w.heap.size + 1, 1, none⟩ (.int .i64 m.epoch)).setCell ⟨w.heap.size + 1, 2, none⟩ (.slice q.sa m.sealed.length q.sc)).setCell ⟨w.heap.size + 1, 3, none⟩ (.slice q.ea m.seen.length q.ec)).setCell ⟨w.heap.size + 1, 4, none⟩ (.bool m.planned)).setCell ⟨w.heap.size + 1, 5, none⟩ (.slice q.wa m.wrote.length q.wc)) = V at *
    have q0 := ((dU ZZ).2 0 _ rfl).1
    have q1 := ((dU ZZ).2 1 _ rfl).1
    have q2 := ((dU ZZ).2 2 _ rfl).1
    have q3 := ((dU ZZ).2 3 _ rfl).1
    have q4 := ((dU ZZ).2 4 _ rfl).1
    have q5 := ((dU ZZ).2 5 _ rfl).1
    rw [hV] at OO
    refine bodyPost_ret (v := .agg #[.int .i64 m.bye, .int .i64 m.epoch, .slice q.sa m.sealed.length q.sc, .slice q.ea m.seen.length q.ec, .bool m.planned, .slice q.wa m.wrote.length q.wc]) (by simp [results, Tryz.results115, go_sem, q0, q1, q2, q3, q4, q5]) rfl ⟨⟨m, q, rfl, ⟨rs9, dU E9, (dU OO).wide (by omega) (Nat.le_refl _)⟩, dU RR⟩, dU CC, dU DD⟩
   | false =>
    have CL := dH fun W (h : D9 w bk bt ca cc ds cop W w5.heap.size m q) => l9Cover_any _ ca cc ds cop m W h.ns h.men.rd hl (by have := h.fit.2.1; omega) h.fit.1.2.2.1
    have CP := dH fun W (h : D9 w bk bt ca cc ds cop W w5.heap.size m q) (lv : Value) (zs : List Int) (hz : Ns W lv zs) (hzl : zs.length ≤ 39) => specPlan9_ap _ _ lv (ds, cop) m zs W ⟨_, rfl, h.ns⟩ h.men.rd hz h.fit.1.2.2.2.1 h.fit.siz (by simp only; omega) (by omega)
    have pD := D5.cells
    have Dc := D5.below (Below.refl _ _).drew
    have pDd := Dc.cells
    go_wp2_with fail
    go_cut [10, 11] (fun sv ov wx => ∃ (bo lo' hi' : Nat) (m' : Mn) (mb : Bool) (q' : Pm), sv = .pointer (some ⟨bo, 0, none⟩) ∧ ov = .bool mb ∧ w5.heap.size ≤ bo ∧ Hid (mb = true → bt + 1 ≤ lo' ∧ fitM m' ∧ DX wx bo lo' hi' m' q') ∧ Hid (D9 w bk bt ca cc ds cop wx w5.heap.size m q))
    case first =>
     refine wp_region_noPanic ?_
     refine wp_region_held_drew (S := fun W => (W.cell? ⟨w.heap.size, 0, none⟩ = some (.slice ca ds.length cc) ∧ W.cell? ⟨w.heap.size, 1, none⟩ = some (.int .i64 cop)) ∧ W.cell? ⟨bt, 0, none⟩ = some (.int .i64 m.bye) ∧ W.cell? ⟨bt, 1, none⟩ = some (.int .i64 m.epoch) ∧ W.cell? ⟨bt, 2, none⟩ = some (.slice q.sa m.sealed.length q.sc) ∧ W.cell? ⟨bt, 3, none⟩ = some (.slice q.ea m.seen.length q.ec) ∧ W.cell? ⟨bt, 4, none⟩ = some (.bool m.planned) ∧ W.cell? ⟨bt, 5, none⟩ = some (.slice q.wa m.wrote.length q.wc)) (by kernel_rfl) (by first | with_reducible exact Dc.cells | with_reducible exact pDd | with_reducible exact pD | go_keep) (fun hHeld => ?_)
     have hsz : w5.heap.size ≤ w5.drew.heap.size := Nat.le_refl _
     generalize w5.drew = wd at *
     refine tY 0 (v := ?_) rfl (by kernel_rfl) (.inl ⟨by rfl, ?_⟩) ‹_› ?_
     rotate_left 1
     ·intro w hSw
      (try dsimp only at hSw)
      first | (go_simp; done) | (go_simp; with_reducible rfl)
     try simp only [Act.put, sA, sB, sC]
     refine tY 1 (v := ?_) rfl (by kernel_rfl) (.inl ⟨by rfl, ?_⟩) ‹_› ?_
     rotate_left 1
     ·intro w hSw
      (try dsimp only at hSw)
      first | (go_simp; done) | (go_simp; with_reducible rfl)
     try simp only [Act.put, sA, sB, sC]
     refine tY 2 (v := ?_) rfl (by kernel_rfl) (.inl ⟨by rfl, ?_⟩) ‹_› ?_
     rotate_left 1
     ·intro w hSw
      (try dsimp only at hSw)
      first | (go_simp; done) | (go_simp; with_reducible rfl)
     try simp only [Act.put, sA, sB, sC]
     refine tY 3 (v := ?_) rfl (by kernel_rfl) (.inl ⟨by rfl, ?_⟩) ‹_› ?_
     rotate_left 1
     ·intro w hSw
      (try dsimp only at hSw)
      first | (go_simp; done) | (go_simp; with_reducible rfl)
     try simp only [Act.put, sA, sB, sC]
     refine wpAnyH_ready (rs := [4, 9]) (by kernel_rfl) (by simp) ?_
     refine rC rfl (fun K hK => ?_) (rC rfl (fun K hK => ?_) AllReadyH.nil)
     ·go_simp
      refine (dU CL wd Dc).mono ?_
      rintro e wd' ⟨⟨u9, zs9, rfl, O9, hz9, -⟩, b9⟩
      have Z8 := O9.bs
      replace Dc := Dc.below b9
      try replace NZ := NZ.below b9
      replace hsz : w5.heap.size ≤ wd'.heap.size := Nat.le_trans hsz b9.size
      clear O9 b9
      generalize wd' = wd at *
      (try go_wp2_with fail)
      refine hK.out _ _ (by first | with_reducible exact Dc.cells | with_reducible exact pDd | with_reducible exact pD | go_keep) (fun hHeld => ?_)
      clear hK K
      try simp only [Act.put, sA, sB, sC]
      refine wpAnyH_ready (rs := [5, 9]) (by kernel_rfl) (by simp) ?_
      refine rC rfl (fun K hK => ?_) (rC rfl (fun K hK => ?_) AllReadyH.nil)
      ·go_simp
       have C6 := dU CP wd Dc u9 zs9 Z8 hz9
       try (have hN7 := NZ.lt)
       refine C6.mono ?_
       clear C6
       obtain ⟨lo6, el6⟩ : ∃ l, wd.heap.size = l := ⟨_, rfl⟩
       have F6 := fun h => fitM.planned9 (ds := ds) (cop := cop) (m := m) (l := zs9) h
       intro e wd' hA6
       generalize hAM : plan9M ds cop m zs9 = AM at *
       obtain ⟨m6, k6⟩ := AM
       clear hAM
       obtain ⟨⟨u6, rfl, O6, A6⟩, b6⟩ := hA6
       obtain ⟨q6, rfl, I6⟩ := ApM.both O6 A6
       simp only at I6 F6
       replace Dc := Dc.below b6
       try replace NZ := NZ.below b6
       rw [el6] at I6
       try rw [el6] at hN7
       have hs6 := b6.size
       have hl6 : bt + 1 ≤ lo6 := by omega
       replace hsz : w5.heap.size ≤ wd'.heap.size := by omega
       obtain ⟨hi6, eh6⟩ : ∃ l, wd'.heap.size = l := ⟨_, rfl⟩
       rw [eh6] at I6
       have hh6 : hi6 ≤ wd'.heap.size := by omega
       clear b6 O6 A6 hs6 el6 eh6
       try clear S8
       try clear E8
       try clear Z8
       generalize wd' = wd at *
       (try go_wp2_with fail)
       refine hK.out _ _ (by first | with_reducible exact Dc.cells | with_reducible exact pDd | with_reducible exact pD | go_keep) (fun hHeld => ?_)
       clear hK K
       try simp only [Act.put, sA, sB, sC]
       refine tY 6 (v := ?_) rfl (by kernel_rfl) (.inl ⟨by rfl, ?_⟩) ‹_› ?_
       rotate_left 1
       ·intro w hSw
        (try dsimp only at hSw)
        first | (go_simp; done) | (go_simp; with_reducible rfl)
       try simp only [Act.put, sA, sB, sC]
       refine tY 7 (v := ?_) rfl (by kernel_rfl) (.inl ⟨by rfl, ?_⟩) ‹_› ?_
       rotate_left 1
       ·intro w hSw
        (try dsimp only at hSw)
        first | (go_simp; done) | (go_simp; with_reducible rfl)
       try simp only [Act.put, sA, sB, sC]
       refine tY 8 (v := ?_) rfl (by kernel_rfl) (.inl ⟨by rfl, ?_⟩) ‹_› ?_
       rotate_left 1
       ·intro w hSw
        (try dsimp only at hSw)
        first | (go_simp; done) | (go_simp; with_reducible rfl)
       try simp only [Act.put, sA, sB, sC]
       refine wpAnyH_ready (rs := [9]) (by kernel_rfl) (by simp) ?_
       refine rC rfl (fun K hK => ?_) AllReadyH.nil
       go_simp
       have NZ := BxZ.new (B := 0) wd [.int .i64 0, .int .i64 0, .slice none 0 0, .slice none 0 0, .bool false, .slice none 0 0] 30 (Nat.zero_le _)
       have es7 : (wd.alloc (.cells #[.int .i64 0, .int .i64 0, .slice none 0 0, .slice none 0 0, .bool false, .slice none 0 0] 30)).heap.size = wd.heap.size + 1 := by simp
       replace Dc := Dc.below (ba wd (.cells #[.int .i64 0, .int .i64 0, .slice none 0 0, .slice none 0 0, .bool false, .slice none 0 0] 30))
       try replace S8 := S8.below (ba wd (.cells #[.int .i64 0, .int .i64 0, .slice none 0 0, .slice none 0 0, .bool false, .slice none 0 0] 30))
       try replace E8 := Rw.below E8 (ba wd (.cells #[.int .i64 0, .int .i64 0, .slice none 0 0, .slice none 0 0, .bool false, .slice none 0 0] 30))
       try replace Z8 := Z8.below (ba wd (.cells #[.int .i64 0, .int .i64 0, .slice none 0 0, .slice none 0 0, .bool false, .slice none 0 0] 30))
       try (have hap : hi6 ≤ wd.heap.size := hh6)
       try (replace I6 := fun h => ownBelow (I6 h) hh6 (ba wd (.cells #[.int .i64 0, .int .i64 0, .slice none 0 0, .slice none 0 0, .bool false, .slice none 0 0] 30)))
       try (replace hh6 : hi6 ≤ (wd.alloc (.cells #[.int .i64 0, .int .i64 0, .slice none 0 0, .slice none 0 0, .bool false, .slice none 0 0] 30)).heap.size := by omega)
       have hb7 : w5.heap.size ≤ wd.heap.size := hsz
       replace hsz : w5.heap.size ≤ (wd.alloc (.cells #[.int .i64 0, .int .i64 0, .slice none 0 0, .slice none 0 0, .bool false, .slice none 0 0] 30)).heap.size := by omega
       clear es7
       generalize wd.heap.size = b7 at *
       generalize wd.alloc (.cells #[.int .i64 0, .int .i64 0, .slice none 0 0, .slice none 0 0, .bool false, .slice none 0 0] 30) = wd at *
       refine hK.out _ _ (by first | with_reducible exact Dc.cells | with_reducible exact pDd | with_reducible exact pD | go_keep) (fun hHeld => ?_)
       clear hK K
       try simp only [Act.put, sA, sB, sC]
       refine wpAnyH_ready (rs := [10]) (by kernel_rfl) (by simp) ?_
       refine rC rfl (fun K hK => ?_) AllReadyH.nil
       obtain ⟨⟨z0, f0⟩, ⟨z1, f1⟩, ⟨z2, f2⟩, ⟨z3, f3⟩, ⟨z4, f4⟩, ⟨z5, f5⟩⟩ : (_ ∧ _) ∧ (_ ∧ _) ∧ (_ ∧ _) ∧ (_ ∧ _) ∧ (_ ∧ _) ∧ (_ ∧ _) := ⟨NZ.2 0 _ rfl, NZ.2 1 _ rfl, NZ.2 2 _ rfl, NZ.2 3 _ rfl, NZ.2 4 _ rfl, NZ.2 5 _ rfl⟩
       go_simp
       have N8 : Hid (k6 = true → bt + 1 ≤ lo6 ∧ fitM m6 ∧ DX _ b7 lo6 hi6 m6 q6) := fun h => ⟨hl6, F6 h, DX.put (I6 h) hh6 NZ (by first | exact .inl hN7 | exact .inr hap)⟩
       replace Dc := Dc.set6 hk ht hw hb7 (by omega) (.int .i64 m6.bye) (.int .i64 m6.epoch) (.slice q6.sa m6.sealed.length q6.sc) (.slice q6.ea m6.seen.length q6.ec) (.bool m6.planned) (.slice q6.wa m6.wrote.length q6.wc)
       clear z0 f0 z1 f1 z2 f2 z3 f3 z4 f4 z5 f5 NZ I6
       refine hK.out _ _ (by first | with_reducible exact Dc.cells | with_reducible exact pDd | with_reducible exact pD | go_keep) (fun hHeld => ?_)
       clear hK K
       try simp only [Act.put, sA, sB, sC]
       refine tY 11 (v := ?_) rfl (by kernel_rfl) (.inl ⟨by rfl, ?_⟩) ‹_› ?_
       rotate_left 1
       ·intro w hSw
        (try dsimp only at hSw)
        first | (go_simp; done) | (go_simp; with_reducible rfl)
       try simp only [Act.put, sA, sB, sC]
       refine wpAnyH_done (by kernel_rfl) ?_ _
       refine NoPanic.normal ?_
       go_wp2_with fail
       go_meet
       case rel => exact ⟨b7, lo6, hi6, m6, k6, q6, rfl, rfl, hb7, N8, Dc⟩
      ·go_simp
       have NZ := BxZ.new (B := 0) wd [.int .i64 0, .int .i64 0, .slice none 0 0, .slice none 0 0, .bool false, .slice none 0 0] 30 (Nat.zero_le _)
       have es7 : (wd.alloc (.cells #[.int .i64 0, .int .i64 0, .slice none 0 0, .slice none 0 0, .bool false, .slice none 0 0] 30)).heap.size = wd.heap.size + 1 := by simp
       replace Dc := Dc.below (ba wd (.cells #[.int .i64 0, .int .i64 0, .slice none 0 0, .slice none 0 0, .bool false, .slice none 0 0] 30))
       try replace S8 := S8.below (ba wd (.cells #[.int .i64 0, .int .i64 0, .slice none 0 0, .slice none 0 0, .bool false, .slice none 0 0] 30))
       try replace E8 := Rw.below E8 (ba wd (.cells #[.int .i64 0, .int .i64 0, .slice none 0 0, .slice none 0 0, .bool false, .slice none 0 0] 30))
       try replace Z8 := Z8.below (ba wd (.cells #[.int .i64 0, .int .i64 0, .slice none 0 0, .slice none 0 0, .bool false, .slice none 0 0] 30))
       try (have hap : hi6 ≤ wd.heap.size := hh6)
       try (replace I6 := fun h => ownBelow (I6 h) hh6 (ba wd (.cells #[.int .i64 0, .int .i64 0, .slice none 0 0, .slice none 0 0, .bool false, .slice none 0 0] 30)))
       try (replace hh6 : hi6 ≤ (wd.alloc (.cells #[.int .i64 0, .int .i64 0, .slice none 0 0, .slice none 0 0, .bool false, .slice none 0 0] 30)).heap.size := by omega)
       have hb7 : w5.heap.size ≤ wd.heap.size := hsz
       replace hsz : w5.heap.size ≤ (wd.alloc (.cells #[.int .i64 0, .int .i64 0, .slice none 0 0, .slice none 0 0, .bool false, .slice none 0 0] 30)).heap.size := by omega
       clear es7
       generalize wd.heap.size = b7 at *
       generalize wd.alloc (.cells #[.int .i64 0, .int .i64 0, .slice none 0 0, .slice none 0 0, .bool false, .slice none 0 0] 30) = wd at *
       refine hK.out _ _ (by first | with_reducible exact Dc.cells | with_reducible exact pDd | with_reducible exact pD | go_keep) (fun hHeld => ?_)
       clear hK K
       try simp only [Act.put, sA, sB, sC]
       refine wpAnyH_ready (rs := [5]) (by kernel_rfl) (by simp) ?_
       refine rC rfl (fun K hK => ?_) AllReadyH.nil
       go_simp
       have C6 := dU CP wd Dc u9 zs9 Z8 hz9
       try (have hN7 := NZ.lt)
       refine C6.mono ?_
       clear C6
       obtain ⟨lo6, el6⟩ : ∃ l, wd.heap.size = l := ⟨_, rfl⟩
       have F6 := fun h => fitM.planned9 (ds := ds) (cop := cop) (m := m) (l := zs9) h
       intro e wd' hA6
       generalize hAM : plan9M ds cop m zs9 = AM at *
       obtain ⟨m6, k6⟩ := AM
       clear hAM
       obtain ⟨⟨u6, rfl, O6, A6⟩, b6⟩ := hA6
       obtain ⟨q6, rfl, I6⟩ := ApM.both O6 A6
       simp only at I6 F6
       replace Dc := Dc.below b6
       try replace NZ := NZ.below b6
       rw [el6] at I6
       try rw [el6] at hN7
       have hs6 := b6.size
       have hl6 : bt + 1 ≤ lo6 := by omega
       replace hsz : w5.heap.size ≤ wd'.heap.size := by omega
       obtain ⟨hi6, eh6⟩ : ∃ l, wd'.heap.size = l := ⟨_, rfl⟩
       rw [eh6] at I6
       have hh6 : hi6 ≤ wd'.heap.size := by omega
       clear b6 O6 A6 hs6 el6 eh6
       try clear S8
       try clear E8
       try clear Z8
       generalize wd' = wd at *
       (try go_wp2_with fail)
       refine hK.out _ _ (by first | with_reducible exact Dc.cells | with_reducible exact pDd | with_reducible exact pD | go_keep) (fun hHeld => ?_)
       clear hK K
       try simp only [Act.put, sA, sB, sC]
       refine tY 6 (v := ?_) rfl (by kernel_rfl) (.inl ⟨by rfl, ?_⟩) ‹_› ?_
       rotate_left 1
       ·intro w hSw
        (try dsimp only at hSw)
        first | (go_simp; done) | (go_simp; with_reducible rfl)
       try simp only [Act.put, sA, sB, sC]
       refine tY 7 (v := ?_) rfl (by kernel_rfl) (.inl ⟨by rfl, ?_⟩) ‹_› ?_
       rotate_left 1
       ·intro w hSw
        (try dsimp only at hSw)
        first | (go_simp; done) | (go_simp; with_reducible rfl)
       try simp only [Act.put, sA, sB, sC]
       refine tY 8 (v := ?_) rfl (by kernel_rfl) (.inl ⟨by rfl, ?_⟩) ‹_› ?_
       rotate_left 1
       ·intro w hSw
        (try dsimp only at hSw)
        first | (go_simp; done) | (go_simp; with_reducible rfl)
       try simp only [Act.put, sA, sB, sC]
       refine wpAnyH_ready (rs := [10]) (by kernel_rfl) (by simp) ?_
       refine rC rfl (fun K hK => ?_) AllReadyH.nil
       obtain ⟨⟨z0, f0⟩, ⟨z1, f1⟩, ⟨z2, f2⟩, ⟨z3, f3⟩, ⟨z4, f4⟩, ⟨z5, f5⟩⟩ : (_ ∧ _) ∧ (_ ∧ _) ∧ (_ ∧ _) ∧ (_ ∧ _) ∧ (_ ∧ _) ∧ (_ ∧ _) := ⟨NZ.2 0 _ rfl, NZ.2 1 _ rfl, NZ.2 2 _ rfl, NZ.2 3 _ rfl, NZ.2 4 _ rfl, NZ.2 5 _ rfl⟩
       go_simp
       have N8 : Hid (k6 = true → bt + 1 ≤ lo6 ∧ fitM m6 ∧ DX _ b7 lo6 hi6 m6 q6) := fun h => ⟨hl6, F6 h, DX.put (I6 h) hh6 NZ (by first | exact .inl hN7 | exact .inr hap)⟩
       replace Dc := Dc.set6 hk ht hw hb7 (by omega) (.int .i64 m6.bye) (.int .i64 m6.epoch) (.slice q6.sa m6.sealed.length q6.sc) (.slice q6.ea m6.seen.length q6.ec) (.bool m6.planned) (.slice q6.wa m6.wrote.length q6.wc)
       clear z0 f0 z1 f1 z2 f2 z3 f3 z4 f4 z5 f5 NZ I6
       refine hK.out _ _ (by first | with_reducible exact Dc.cells | with_reducible exact pDd | with_reducible exact pD | go_keep) (fun hHeld => ?_)
       clear hK K
       try simp only [Act.put, sA, sB, sC]
       refine tY 11 (v := ?_) rfl (by kernel_rfl) (.inl ⟨by rfl, ?_⟩) ‹_› ?_
       rotate_left 1
       ·intro w hSw
        (try dsimp only at hSw)
        first | (go_simp; done) | (go_simp; with_reducible rfl)
       try simp only [Act.put, sA, sB, sC]
       refine wpAnyH_done (by kernel_rfl) ?_ _
       refine NoPanic.normal ?_
       go_wp2_with fail
       go_meet
       case rel => exact ⟨b7, lo6, hi6, m6, k6, q6, rfl, rfl, hb7, N8, Dc⟩
     ·go_simp
      have NZ := BxZ.new (B := 0) wd [.int .i64 0, .int .i64 0, .slice none 0 0, .slice none 0 0, .bool false, .slice none 0 0] 30 (Nat.zero_le _)
      have es7 : (wd.alloc (.cells #[.int .i64 0, .int .i64 0, .slice none 0 0, .slice none 0 0, .bool false, .slice none 0 0] 30)).heap.size = wd.heap.size + 1 := by simp
      replace Dc := Dc.below (ba wd (.cells #[.int .i64 0, .int .i64 0, .slice none 0 0, .slice none 0 0, .bool false, .slice none 0 0] 30))
      try replace S8 := S8.below (ba wd (.cells #[.int .i64 0, .int .i64 0, .slice none 0 0, .slice none 0 0, .bool false, .slice none 0 0] 30))
      try replace E8 := Rw.below E8 (ba wd (.cells #[.int .i64 0, .int .i64 0, .slice none 0 0, .slice none 0 0, .bool false, .slice none 0 0] 30))
      try replace Z8 := Z8.below (ba wd (.cells #[.int .i64 0, .int .i64 0, .slice none 0 0, .slice none 0 0, .bool false, .slice none 0 0] 30))
      try (have hap : hi6 ≤ wd.heap.size := hh6)
      try (replace I6 := fun h => ownBelow (I6 h) hh6 (ba wd (.cells #[.int .i64 0, .int .i64 0, .slice none 0 0, .slice none 0 0, .bool false, .slice none 0 0] 30)))
      try (replace hh6 : hi6 ≤ (wd.alloc (.cells #[.int .i64 0, .int .i64 0, .slice none 0 0, .slice none 0 0, .bool false, .slice none 0 0] 30)).heap.size := by omega)
      have hb7 : w5.heap.size ≤ wd.heap.size := hsz
      replace hsz : w5.heap.size ≤ (wd.alloc (.cells #[.int .i64 0, .int .i64 0, .slice none 0 0, .slice none 0 0, .bool false, .slice none 0 0] 30)).heap.size := by omega
      clear es7
      generalize wd.heap.size = b7 at *
      generalize wd.alloc (.cells #[.int .i64 0, .int .i64 0, .slice none 0 0, .slice none 0 0, .bool false, .slice none 0 0] 30) = wd at *
      refine hK.out _ _ (by first | with_reducible exact Dc.cells | with_reducible exact pDd | with_reducible exact pD | go_keep) (fun hHeld => ?_)
      clear hK K
      try simp only [Act.put, sA, sB, sC]
      refine wpAnyH_ready (rs := [4]) (by kernel_rfl) (by simp) ?_
      refine rC rfl (fun K hK => ?_) AllReadyH.nil
      go_simp
      refine (dU CL wd Dc).mono ?_
      rintro e wd' ⟨⟨u9, zs9, rfl, O9, hz9, -⟩, b9⟩
      have Z8 := O9.bs
      replace Dc := Dc.below b9
      try replace NZ := NZ.below b9
      replace hsz : w5.heap.size ≤ wd'.heap.size := Nat.le_trans hsz b9.size
      clear O9 b9
      generalize wd' = wd at *
      (try go_wp2_with fail)
      refine hK.out _ _ (by first | with_reducible exact Dc.cells | with_reducible exact pDd | with_reducible exact pD | go_keep) (fun hHeld => ?_)
      clear hK K
      try simp only [Act.put, sA, sB, sC]
      refine wpAnyH_ready (rs := [5]) (by kernel_rfl) (by simp) ?_
      refine rC rfl (fun K hK => ?_) AllReadyH.nil
      go_simp
      have C6 := dU CP wd Dc u9 zs9 Z8 hz9
      try (have hN7 := NZ.lt)
      refine C6.mono ?_
      clear C6
      obtain ⟨lo6, el6⟩ : ∃ l, wd.heap.size = l := ⟨_, rfl⟩
      have F6 := fun h => fitM.planned9 (ds := ds) (cop := cop) (m := m) (l := zs9) h
      intro e wd' hA6
      generalize hAM : plan9M ds cop m zs9 = AM at *
      obtain ⟨m6, k6⟩ := AM
      clear hAM
      obtain ⟨⟨u6, rfl, O6, A6⟩, b6⟩ := hA6
      obtain ⟨q6, rfl, I6⟩ := ApM.both O6 A6
      simp only at I6 F6
      replace Dc := Dc.below b6
      try replace NZ := NZ.below b6
      rw [el6] at I6
      try rw [el6] at hN7
      have hs6 := b6.size
      have hl6 : bt + 1 ≤ lo6 := by omega
      replace hsz : w5.heap.size ≤ wd'.heap.size := by omega
      obtain ⟨hi6, eh6⟩ : ∃ l, wd'.heap.size = l := ⟨_, rfl⟩
      rw [eh6] at I6
      have hh6 : hi6 ≤ wd'.heap.size := by omega
      clear b6 O6 A6 hs6 el6 eh6
      try clear S8
      try clear E8
      try clear Z8
      generalize wd' = wd at *
      (try go_wp2_with fail)
      refine hK.out _ _ (by first | with_reducible exact Dc.cells | with_reducible exact pDd | with_reducible exact pD | go_keep) (fun hHeld => ?_)
      clear hK K
      try simp only [Act.put, sA, sB, sC]
      refine tY 6 (v := ?_) rfl (by kernel_rfl) (.inl ⟨by rfl, ?_⟩) ‹_› ?_
      rotate_left 1
      ·intro w hSw
       (try dsimp only at hSw)
       first | (go_simp; done) | (go_simp; with_reducible rfl)
      try simp only [Act.put, sA, sB, sC]
      refine tY 7 (v := ?_) rfl (by kernel_rfl) (.inl ⟨by rfl, ?_⟩) ‹_› ?_
      rotate_left 1
      ·intro w hSw
       (try dsimp only at hSw)
       first | (go_simp; done) | (go_simp; with_reducible rfl)
      try simp only [Act.put, sA, sB, sC]
      refine tY 8 (v := ?_) rfl (by kernel_rfl) (.inl ⟨by rfl, ?_⟩) ‹_› ?_
      rotate_left 1
      ·intro w hSw
       (try dsimp only at hSw)
       first | (go_simp; done) | (go_simp; with_reducible rfl)
      try simp only [Act.put, sA, sB, sC]
      refine wpAnyH_ready (rs := [10]) (by kernel_rfl) (by simp) ?_
      refine rC rfl (fun K hK => ?_) AllReadyH.nil
      obtain ⟨⟨z0, f0⟩, ⟨z1, f1⟩, ⟨z2, f2⟩, ⟨z3, f3⟩, ⟨z4, f4⟩, ⟨z5, f5⟩⟩ : (_ ∧ _) ∧ (_ ∧ _) ∧ (_ ∧ _) ∧ (_ ∧ _) ∧ (_ ∧ _) ∧ (_ ∧ _) := ⟨NZ.2 0 _ rfl, NZ.2 1 _ rfl, NZ.2 2 _ rfl, NZ.2 3 _ rfl, NZ.2 4 _ rfl, NZ.2 5 _ rfl⟩
      go_simp
      have N8 : Hid (k6 = true → bt + 1 ≤ lo6 ∧ fitM m6 ∧ DX _ b7 lo6 hi6 m6 q6) := fun h => ⟨hl6, F6 h, DX.put (I6 h) hh6 NZ (by first | exact .inl hN7 | exact .inr hap)⟩
      replace Dc := Dc.set6 hk ht hw hb7 (by omega) (.int .i64 m6.bye) (.int .i64 m6.epoch) (.slice q6.sa m6.sealed.length q6.sc) (.slice q6.ea m6.seen.length q6.ec) (.bool m6.planned) (.slice q6.wa m6.wrote.length q6.wc)
      clear z0 f0 z1 f1 z2 f2 z3 f3 z4 f4 z5 f5 NZ I6
      refine hK.out _ _ (by first | with_reducible exact Dc.cells | with_reducible exact pDd | with_reducible exact pD | go_keep) (fun hHeld => ?_)
      clear hK K
      try simp only [Act.put, sA, sB, sC]
      refine tY 11 (v := ?_) rfl (by kernel_rfl) (.inl ⟨by rfl, ?_⟩) ‹_› ?_
      rotate_left 1
      ·intro w hSw
       (try dsimp only at hSw)
       first | (go_simp; done) | (go_simp; with_reducible rfl)
      try simp only [Act.put, sA, sB, sC]
      refine wpAnyH_done (by kernel_rfl) ?_ _
      refine NoPanic.normal ?_
      go_wp2_with fail
      go_meet
      case rel => exact ⟨b7, lo6, hi6, m6, k6, q6, rfl, rfl, hb7, N8, Dc⟩
    case rest =>
     obtain ⟨bo, lo', hi', m', mb, q', rfl, rfl, hbo, N2, D2⟩ := hcut
     clear CP CL Dc pDd D5 pD
     generalize wc = w6 at *
     go_upto_if 56 with fail
     go_cut [11] (fun ov wx => ∃ (m : Mn) (q : Pm), Hid (D9 w bk bt ca cc ds cop wx wx.heap.size m q))
     case first =>
      cases mb with
      | false =>
       have D6 := dU D2
       have DL := dH (D6.weak (B' := w6.heap.size) (by have := D6.men.fit; omega) (Nat.le_refl _))
       clear D2 D6 N2
       go_wp2_with fail
       go_meet
       case rel => exact ⟨_, _, DL⟩
      | true =>
       obtain ⟨hl5, hf5, N5⟩ := dU N2 rfl
       have D5 := dU D2
       clear N2 D2
       generalize w6 = w5 at *
       have nb := N5.box
       obtain ⟨⟨y0, -⟩, ⟨y1, -⟩, ⟨y2, -⟩, ⟨y3, -⟩, ⟨y4, -⟩, ⟨y5, -⟩⟩ : (_ ∧ _) ∧ (_ ∧ _) ∧ (_ ∧ _) ∧ (_ ∧ _) ∧ (_ ∧ _) ∧ (_ ∧ _) := ⟨nb.2 0 _ rfl, nb.2 1 _ rfl, nb.2 2 _ rfl, nb.2 3 _ rfl, nb.2 4 _ rfl, nb.2 5 _ rfl⟩
       obtain ⟨⟨z0, f0⟩, ⟨z1, f1⟩, ⟨z2, f2⟩, ⟨z3, f3⟩, ⟨z4, f4⟩, ⟨z5, f5⟩⟩ : (_ ∧ _) ∧ (_ ∧ _) ∧ (_ ∧ _) ∧ (_ ∧ _) ∧ (_ ∧ _) ∧ (_ ∧ _) := ⟨D5.men.box.2 0 _ rfl, D5.men.box.2 1 _ rfl, D5.men.box.2 2 _ rfl, D5.men.box.2 3 _ rfl, D5.men.box.2 4 _ rfl, D5.men.box.2 5 _ rfl⟩
       have HT := (D5.take hk ht hw N5 hl5 hf5)
       replace HT := dH (HT.weak (B' := ((((((w5.setCell ⟨bt, 0, none⟩ (.int .i64 m'.bye)).setCell ⟨bt, 1, none⟩ (.int .i64 m'.epoch)).setCell ⟨bt, 2, none⟩ (.slice q'.sa m'.sealed.length q'.sc)).setCell ⟨bt, 3, none⟩ (.slice q'.ea m'.seen.length q'.ec)).setCell ⟨bt, 4, none⟩ (.bool m'.planned)).setCell ⟨bt, 5, none⟩ (.slice q'.wa m'.wrote.length q'.wc)).heap.size) (by simp) (Nat.le_refl _))
       clear D5 N5 nb
       go_wp2_with fail
       go_meet
       case rel => exact ⟨_, _, HT⟩
     case rest =>
      obtain ⟨m, q, DL⟩ := hcut
      clear N2 D2
      generalize wc = w7 at *
      go_wp2_with fail
      go_loopw [12] (fun y wr => ∃ (k : Nat) (m : Mn) (q : Pm), y = .int .i64 (k : Int) ∧ k ≤ 9 ∧ Hid (D9 w bk bt ca cc ds cop wr wr.heap.size m q)) (fun y _ => 10 - (intOf y).toNat)
      case atStart => exact ⟨0, _, _, rfl, Nat.zero_le _, DL⟩
      case round =>
       obtain ⟨k, m, q, rfl, hkn, D3⟩ := hrel
       clear DL
       have D1 := dU D3
       clear D3
       have CB := dH (l1Below_any bk 9 (by omega) (by omega) wr D1.cur)
       replace D1 := dH D1
       go_wp2_with fail
       refine (dU CB).mono ?_
       rintro r w5 ⟨⟨t, htn, rfl⟩, hc3, hd3⟩
       have D5 := (((dU D1).move hk ht hne hc3 hd3).weak (B' := w5.heap.size) hd3.size (Nat.le_refl _))
       clear D1 CB hc3 hd3
       by_cases hlt : (k : Int) < (t : Int)
       ·have CP := dH fun W (h : D9 w bk bt ca cc ds cop W w5.heap.size m q) (y z : Nat) (hy : y ≤ 100) (hz : z ≤ 9) => specAck9_ap _ _ (ds, cop) m (1 + (y : Int)) (z : Int) W ⟨_, rfl, h.ns⟩ h.men.rd h.fit.1.2.2.2.1 h.fit.siz (by simp only; omega)
        have hwl := D5.fit.2.2.2.1
        have hbt5 := D5.lt
        have pD := D5.cells
        have Dc := D5.below (Below.refl _ _).drew
        have pDd := Dc.cells
        go_wp2_with fail
        go_cut [13, 14] (fun sv ov wx => ∃ (bo lo' hi' : Nat) (m' : Mn) (mb : Bool) (q' : Pm), sv = .pointer (some ⟨bo, 0, none⟩) ∧ ov = .bool mb ∧ w5.heap.size ≤ bo ∧ Hid (mb = true → bt + 1 ≤ lo' ∧ fitM m' ∧ DX wx bo lo' hi' m' q') ∧ Hid (D9 w bk bt ca cc ds cop wx w5.heap.size m q))
        case first =>
         refine wp_region_noPanic ?_
         refine wp_region_held_drew (S := fun W => (W.cell? ⟨w.heap.size, 0, none⟩ = some (.slice ca ds.length cc) ∧ W.cell? ⟨w.heap.size, 1, none⟩ = some (.int .i64 cop)) ∧ W.cell? ⟨bt, 0, none⟩ = some (.int .i64 m.bye) ∧ W.cell? ⟨bt, 1, none⟩ = some (.int .i64 m.epoch) ∧ W.cell? ⟨bt, 2, none⟩ = some (.slice q.sa m.sealed.length q.sc) ∧ W.cell? ⟨bt, 3, none⟩ = some (.slice q.ea m.seen.length q.ec) ∧ W.cell? ⟨bt, 4, none⟩ = some (.bool m.planned) ∧ W.cell? ⟨bt, 5, none⟩ = some (.slice q.wa m.wrote.length q.wc)) (by kernel_rfl) (by first | with_reducible exact Dc.cells | with_reducible exact pDd | with_reducible exact pD | go_keep) (fun hHeld => ?_)
         have hsz : w5.heap.size ≤ w5.drew.heap.size := Nat.le_refl _
         generalize w5.drew = wd at *
         refine tY 0 (v := ?_) rfl (by kernel_rfl) (.inl ⟨by rfl, ?_⟩) ‹_› ?_
         rotate_left 1
         ·intro w hSw
          (try dsimp only at hSw)
          first | (go_simp; done) | (go_simp; with_reducible rfl)
         try simp only [Act.put, sA, sB, sC]
         refine tY 1 (v := ?_) rfl (by kernel_rfl) (.inl ⟨by rfl, ?_⟩) ‹_› ?_
         rotate_left 1
         ·intro w hSw
          (try dsimp only at hSw)
          first | (go_simp; done) | (go_simp; with_reducible rfl)
         try simp only [Act.put, sA, sB, sC]
         refine tY 2 (v := ?_) rfl (by kernel_rfl) (.inl ⟨by rfl, ?_⟩) ‹_› ?_
         rotate_left 1
         ·intro w hSw
          (try dsimp only at hSw)
          first | (go_simp; done) | (go_simp; with_reducible rfl)
         try simp only [Act.put, sA, sB, sC]
         refine tY 3 (v := ?_) rfl (by kernel_rfl) (.inl ⟨by rfl, ?_⟩) ‹_› ?_
         rotate_left 1
         ·intro w hSw
          (try dsimp only at hSw)
          first | (go_simp; done) | (go_simp; with_reducible rfl)
         try simp only [Act.put, sA, sB, sC]
         refine tY 4 (v := ?_) rfl (by kernel_rfl) (.inl ⟨by rfl, ?_⟩) ‹_› ?_
         rotate_left 1
         ·intro w hSw
          (try dsimp only at hSw)
          first | (go_simp; done) | (go_simp; with_reducible rfl)
         try simp only [Act.put, sA, sB, sC]
         refine tY 5 (v := ?_) rfl (by kernel_rfl) (.inl ⟨by rfl, ?_⟩) ‹_› ?_
         rotate_left 1
         ·intro w hSw
          (try dsimp only at hSw)
          first | (go_simp; done) | (go_simp; with_reducible rfl)
         try simp only [Act.put, sA, sB, sC]
         refine tY 9 (v := ?_) rfl (by kernel_rfl) (.inl ⟨by rfl, ?_⟩) ‹_› ?_
         rotate_left 1
         ·intro w hSw
          (try dsimp only at hSw)
          first | (go_simp; done) | (go_simp; with_reducible rfl)
         try simp only [Act.put, sA, sB, sC]
         refine tY 10 (v := ?_) rfl (by kernel_rfl) (.inl ⟨by rfl, ?_⟩) ‹_› ?_
         rotate_left 1
         ·intro w hSw
          (try dsimp only at hSw)
          first | (go_simp; done) | (go_simp; with_reducible rfl)
         try simp only [Act.put, sA, sB, sC]
         refine tY 11 (v := ?_) rfl (by kernel_rfl) (.inl ⟨by rfl, ?_⟩) ‹_› ?_
         rotate_left 1
         ·intro w hSw
          (try dsimp only at hSw)
          first | (go_simp; done) | (go_simp; with_reducible rfl)
         try simp only [Act.put, sA, sB, sC]
         refine tY 12 (v := ?_) rfl (by kernel_rfl) (.inl ⟨by rfl, ?_⟩) ‹_› ?_
         rotate_left 1
         ·intro w hSw
          (try dsimp only at hSw)
          first | (go_simp; done) | (go_simp; with_reducible rfl)
         try simp only [Act.put, sA, sB, sC]
         refine wpAnyH_ready (rs := [6, 18]) (by kernel_rfl) (by simp) ?_
         refine rC rfl (fun K hK => ?_) (rC rfl (fun K hK => ?_) AllReadyH.nil)
         ·go_simp
          refine (l1Max_one m.wrote.length wd).mono ?_
          rintro e wd ⟨rfl, rfl⟩
          (try go_wp2_with fail)
          refine hK.out _ _ (by first | with_reducible exact Dc.cells | with_reducible exact pDd | with_reducible exact pD | go_keep) (fun hHeld => ?_)
          clear hK K
          try simp only [Act.put, sA, sB, sC]
          refine wpAnyH_ready (rs := [7, 18]) (by kernel_rfl) (by simp) ?_
          refine rC rfl (fun K hK => ?_) (rC rfl (fun K hK => ?_) AllReadyH.nil)
          ·go_simp
           refine (l1Below_any bk (max m.wrote.length 1) (by omega) (by omega) wd Dc.cur).mono ?_
           rintro e wd ⟨⟨y7, hy7, rfl⟩, hc7, hd7⟩
           replace Dc := Dc.move hk ht hne hc7 hd7
           try replace NZ := NZ.drawn hd7 (by omega)
           replace hsz : w5.heap.size ≤ wd.heap.size := Nat.le_trans hsz hd7.size
           have hwy : IntKind.i64.wrap (1 + (y7 : Int)) = 1 + (y7 : Int) := by rw [IntKind.wrap_i64]; omega
           clear hc7 hd7
           (try go_wp2_with fail)
           refine hK.out _ _ (by first | with_reducible exact Dc.cells | with_reducible exact pDd | with_reducible exact pD | go_keep) (fun hHeld => ?_)
           clear hK K
           try simp only [Act.put, sA, sB, sC]
           refine tY 8 (v := ?_) rfl (by kernel_rfl) (.inl ⟨by rfl, ?_⟩) ‹_› ?_
           rotate_left 1
           ·intro w hSw
            (try dsimp only at hSw)
            first | (go_simp; done) | (go_simp; with_reducible rfl)
           try simp only [Act.put, sA, sB, sC]
           refine wpAnyH_ready (rs := [13, 18]) (by kernel_rfl) (by simp) ?_
           refine rC rfl (fun K hK => ?_) (rC rfl (fun K hK => ?_) AllReadyH.nil)
           ·go_simp
            refine (l1Below_le bk ds.length (by omega) wd Dc.cur).mono ?_
            rintro e wd ⟨⟨z7, hz7, rfl⟩, hc7, hd7⟩
            replace Dc := Dc.move hk ht hne hc7 hd7
            try replace NZ := NZ.drawn hd7 (by omega)
            replace hsz : w5.heap.size ≤ wd.heap.size := Nat.le_trans hsz hd7.size
            clear hc7 hd7
            (try go_wp2_with fail)
            refine hK.out _ _ (by first | with_reducible exact Dc.cells | with_reducible exact pDd | with_reducible exact pD | go_keep) (fun hHeld => ?_)
            clear hK K
            try simp only [Act.put, sA, sB, sC]
            refine wpAnyH_ready (rs := [14, 18]) (by kernel_rfl) (by simp) ?_
            refine rC rfl (fun K hK => ?_) (rC rfl (fun K hK => ?_) AllReadyH.nil)
            ·go_simp
             have C6 := dU CP wd Dc y7 z7 (by omega) (by omega)
             try (have hN7 := NZ.lt)
             refine C6.mono ?_
             clear C6
             obtain ⟨lo6, el6⟩ : ∃ l, wd.heap.size = l := ⟨_, rfl⟩
             have F6 := fun h => fitM.acked9 (ds := ds) (cop := cop) (m := m) (off := 1 + (y7 : Int)) (x := (z7 : Int)) ⟨by omega, by omega⟩ h
             intro e wd' hA6
             generalize hAM : ack9M ds cop m (1 + (y7 : Int)) (z7 : Int) = AM at *
             obtain ⟨m6, k6⟩ := AM
             clear hAM
             obtain ⟨⟨u6, rfl, O6, A6⟩, b6⟩ := hA6
             obtain ⟨q6, rfl, I6⟩ := ApM.both O6 A6
             simp only at I6 F6
             replace Dc := Dc.below b6
             try replace NZ := NZ.below b6
             rw [el6] at I6
             try rw [el6] at hN7
             have hs6 := b6.size
             have hl6 : bt + 1 ≤ lo6 := by omega
             replace hsz : w5.heap.size ≤ wd'.heap.size := by omega
             obtain ⟨hi6, eh6⟩ : ∃ l, wd'.heap.size = l := ⟨_, rfl⟩
             rw [eh6] at I6
             have hh6 : hi6 ≤ wd'.heap.size := by omega
             clear b6 O6 A6 hs6 el6 eh6
             try clear S8
             try clear E8
             try clear Z8
             generalize wd' = wd at *
             (try go_wp2_with fail)
             refine hK.out _ _ (by first | with_reducible exact Dc.cells | with_reducible exact pDd | with_reducible exact pD | go_keep) (fun hHeld => ?_)
             clear hK K
             try simp only [Act.put, sA, sB, sC]
             refine tY 15 (v := ?_) rfl (by kernel_rfl) (.inl ⟨by rfl, ?_⟩) ‹_› ?_
             rotate_left 1
             ·intro w hSw
              (try dsimp only at hSw)
              first | (go_simp; done) | (go_simp; with_reducible rfl)
             try simp only [Act.put, sA, sB, sC]
             refine tY 16 (v := ?_) rfl (by kernel_rfl) (.inl ⟨by rfl, ?_⟩) ‹_› ?_
             rotate_left 1
             ·intro w hSw
              (try dsimp only at hSw)
              first | (go_simp; done) | (go_simp; with_reducible rfl)
             try simp only [Act.put, sA, sB, sC]
             refine tY 17 (v := ?_) rfl (by kernel_rfl) (.inl ⟨by rfl, ?_⟩) ‹_› ?_
             rotate_left 1
             ·intro w hSw
              (try dsimp only at hSw)
              first | (go_simp; done) | (go_simp; with_reducible rfl)
             try simp only [Act.put, sA, sB, sC]
             refine wpAnyH_ready (rs := [18]) (by kernel_rfl) (by simp) ?_
             refine rC rfl (fun K hK => ?_) AllReadyH.nil
             go_simp
             have NZ := BxZ.new (B := 0) wd [.int .i64 0, .int .i64 0, .slice none 0 0, .slice none 0 0, .bool false, .slice none 0 0] 30 (Nat.zero_le _)
             have es7 : (wd.alloc (.cells #[.int .i64 0, .int .i64 0, .slice none 0 0, .slice none 0 0, .bool false, .slice none 0 0] 30)).heap.size = wd.heap.size + 1 := by simp
             replace Dc := Dc.below (ba wd (.cells #[.int .i64 0, .int .i64 0, .slice none 0 0, .slice none 0 0, .bool false, .slice none 0 0] 30))
             try replace S8 := S8.below (ba wd (.cells #[.int .i64 0, .int .i64 0, .slice none 0 0, .slice none 0 0, .bool false, .slice none 0 0] 30))
             try replace E8 := Rw.below E8 (ba wd (.cells #[.int .i64 0, .int .i64 0, .slice none 0 0, .slice none 0 0, .bool false, .slice none 0 0] 30))
             try replace Z8 := Z8.below (ba wd (.cells #[.int .i64 0, .int .i64 0, .slice none 0 0, .slice none 0 0, .bool false, .slice none 0 0] 30))
             try (have hap : hi6 ≤ wd.heap.size := hh6)
             try (replace I6 := fun h => ownBelow (I6 h) hh6 (ba wd (.cells #[.int .i64 0, .int .i64 0, .slice none 0 0, .slice none 0 0, .bool false, .slice none 0 0] 30)))
             try (replace hh6 : hi6 ≤ (wd.alloc (.cells #[.int .i64 0, .int .i64 0, .slice none 0 0, .slice none 0 0, .bool false, .slice none 0 0] 30)).heap.size := by omega)
             have hb7 : w5.heap.size ≤ wd.heap.size := hsz
             replace hsz : w5.heap.size ≤ (wd.alloc (.cells #[.int .i64 0, .int .i64 0, .slice none 0 0, .slice none 0 0, .bool false, .slice none 0 0] 30)).heap.size := by omega
             clear es7
             generalize wd.heap.size = b7 at *
             generalize wd.alloc (.cells #[.int .i64 0, .int .i64 0, .slice none 0 0, .slice none 0 0, .bool false, .slice none 0 0] 30) = wd at *
             refine hK.out _ _ (by first | with_reducible exact Dc.cells | with_reducible exact pDd | with_reducible exact pD | go_keep) (fun hHeld => ?_)
             clear hK K
             try simp only [Act.put, sA, sB, sC]
             refine wpAnyH_ready (rs := [19]) (by kernel_rfl) (by simp) ?_
             refine rC rfl (fun K hK => ?_) AllReadyH.nil
             obtain ⟨⟨z0, f0⟩, ⟨z1, f1⟩, ⟨z2, f2⟩, ⟨z3, f3⟩, ⟨z4, f4⟩, ⟨z5, f5⟩⟩ : (_ ∧ _) ∧ (_ ∧ _) ∧ (_ ∧ _) ∧ (_ ∧ _) ∧ (_ ∧ _) ∧ (_ ∧ _) := ⟨NZ.2 0 _ rfl, NZ.2 1 _ rfl, NZ.2 2 _ rfl, NZ.2 3 _ rfl, NZ.2 4 _ rfl, NZ.2 5 _ rfl⟩
             go_simp
             have N8 : Hid (k6 = true → bt + 1 ≤ lo6 ∧ fitM m6 ∧ DX _ b7 lo6 hi6 m6 q6) := fun h => ⟨hl6, F6 h, DX.put (I6 h) hh6 NZ (by first | exact .inl hN7 | exact .inr hap)⟩
             replace Dc := Dc.set6 hk ht hw hb7 (by omega) (.int .i64 m6.bye) (.int .i64 m6.epoch) (.slice q6.sa m6.sealed.length q6.sc) (.slice q6.ea m6.seen.length q6.ec) (.bool m6.planned) (.slice q6.wa m6.wrote.length q6.wc)
             clear z0 f0 z1 f1 z2 f2 z3 f3 z4 f4 z5 f5 NZ I6
             refine hK.out _ _ (by first | with_reducible exact Dc.cells | with_reducible exact pDd | with_reducible exact pD | go_keep) (fun hHeld => ?_)
             clear hK K
             try simp only [Act.put, sA, sB, sC]
             refine tY 20 (v := ?_) rfl (by kernel_rfl) (.inl ⟨by rfl, ?_⟩) ‹_› ?_
             rotate_left 1
             ·intro w hSw
              (try dsimp only at hSw)
              first | (go_simp; done) | (go_simp; with_reducible rfl)
             try simp only [Act.put, sA, sB, sC]
             refine wpAnyH_done (by kernel_rfl) ?_ _
             refine NoPanic.normal ?_
             go_wp2_with fail
             go_meet
             case rel => exact ⟨b7, lo6, hi6, m6, k6, q6, rfl, rfl, hb7, N8, Dc⟩
            ·go_simp
             have NZ := BxZ.new (B := 0) wd [.int .i64 0, .int .i64 0, .slice none 0 0, .slice none 0 0, .bool false, .slice none 0 0] 30 (Nat.zero_le _)
             have es7 : (wd.alloc (.cells #[.int .i64 0, .int .i64 0, .slice none 0 0, .slice none 0 0, .bool false, .slice none 0 0] 30)).heap.size = wd.heap.size + 1 := by simp
             replace Dc := Dc.below (ba wd (.cells #[.int .i64 0, .int .i64 0, .slice none 0 0, .slice none 0 0, .bool false, .slice none 0 0] 30))
             try replace S8 := S8.below (ba wd (.cells #[.int .i64 0, .int .i64 0, .slice none 0 0, .slice none 0 0, .bool false, .slice none 0 0] 30))
             try replace E8 := Rw.below E8 (ba wd (.cells #[.int .i64 0, .int .i64 0, .slice none 0 0, .slice none 0 0, .bool false, .slice none 0 0] 30))
             try replace Z8 := Z8.below (ba wd (.cells #[.int .i64 0, .int .i64 0, .slice none 0 0, .slice none 0 0, .bool false, .slice none 0 0] 30))
             try (have hap : hi6 ≤ wd.heap.size := hh6)
             try (replace I6 := fun h => ownBelow (I6 h) hh6 (ba wd (.cells #[.int .i64 0, .int .i64 0, .slice none 0 0, .slice none 0 0, .bool false, .slice none 0 0] 30)))
             try (replace hh6 : hi6 ≤ (wd.alloc (.cells #[.int .i64 0, .int .i64 0, .slice none 0 0, .slice none 0 0, .bool false, .slice none 0 0] 30)).heap.size := by omega)
             have hb7 : w5.heap.size ≤ wd.heap.size := hsz
             replace hsz : w5.heap.size ≤ (wd.alloc (.cells #[.int .i64 0, .int .i64 0, .slice none 0 0, .slice none 0 0, .bool false, .slice none 0 0] 30)).heap.size := by omega
             clear es7
             generalize wd.heap.size = b7 at *
             generalize wd.alloc (.cells #[.int .i64 0, .int .i64 0, .slice none 0 0, .slice none 0 0, .bool false, .slice none 0 0] 30) = wd at *
             refine hK.out _ _ (by first | with_reducible exact Dc.cells | with_reducible exact pDd | with_reducible exact pD | go_keep) (fun hHeld => ?_)
             clear hK K
             try simp only [Act.put, sA, sB, sC]
             refine wpAnyH_ready (rs := [14]) (by kernel_rfl) (by simp) ?_
             refine rC rfl (fun K hK => ?_) AllReadyH.nil
             go_simp
             have C6 := dU CP wd Dc y7 z7 (by omega) (by omega)
             try (have hN7 := NZ.lt)
             refine C6.mono ?_
             clear C6
             obtain ⟨lo6, el6⟩ : ∃ l, wd.heap.size = l := ⟨_, rfl⟩
             have F6 := fun h => fitM.acked9 (ds := ds) (cop := cop) (m := m) (off := 1 + (y7 : Int)) (x := (z7 : Int)) ⟨by omega, by omega⟩ h
             intro e wd' hA6
             generalize hAM : ack9M ds cop m (1 + (y7 : Int)) (z7 : Int) = AM at *
             obtain ⟨m6, k6⟩ := AM
             clear hAM
             obtain ⟨⟨u6, rfl, O6, A6⟩, b6⟩ := hA6
             obtain ⟨q6, rfl, I6⟩ := ApM.both O6 A6
             simp only at I6 F6
             replace Dc := Dc.below b6
             try replace NZ := NZ.below b6
             rw [el6] at I6
             try rw [el6] at hN7
             have hs6 := b6.size
             have hl6 : bt + 1 ≤ lo6 := by omega
             replace hsz : w5.heap.size ≤ wd'.heap.size := by omega
             obtain ⟨hi6, eh6⟩ : ∃ l, wd'.heap.size = l := ⟨_, rfl⟩
             rw [eh6] at I6
             have hh6 : hi6 ≤ wd'.heap.size := by omega
             clear b6 O6 A6 hs6 el6 eh6
             try clear S8
             try clear E8
             try clear Z8
             generalize wd' = wd at *
             (try go_wp2_with fail)
             refine hK.out _ _ (by first | with_reducible exact Dc.cells | with_reducible exact pDd | with_reducible exact pD | go_keep) (fun hHeld => ?_)
             clear hK K
             try simp only [Act.put, sA, sB, sC]
             refine tY 15 (v := ?_) rfl (by kernel_rfl) (.inl ⟨by rfl, ?_⟩) ‹_› ?_
             rotate_left 1
             ·intro w hSw
              (try dsimp only at hSw)
              first | (go_simp; done) | (go_simp; with_reducible rfl)
             try simp only [Act.put, sA, sB, sC]
             refine tY 16 (v := ?_) rfl (by kernel_rfl) (.inl ⟨by rfl, ?_⟩) ‹_› ?_
             rotate_left 1
             ·intro w hSw
              (try dsimp only at hSw)
              first | (go_simp; done) | (go_simp; with_reducible rfl)
             try simp only [Act.put, sA, sB, sC]
             refine tY 17 (v := ?_) rfl (by kernel_rfl) (.inl ⟨by rfl, ?_⟩) ‹_› ?_
             rotate_left 1
             ·intro w hSw
              (try dsimp only at hSw)
              first | (go_simp; done) | (go_simp; with_reducible rfl)
             try simp only [Act.put, sA, sB, sC]
             refine wpAnyH_ready (rs := [19]) (by kernel_rfl) (by simp) ?_
             refine rC rfl (fun K hK => ?_) AllReadyH.nil
             obtain ⟨⟨z0, f0⟩, ⟨z1, f1⟩, ⟨z2, f2⟩, ⟨z3, f3⟩, ⟨z4, f4⟩, ⟨z5, f5⟩⟩ : (_ ∧ _) ∧ (_ ∧ _) ∧ (_ ∧ _) ∧ (_ ∧ _) ∧ (_ ∧ _) ∧ (_ ∧ _) := ⟨NZ.2 0 _ rfl, NZ.2 1 _ rfl, NZ.2 2 _ rfl, NZ.2 3 _ rfl, NZ.2 4 _ rfl, NZ.2 5 _ rfl⟩
             go_simp
             have N8 : Hid (k6 = true → bt + 1 ≤ lo6 ∧ fitM m6 ∧ DX _ b7 lo6 hi6 m6 q6) := fun h => ⟨hl6, F6 h, DX.put (I6 h) hh6 NZ (by first | exact .inl hN7 | exact .inr hap)⟩
             replace Dc := Dc.set6 hk ht hw hb7 (by omega) (.int .i64 m6.bye) (.int .i64 m6.epoch) (.slice q6.sa m6.sealed.length q6.sc) (.slice q6.ea m6.seen.length q6.ec) (.bool m6.planned) (.slice q6.wa m6.wrote.length q6.wc)
             clear z0 f0 z1 f1 z2 f2 z3 f3 z4 f4 z5 f5 NZ I6
             refine hK.out _ _ (by first | with_reducible exact Dc.cells | with_reducible exact pDd | with_reducible exact pD | go_keep) (fun hHeld => ?_)
             clear hK K
             try simp only [Act.put, sA, sB, sC]
             refine tY 20 (v := ?_) rfl (by kernel_rfl) (.inl ⟨by rfl, ?_⟩) ‹_› ?_
             rotate_left 1
             ·intro w hSw
              (try dsimp only at hSw)
              first | (go_simp; done) | (go_simp; with_reducible rfl)
             try simp only [Act.put, sA, sB, sC]
             refine wpAnyH_done (by kernel_rfl) ?_ _
             refine NoPanic.normal ?_
             go_wp2_with fail
             go_meet
             case rel => exact ⟨b7, lo6, hi6, m6, k6, q6, rfl, rfl, hb7, N8, Dc⟩
           ·go_simp
            have NZ := BxZ.new (B := 0) wd [.int .i64 0, .int .i64 0, .slice none 0 0, .slice none 0 0, .bool false, .slice none 0 0] 30 (Nat.zero_le _)
            have es7 : (wd.alloc (.cells #[.int .i64 0, .int .i64 0, .slice none 0 0, .slice none 0 0, .bool false, .slice none 0 0] 30)).heap.size = wd.heap.size + 1 := by simp
            replace Dc := Dc.below (ba wd (.cells #[.int .i64 0, .int .i64 0, .slice none 0 0, .slice none 0 0, .bool false, .slice none 0 0] 30))
            try replace S8 := S8.below (ba wd (.cells #[.int .i64 0, .int .i64 0, .slice none 0 0, .slice none 0 0, .bool false, .slice none 0 0] 30))
            try replace E8 := Rw.below E8 (ba wd (.cells #[.int .i64 0, .int .i64 0, .slice none 0 0, .slice none 0 0, .bool false, .slice none 0 0] 30))
            try replace Z8 := Z8.below (ba wd (.cells #[.int .i64 0, .int .i64 0, .slice none 0 0, .slice none 0 0, .bool false, .slice none 0 0] 30))
            try (have hap : hi6 ≤ wd.heap.size := hh6)
            try (replace I6 := fun h => ownBelow (I6 h) hh6 (ba wd (.cells #[.int .i64 0, .int .i64 0, .slice none 0 0, .slice none 0 0, .bool false, .slice none 0 0] 30)))
            try (replace hh6 : hi6 ≤ (wd.alloc (.cells #[.int .i64 0, .int .i64 0, .slice none 0 0, .slice none 0 0, .bool false, .slice none 0 0] 30)).heap.size := by omega)
            have hb7 : w5.heap.size ≤ wd.heap.size := hsz
            replace hsz : w5.heap.size ≤ (wd.alloc (.cells #[.int .i64 0, .int .i64 0, .slice none 0 0, .slice none 0 0, .bool false, .slice none 0 0] 30)).heap.size := by omega
            clear es7
            generalize wd.heap.size = b7 at *
            generalize wd.alloc (.cells #[.int .i64 0, .int .i64 0, .slice none 0 0, .slice none 0 0, .bool false, .slice none 0 0] 30) = wd at *
            refine hK.out _ _ (by first | with_reducible exact Dc.cells | with_reducible exact pDd | with_reducible exact pD | go_keep) (fun hHeld => ?_)
            clear hK K
            try simp only [Act.put, sA, sB, sC]
            refine wpAnyH_ready (rs := [13]) (by kernel_rfl) (by simp) ?_
            refine rC rfl (fun K hK => ?_) AllReadyH.nil
            go_simp
            refine (l1Below_le bk ds.length (by omega) wd Dc.cur).mono ?_
            rintro e wd ⟨⟨z7, hz7, rfl⟩, hc7, hd7⟩
            replace Dc := Dc.move hk ht hne hc7 hd7
            try replace NZ := NZ.drawn hd7 (by omega)
            replace hsz : w5.heap.size ≤ wd.heap.size := Nat.le_trans hsz hd7.size
            clear hc7 hd7
            (try go_wp2_with fail)
            refine hK.out _ _ (by first | with_reducible exact Dc.cells | with_reducible exact pDd | with_reducible exact pD | go_keep) (fun hHeld => ?_)
            clear hK K
            try simp only [Act.put, sA, sB, sC]
            refine wpAnyH_ready (rs := [14]) (by kernel_rfl) (by simp) ?_
            refine rC rfl (fun K hK => ?_) AllReadyH.nil
            go_simp
            have C6 := dU CP wd Dc y7 z7 (by omega) (by omega)
            try (have hN7 := NZ.lt)
            refine C6.mono ?_
            clear C6
            obtain ⟨lo6, el6⟩ : ∃ l, wd.heap.size = l := ⟨_, rfl⟩
            have F6 := fun h => fitM.acked9 (ds := ds) (cop := cop) (m := m) (off := 1 + (y7 : Int)) (x := (z7 : Int)) ⟨by omega, by omega⟩ h
            intro e wd' hA6
            generalize hAM : ack9M ds cop m (1 + (y7 : Int)) (z7 : Int) = AM at *
            obtain ⟨m6, k6⟩ := AM
            clear hAM
            obtain ⟨⟨u6, rfl, O6, A6⟩, b6⟩ := hA6
            obtain ⟨q6, rfl, I6⟩ := ApM.both O6 A6
            simp only at I6 F6
            replace Dc := Dc.below b6
            try replace NZ := NZ.below b6
            rw [el6] at I6
            try rw [el6] at hN7
            have hs6 := b6.size
            have hl6 : bt + 1 ≤ lo6 := by omega
            replace hsz : w5.heap.size ≤ wd'.heap.size := by omega
            obtain ⟨hi6, eh6⟩ : ∃ l, wd'.heap.size = l := ⟨_, rfl⟩
            rw [eh6] at I6
            have hh6 : hi6 ≤ wd'.heap.size := by omega
            clear b6 O6 A6 hs6 el6 eh6
            try clear S8
            try clear E8
            try clear Z8
            generalize wd' = wd at *
            (try go_wp2_with fail)
            refine hK.out _ _ (by first | with_reducible exact Dc.cells | with_reducible exact pDd | with_reducible exact pD | go_keep) (fun hHeld => ?_)
            clear hK K
            try simp only [Act.put, sA, sB, sC]
            refine tY 15 (v := ?_) rfl (by kernel_rfl) (.inl ⟨by rfl, ?_⟩) ‹_› ?_
            rotate_left 1
            ·intro w hSw
             (try dsimp only at hSw)
             first | (go_simp; done) | (go_simp; with_reducible rfl)
            try simp only [Act.put, sA, sB, sC]
            refine tY 16 (v := ?_) rfl (by kernel_rfl) (.inl ⟨by rfl, ?_⟩) ‹_› ?_
            rotate_left 1
            ·intro w hSw
             (try dsimp only at hSw)
             first | (go_simp; done) | (go_simp; with_reducible rfl)
            try simp only [Act.put, sA, sB, sC]
            refine tY 17 (v := ?_) rfl (by kernel_rfl) (.inl ⟨by rfl, ?_⟩) ‹_› ?_
            rotate_left 1
            ·intro w hSw
             (try dsimp only at hSw)
             first | (go_simp; done) | (go_simp; with_reducible rfl)
            try simp only [Act.put, sA, sB, sC]
            refine wpAnyH_ready (rs := [19]) (by kernel_rfl) (by simp) ?_
            refine rC rfl (fun K hK => ?_) AllReadyH.nil
            obtain ⟨⟨z0, f0⟩, ⟨z1, f1⟩, ⟨z2, f2⟩, ⟨z3, f3⟩, ⟨z4, f4⟩, ⟨z5, f5⟩⟩ : (_ ∧ _) ∧ (_ ∧ _) ∧ (_ ∧ _) ∧ (_ ∧ _) ∧ (_ ∧ _) ∧ (_ ∧ _) := ⟨NZ.2 0 _ rfl, NZ.2 1 _ rfl, NZ.2 2 _ rfl, NZ.2 3 _ rfl, NZ.2 4 _ rfl, NZ.2 5 _ rfl⟩
            go_simp
            have N8 : Hid (k6 = true → bt + 1 ≤ lo6 ∧ fitM m6 ∧ DX _ b7 lo6 hi6 m6 q6) := fun h => ⟨hl6, F6 h, DX.put (I6 h) hh6 NZ (by first | exact .inl hN7 | exact .inr hap)⟩
            replace Dc := Dc.set6 hk ht hw hb7 (by omega) (.int .i64 m6.bye) (.int .i64 m6.epoch) (.slice q6.sa m6.sealed.length q6.sc) (.slice q6.ea m6.seen.length q6.ec) (.bool m6.planned) (.slice q6.wa m6.wrote.length q6.wc)
            clear z0 f0 z1 f1 z2 f2 z3 f3 z4 f4 z5 f5 NZ I6
            refine hK.out _ _ (by first | with_reducible exact Dc.cells | with_reducible exact pDd | with_reducible exact pD | go_keep) (fun hHeld => ?_)
            clear hK K
            try simp only [Act.put, sA, sB, sC]
            refine tY 20 (v := ?_) rfl (by kernel_rfl) (.inl ⟨by rfl, ?_⟩) ‹_› ?_
            rotate_left 1
            ·intro w hSw
             (try dsimp only at hSw)
             first | (go_simp; done) | (go_simp; with_reducible rfl)
            try simp only [Act.put, sA, sB, sC]
            refine wpAnyH_done (by kernel_rfl) ?_ _
            refine NoPanic.normal ?_
            go_wp2_with fail
            go_meet
            case rel => exact ⟨b7, lo6, hi6, m6, k6, q6, rfl, rfl, hb7, N8, Dc⟩
          ·go_simp
           have NZ := BxZ.new (B := 0) wd [.int .i64 0, .int .i64 0, .slice none 0 0, .slice none 0 0, .bool false, .slice none 0 0] 30 (Nat.zero_le _)
           have es7 : (wd.alloc (.cells #[.int .i64 0, .int .i64 0, .slice none 0 0, .slice none 0 0, .bool false, .slice none 0 0] 30)).heap.size = wd.heap.size + 1 := by simp
           replace Dc := Dc.below (ba wd (.cells #[.int .i64 0, .int .i64 0, .slice none 0 0, .slice none 0 0, .bool false, .slice none 0 0] 30))
           try replace S8 := S8.below (ba wd (.cells #[.int .i64 0, .int .i64 0, .slice none 0 0, .slice none 0 0, .bool false, .slice none 0 0] 30))
           try replace E8 := Rw.below E8 (ba wd (.cells #[.int .i64 0, .int .i64 0, .slice none 0 0, .slice none 0 0, .bool false, .slice none 0 0] 30))
           try replace Z8 := Z8.below (ba wd (.cells #[.int .i64 0, .int .i64 0, .slice none 0 0, .slice none 0 0, .bool false, .slice none 0 0] 30))
           try (have hap : hi6 ≤ wd.heap.size := hh6)
           try (replace I6 := fun h => ownBelow (I6 h) hh6 (ba wd (.cells #[.int .i64 0, .int .i64 0, .slice none 0 0, .slice none 0 0, .bool false, .slice none 0 0] 30)))
           try (replace hh6 : hi6 ≤ (wd.alloc (.cells #[.int .i64 0, .int .i64 0, .slice none 0 0, .slice none 0 0, .bool false, .slice none 0 0] 30)).heap.size := by omega)
           have hb7 : w5.heap.size ≤ wd.heap.size := hsz
           replace hsz : w5.heap.size ≤ (wd.alloc (.cells #[.int .i64 0, .int .i64 0, .slice none 0 0, .slice none 0 0, .bool false, .slice none 0 0] 30)).heap.size := by omega
           clear es7
           generalize wd.heap.size = b7 at *
           generalize wd.alloc (.cells #[.int .i64 0, .int .i64 0, .slice none 0 0, .slice none 0 0, .bool false, .slice none 0 0] 30) = wd at *
           refine hK.out _ _ (by first | with_reducible exact Dc.cells | with_reducible exact pDd | with_reducible exact pD | go_keep) (fun hHeld => ?_)
           clear hK K
           try simp only [Act.put, sA, sB, sC]
           refine wpAnyH_ready (rs := [7]) (by kernel_rfl) (by simp) ?_
           refine rC rfl (fun K hK => ?_) AllReadyH.nil
           go_simp
           refine (l1Below_any bk (max m.wrote.length 1) (by omega) (by omega) wd Dc.cur).mono ?_
           rintro e wd ⟨⟨y7, hy7, rfl⟩, hc7, hd7⟩
           replace Dc := Dc.move hk ht hne hc7 hd7
           try replace NZ := NZ.drawn hd7 (by omega)
           replace hsz : w5.heap.size ≤ wd.heap.size := Nat.le_trans hsz hd7.size
           have hwy : IntKind.i64.wrap (1 + (y7 : Int)) = 1 + (y7 : Int) := by rw [IntKind.wrap_i64]; omega
           clear hc7 hd7
           (try go_wp2_with fail)
           refine hK.out _ _ (by first | with_reducible exact Dc.cells | with_reducible exact pDd | with_reducible exact pD | go_keep) (fun hHeld => ?_)
           clear hK K
           try simp only [Act.put, sA, sB, sC]
           refine tY 8 (v := ?_) rfl (by kernel_rfl) (.inl ⟨by rfl, ?_⟩) ‹_› ?_
           rotate_left 1
           ·intro w hSw
            (try dsimp only at hSw)
            first | (go_simp; done) | (go_simp; with_reducible rfl)
           try simp only [Act.put, sA, sB, sC]
           refine wpAnyH_ready (rs := [13]) (by kernel_rfl) (by simp) ?_
           refine rC rfl (fun K hK => ?_) AllReadyH.nil
           go_simp
           refine (l1Below_le bk ds.length (by omega) wd Dc.cur).mono ?_
           rintro e wd ⟨⟨z7, hz7, rfl⟩, hc7, hd7⟩
           replace Dc := Dc.move hk ht hne hc7 hd7
           try replace NZ := NZ.drawn hd7 (by omega)
           replace hsz : w5.heap.size ≤ wd.heap.size := Nat.le_trans hsz hd7.size
           clear hc7 hd7
           (try go_wp2_with fail)
           refine hK.out _ _ (by first | with_reducible exact Dc.cells | with_reducible exact pDd | with_reducible exact pD | go_keep) (fun hHeld => ?_)
           clear hK K
           try simp only [Act.put, sA, sB, sC]
           refine wpAnyH_ready (rs := [14]) (by kernel_rfl) (by simp) ?_
           refine rC rfl (fun K hK => ?_) AllReadyH.nil
           go_simp
           have C6 := dU CP wd Dc y7 z7 (by omega) (by omega)
           try (have hN7 := NZ.lt)
           refine C6.mono ?_
           clear C6
           obtain ⟨lo6, el6⟩ : ∃ l, wd.heap.size = l := ⟨_, rfl⟩
           have F6 := fun h => fitM.acked9 (ds := ds) (cop := cop) (m := m) (off := 1 + (y7 : Int)) (x := (z7 : Int)) ⟨by omega, by omega⟩ h
           intro e wd' hA6
           generalize hAM : ack9M ds cop m (1 + (y7 : Int)) (z7 : Int) = AM at *
           obtain ⟨m6, k6⟩ := AM
           clear hAM
           obtain ⟨⟨u6, rfl, O6, A6⟩, b6⟩ := hA6
           obtain ⟨q6, rfl, I6⟩ := ApM.both O6 A6
           simp only at I6 F6
           replace Dc := Dc.below b6
           try replace NZ := NZ.below b6
           rw [el6] at I6
           try rw [el6] at hN7
           have hs6 := b6.size
           have hl6 : bt + 1 ≤ lo6 := by omega
           replace hsz : w5.heap.size ≤ wd'.heap.size := by omega
           obtain ⟨hi6, eh6⟩ : ∃ l, wd'.heap.size = l := ⟨_, rfl⟩
           rw [eh6] at I6
           have hh6 : hi6 ≤ wd'.heap.size := by omega
           clear b6 O6 A6 hs6 el6 eh6
           try clear S8
           try clear E8
           try clear Z8
           generalize wd' = wd at *
           (try go_wp2_with fail)
           refine hK.out _ _ (by first | with_reducible exact Dc.cells | with_reducible exact pDd | with_reducible exact pD | go_keep) (fun hHeld => ?_)
           clear hK K
           try simp only [Act.put, sA, sB, sC]
           refine tY 15 (v := ?_) rfl (by kernel_rfl) (.inl ⟨by rfl, ?_⟩) ‹_› ?_
           rotate_left 1
           ·intro w hSw
            (try dsimp only at hSw)
            first | (go_simp; done) | (go_simp; with_reducible rfl)
           try simp only [Act.put, sA, sB, sC]
           refine tY 16 (v := ?_) rfl (by kernel_rfl) (.inl ⟨by rfl, ?_⟩) ‹_› ?_
           rotate_left 1
           ·intro w hSw
            (try dsimp only at hSw)
            first | (go_simp; done) | (go_simp; with_reducible rfl)
           try simp only [Act.put, sA, sB, sC]
           refine tY 17 (v := ?_) rfl (by kernel_rfl) (.inl ⟨by rfl, ?_⟩) ‹_› ?_
           rotate_left 1
           ·intro w hSw
            (try dsimp only at hSw)
            first | (go_simp; done) | (go_simp; with_reducible rfl)
           try simp only [Act.put, sA, sB, sC]
           refine wpAnyH_ready (rs := [19]) (by kernel_rfl) (by simp) ?_
           refine rC rfl (fun K hK => ?_) AllReadyH.nil
           obtain ⟨⟨z0, f0⟩, ⟨z1, f1⟩, ⟨z2, f2⟩, ⟨z3, f3⟩, ⟨z4, f4⟩, ⟨z5, f5⟩⟩ : (_ ∧ _) ∧ (_ ∧ _) ∧ (_ ∧ _) ∧ (_ ∧ _) ∧ (_ ∧ _) ∧ (_ ∧ _) := ⟨NZ.2 0 _ rfl, NZ.2 1 _ rfl, NZ.2 2 _ rfl, NZ.2 3 _ rfl, NZ.2 4 _ rfl, NZ.2 5 _ rfl⟩
           go_simp
           have N8 : Hid (k6 = true → bt + 1 ≤ lo6 ∧ fitM m6 ∧ DX _ b7 lo6 hi6 m6 q6) := fun h => ⟨hl6, F6 h, DX.put (I6 h) hh6 NZ (by first | exact .inl hN7 | exact .inr hap)⟩
           replace Dc := Dc.set6 hk ht hw hb7 (by omega) (.int .i64 m6.bye) (.int .i64 m6.epoch) (.slice q6.sa m6.sealed.length q6.sc) (.slice q6.ea m6.seen.length q6.ec) (.bool m6.planned) (.slice q6.wa m6.wrote.length q6.wc)
           clear z0 f0 z1 f1 z2 f2 z3 f3 z4 f4 z5 f5 NZ I6
           refine hK.out _ _ (by first | with_reducible exact Dc.cells | with_reducible exact pDd | with_reducible exact pD | go_keep) (fun hHeld => ?_)
           clear hK K
           try simp only [Act.put, sA, sB, sC]
           refine tY 20 (v := ?_) rfl (by kernel_rfl) (.inl ⟨by rfl, ?_⟩) ‹_› ?_
           rotate_left 1
           ·intro w hSw
            (try dsimp only at hSw)
            first | (go_simp; done) | (go_simp; with_reducible rfl)
           try simp only [Act.put, sA, sB, sC]
           refine wpAnyH_done (by kernel_rfl) ?_ _
           refine NoPanic.normal ?_
           go_wp2_with fail
           go_meet
           case rel => exact ⟨b7, lo6, hi6, m6, k6, q6, rfl, rfl, hb7, N8, Dc⟩
         ·go_simp
          have NZ := BxZ.new (B := 0) wd [.int .i64 0, .int .i64 0, .slice none 0 0, .slice none 0 0, .bool false, .slice none 0 0] 30 (Nat.zero_le _)
          have es7 : (wd.alloc (.cells #[.int .i64 0, .int .i64 0, .slice none 0 0, .slice none 0 0, .bool false, .slice none 0 0] 30)).heap.size = wd.heap.size + 1 := by simp
          replace Dc := Dc.below (ba wd (.cells #[.int .i64 0, .int .i64 0, .slice none 0 0, .slice none 0 0, .bool false, .slice none 0 0] 30))
          try replace S8 := S8.below (ba wd (.cells #[.int .i64 0, .int .i64 0, .slice none 0 0, .slice none 0 0, .bool false, .slice none 0 0] 30))
          try replace E8 := Rw.below E8 (ba wd (.cells #[.int .i64 0, .int .i64 0, .slice none 0 0, .slice none 0 0, .bool false, .slice none 0 0] 30))
          try replace Z8 := Z8.below (ba wd (.cells #[.int .i64 0, .int .i64 0, .slice none 0 0, .slice none 0 0, .bool false, .slice none 0 0] 30))
          try (have hap : hi6 ≤ wd.heap.size := hh6)
          try (replace I6 := fun h => ownBelow (I6 h) hh6 (ba wd (.cells #[.int .i64 0, .int .i64 0, .slice none 0 0, .slice none 0 0, .bool false, .slice none 0 0] 30)))
          try (replace hh6 : hi6 ≤ (wd.alloc (.cells #[.int .i64 0, .int .i64 0, .slice none 0 0, .slice none 0 0, .bool false, .slice none 0 0] 30)).heap.size := by omega)
          have hb7 : w5.heap.size ≤ wd.heap.size := hsz
          replace hsz : w5.heap.size ≤ (wd.alloc (.cells #[.int .i64 0, .int .i64 0, .slice none 0 0, .slice none 0 0, .bool false, .slice none 0 0] 30)).heap.size := by omega
          clear es7
          generalize wd.heap.size = b7 at *
          generalize wd.alloc (.cells #[.int .i64 0, .int .i64 0, .slice none 0 0, .slice none 0 0, .bool false, .slice none 0 0] 30) = wd at *
          refine hK.out _ _ (by first | with_reducible exact Dc.cells | with_reducible exact pDd | with_reducible exact pD | go_keep) (fun hHeld => ?_)
          clear hK K
          try simp only [Act.put, sA, sB, sC]
          refine wpAnyH_ready (rs := [6]) (by kernel_rfl) (by simp) ?_
          refine rC rfl (fun K hK => ?_) AllReadyH.nil
          go_simp
          refine (l1Max_one m.wrote.length wd).mono ?_
          rintro e wd ⟨rfl, rfl⟩
          (try go_wp2_with fail)
          refine hK.out _ _ (by first | with_reducible exact Dc.cells | with_reducible exact pDd | with_reducible exact pD | go_keep) (fun hHeld => ?_)
          clear hK K
          try simp only [Act.put, sA, sB, sC]
          refine wpAnyH_ready (rs := [7]) (by kernel_rfl) (by simp) ?_
          refine rC rfl (fun K hK => ?_) AllReadyH.nil
          go_simp
          refine (l1Below_any bk (max m.wrote.length 1) (by omega) (by omega) wd Dc.cur).mono ?_
          rintro e wd ⟨⟨y7, hy7, rfl⟩, hc7, hd7⟩
          replace Dc := Dc.move hk ht hne hc7 hd7
          try replace NZ := NZ.drawn hd7 (by omega)
          replace hsz : w5.heap.size ≤ wd.heap.size := Nat.le_trans hsz hd7.size
          have hwy : IntKind.i64.wrap (1 + (y7 : Int)) = 1 + (y7 : Int) := by rw [IntKind.wrap_i64]; omega
          clear hc7 hd7
          (try go_wp2_with fail)
          refine hK.out _ _ (by first | with_reducible exact Dc.cells | with_reducible exact pDd | with_reducible exact pD | go_keep) (fun hHeld => ?_)
          clear hK K
          try simp only [Act.put, sA, sB, sC]
          refine tY 8 (v := ?_) rfl (by kernel_rfl) (.inl ⟨by rfl, ?_⟩) ‹_› ?_
          rotate_left 1
          ·intro w hSw
           (try dsimp only at hSw)
           first | (go_simp; done) | (go_simp; with_reducible rfl)
          try simp only [Act.put, sA, sB, sC]
          refine wpAnyH_ready (rs := [13]) (by kernel_rfl) (by simp) ?_
          refine rC rfl (fun K hK => ?_) AllReadyH.nil
          go_simp
          refine (l1Below_le bk ds.length (by omega) wd Dc.cur).mono ?_
          rintro e wd ⟨⟨z7, hz7, rfl⟩, hc7, hd7⟩
          replace Dc := Dc.move hk ht hne hc7 hd7
          try replace NZ := NZ.drawn hd7 (by omega)
          replace hsz : w5.heap.size ≤ wd.heap.size := Nat.le_trans hsz hd7.size
          clear hc7 hd7
          (try go_wp2_with fail)
          refine hK.out _ _ (by first | with_reducible exact Dc.cells | with_reducible exact pDd | with_reducible exact pD | go_keep) (fun hHeld => ?_)
          clear hK K
          try simp only [Act.put, sA, sB, sC]
          refine wpAnyH_ready (rs := [14]) (by kernel_rfl) (by simp) ?_
          refine rC rfl (fun K hK => ?_) AllReadyH.nil
          go_simp
          have C6 := dU CP wd Dc y7 z7 (by omega) (by omega)
          try (have hN7 := NZ.lt)
          refine C6.mono ?_
          clear C6
          obtain ⟨lo6, el6⟩ : ∃ l, wd.heap.size = l := ⟨_, rfl⟩
          have F6 := fun h => fitM.acked9 (ds := ds) (cop := cop) (m := m) (off := 1 + (y7 : Int)) (x := (z7 : Int)) ⟨by omega, by omega⟩ h
          intro e wd' hA6
          generalize hAM : ack9M ds cop m (1 + (y7 : Int)) (z7 : Int) = AM at *
          obtain ⟨m6, k6⟩ := AM
          clear hAM
          obtain ⟨⟨u6, rfl, O6, A6⟩, b6⟩ := hA6
          obtain ⟨q6, rfl, I6⟩ := ApM.both O6 A6
          simp only at I6 F6
          replace Dc := Dc.below b6
          try replace NZ := NZ.below b6
          rw [el6] at I6
          try rw [el6] at hN7
          have hs6 := b6.size
          have hl6 : bt + 1 ≤ lo6 := by omega
          replace hsz : w5.heap.size ≤ wd'.heap.size := by omega
          obtain ⟨hi6, eh6⟩ : ∃ l, wd'.heap.size = l := ⟨_, rfl⟩
          rw [eh6] at I6
          have hh6 : hi6 ≤ wd'.heap.size := by omega
          clear b6 O6 A6 hs6 el6 eh6
          try clear S8
          try clear E8
          try clear Z8
          generalize wd' = wd at *
          (try go_wp2_with fail)
          refine hK.out _ _ (by first | with_reducible exact Dc.cells | with_reducible exact pDd | with_reducible exact pD | go_keep) (fun hHeld => ?_)
          clear hK K
          try simp only [Act.put, sA, sB, sC]
          refine tY 15 (v := ?_) rfl (by kernel_rfl) (.inl ⟨by rfl, ?_⟩) ‹_› ?_
          rotate_left 1
          ·intro w hSw
           (try dsimp only at hSw)
           first | (go_simp; done) | (go_simp; with_reducible rfl)
          try simp only [Act.put, sA, sB, sC]
          refine tY 16 (v := ?_) rfl (by kernel_rfl) (.inl ⟨by rfl, ?_⟩) ‹_› ?_
          rotate_left 1
          ·intro w hSw
           (try dsimp only at hSw)
           first | (go_simp; done) | (go_simp; with_reducible rfl)
          try simp only [Act.put, sA, sB, sC]
          refine tY 17 (v := ?_) rfl (by kernel_rfl) (.inl ⟨by rfl, ?_⟩) ‹_› ?_
          rotate_left 1
          ·intro w hSw
           (try dsimp only at hSw)
           first | (go_simp; done) | (go_simp; with_reducible rfl)
          try simp only [Act.put, sA, sB, sC]
          refine wpAnyH_ready (rs := [19]) (by kernel_rfl) (by simp) ?_
          refine rC rfl (fun K hK => ?_) AllReadyH.nil
          obtain ⟨⟨z0, f0⟩, ⟨z1, f1⟩, ⟨z2, f2⟩, ⟨z3, f3⟩, ⟨z4, f4⟩, ⟨z5, f5⟩⟩ : (_ ∧ _) ∧ (_ ∧ _) ∧ (_ ∧ _) ∧ (_ ∧ _) ∧ (_ ∧ _) ∧ (_ ∧ _) := ⟨NZ.2 0 _ rfl, NZ.2 1 _ rfl, NZ.2 2 _ rfl, NZ.2 3 _ rfl, NZ.2 4 _ rfl, NZ.2 5 _ rfl⟩
          go_simp
          have N8 : Hid (k6 = true → bt + 1 ≤ lo6 ∧ fitM m6 ∧ DX _ b7 lo6 hi6 m6 q6) := fun h => ⟨hl6, F6 h, DX.put (I6 h) hh6 NZ (by first | exact .inl hN7 | exact .inr hap)⟩
          replace Dc := Dc.set6 hk ht hw hb7 (by omega) (.int .i64 m6.bye) (.int .i64 m6.epoch) (.slice q6.sa m6.sealed.length q6.sc) (.slice q6.ea m6.seen.length q6.ec) (.bool m6.planned) (.slice q6.wa m6.wrote.length q6.wc)
          clear z0 f0 z1 f1 z2 f2 z3 f3 z4 f4 z5 f5 NZ I6
          refine hK.out _ _ (by first | with_reducible exact Dc.cells | with_reducible exact pDd | with_reducible exact pD | go_keep) (fun hHeld => ?_)
          clear hK K
          try simp only [Act.put, sA, sB, sC]
          refine tY 20 (v := ?_) rfl (by kernel_rfl) (.inl ⟨by rfl, ?_⟩) ‹_› ?_
          rotate_left 1
          ·intro w hSw
           (try dsimp only at hSw)
           first | (go_simp; done) | (go_simp; with_reducible rfl)
          try simp only [Act.put, sA, sB, sC]
          refine wpAnyH_done (by kernel_rfl) ?_ _
          refine NoPanic.normal ?_
          go_wp2_with fail
          go_meet
          case rel => exact ⟨b7, lo6, hi6, m6, k6, q6, rfl, rfl, hb7, N8, Dc⟩
        case rest =>
         obtain ⟨bo, lo', hi', m', mb, q', rfl, rfl, hbo, N2, D2⟩ := hcut
         clear CP Dc pDd D5 pD
         generalize wc = w6 at *
         cases mb with
         | false =>
          have D6 := dU D2
          have HD := dH (D6.weak (B' := w6.heap.size) (by have := D6.men.fit; omega) (Nat.le_refl _))
          clear D2 D6 N2
          go_wp2
          go_roundw
          case rel => exact ⟨k + 1, m, q, by go_num, by omega, HD⟩
          case measure => simp [intOf]; omega
         | true =>
          obtain ⟨hl5, hf5, N5⟩ := dU N2 rfl
          have D5 := dU D2
          clear N2 D2
          generalize w6 = w5 at *
          have nb := N5.box
          obtain ⟨⟨y0, -⟩, ⟨y1, -⟩, ⟨y2, -⟩, ⟨y3, -⟩, ⟨y4, -⟩, ⟨y5, -⟩⟩ : (_ ∧ _) ∧ (_ ∧ _) ∧ (_ ∧ _) ∧ (_ ∧ _) ∧ (_ ∧ _) ∧ (_ ∧ _) := ⟨nb.2 0 _ rfl, nb.2 1 _ rfl, nb.2 2 _ rfl, nb.2 3 _ rfl, nb.2 4 _ rfl, nb.2 5 _ rfl⟩
          obtain ⟨⟨z0, f0⟩, ⟨z1, f1⟩, ⟨z2, f2⟩, ⟨z3, f3⟩, ⟨z4, f4⟩, ⟨z5, f5⟩⟩ : (_ ∧ _) ∧ (_ ∧ _) ∧ (_ ∧ _) ∧ (_ ∧ _) ∧ (_ ∧ _) ∧ (_ ∧ _) := ⟨D5.men.box.2 0 _ rfl, D5.men.box.2 1 _ rfl, D5.men.box.2 2 _ rfl, D5.men.box.2 3 _ rfl, D5.men.box.2 4 _ rfl, D5.men.box.2 5 _ rfl⟩
          have HT := (D5.take hk ht hw N5 hl5 hf5)
          replace HT := dH (HT.weak (B' := ((((((w5.setCell ⟨bt, 0, none⟩ (.int .i64 m'.bye)).setCell ⟨bt, 1, none⟩ (.int .i64 m'.epoch)).setCell ⟨bt, 2, none⟩ (.slice q'.sa m'.sealed.length q'.sc)).setCell ⟨bt, 3, none⟩ (.slice q'.ea m'.seen.length q'.ec)).setCell ⟨bt, 4, none⟩ (.bool m'.planned)).setCell ⟨bt, 5, none⟩ (.slice q'.wa m'.wrote.length q'.wc)).heap.size) (by simp) (Nat.le_refl _))
          clear D5 N5 nb
          go_wp2
          go_roundw
          case rel => exact ⟨k + 1, _, _, by go_num, by omega, HT⟩
          case measure => simp [intOf]; omega
       ·obtain ⟨⟨z0, f0⟩, ⟨z1, f1⟩, ⟨z2, f2⟩, ⟨z3, f3⟩, ⟨z4, f4⟩, ⟨z5, f5⟩⟩ : (_ ∧ _) ∧ (_ ∧ _) ∧ (_ ∧ _) ∧ (_ ∧ _) ∧ (_ ∧ _) ∧ (_ ∧ _) := ⟨D5.res.2 0 _ rfl, D5.res.2 1 _ rfl, D5.res.2 2 _ rfl, D5.res.2 3 _ rfl, D5.res.2 4 _ rfl, D5.res.2 5 _ rfl⟩
        obtain ⟨-, k0, k1, k2, k3, k4, k5⟩ := D5.cells
        have ZZ := dH ((((((D5.res.put 0 (.int .i64 m.bye)).put 1 (.int .i64 m.epoch)).put 2 (.slice q.sa m.sealed.length q.sc)).put 3 (.slice q.ea m.seen.length q.ec)).put 4 (.bool m.planned)).put 5 (.slice q.wa m.wrote.length q.wc))
        obtain ⟨rs9, e9, M9⟩ := D5.men.own
        have hbt : bt < w5.heap.size := D5.lt
        have OO := dH ((((((M9.far (b := w.heap.size + 1) (o := 0) (.inl (by omega)) (.int .i64 m.bye)).far (b := w.heap.size + 1) (o := 1) (.inl (by omega)) (.int .i64 m.epoch)).far (b := w.heap.size + 1) (o := 2) (.inl (by omega)) (.slice q.sa m.sealed.length q.sc)).far (b := w.heap.size + 1) (o := 3) (.inl (by omega)) (.slice q.ea m.seen.length q.ec)).far (b := w.heap.size + 1) (o := 4) (.inl (by omega)) (.bool m.planned)).far (b := w.heap.size + 1) (o := 5) (.inl (by omega)) (.slice q.wa m.wrote.length q.wc))
        have CC := dH ((((((D5.cur.setNew4 (b := w.heap.size + 1) (by omega) 0 (.int .i64 m.bye)).setNew4 (b := w.heap.size + 1) (by omega) 1 (.int .i64 m.epoch)).setNew4 (b := w.heap.size + 1) (by omega) 2 (.slice q.sa m.sealed.length q.sc)).setNew4 (b := w.heap.size + 1) (by omega) 3 (.slice q.ea m.seen.length q.ec)).setNew4 (b := w.heap.size + 1) (by omega) 4 (.bool m.planned)).setNew4 (b := w.heap.size + 1) (by omega) 5 (.slice q.wa m.wrote.length q.wc))
        have DD := dH ((((((D5.drawn.setNew (b := w.heap.size + 1) (by omega) 0 (.int .i64 m.bye)).setNew (b := w.heap.size + 1) (by omega) 1 (.int .i64 m.epoch)).setNew (b := w.heap.size + 1) (by omega) 2 (.slice q.sa m.sealed.length q.sc)).setNew (b := w.heap.size + 1) (by omega) 3 (.slice q.ea m.seen.length q.ec)).setNew (b := w.heap.size + 1) (by omega) 4 (.bool m.planned)).setNew (b := w.heap.size + 1) (by omega) 5 (.slice q.wa m.wrote.length q.wc))
        have RR := dH D5.fit
        have E9 := dH e9
        have hV : w5.heap.size = ((((((w5.setCell ⟨w.heap.size + 1, 0, none⟩ (.int .i64 m.bye)).setCell ⟨w.heap.size + 1, 1, none⟩ (.int .i64 m.epoch)).setCell ⟨w.heap.size + 1, 2, none⟩ (.slice q.sa m.sealed.length q.sc)).setCell ⟨w.heap.size + 1, 3, none⟩ (.slice q.ea m.seen.length q.ec)).setCell ⟨w.heap.size + 1, 4, none⟩ (.bool m.planned)).setCell ⟨w.heap.size + 1, 5, none⟩ (.slice q.wa m.wrote.length q.wc)).heap.size := by simp
        clear D5 M9 e9
        go_wp2_with fail
        generalize ((((((w5.setCell ⟨w.heap.size + 1, 0, none⟩ (.int .i64 m.bye)).setCell ⟨w.heap.size + 1, 1, none⟩ (.int .i64 m.epoch)).setCell ⟨w.heap.size + 1, 2, none⟩ (.slice q.sa m.sealed.length q.sc)).setCell ⟨w.heap.size + 1, 3, none⟩ (.slice q.ea m.seen.length q.ec)).setCell ⟨w.heap.size + 1, 4, none⟩ (.bool m.planned)).setCell ⟨w.heap.size + 1, 5, none⟩ (.slice q.wa m.wrote.length q.wc)) = V at *
        have q0 := ((dU ZZ).2 0 _ rfl).1
        have q1 := ((dU ZZ).2 1 _ rfl).1
        have q2 := ((dU ZZ).2 2 _ rfl).1
        have q3 := ((dU ZZ).2 3 _ rfl).1
        have q4 := ((dU ZZ).2 4 _ rfl).1
        have q5 := ((dU ZZ).2 5 _ rfl).1
        rw [hV] at OO
        refine bodyPost_ret (v := .agg #[.int .i64 m.bye, .int .i64 m.epoch, .slice q.sa m.sealed.length q.sc, .slice q.ea m.seen.length q.ec, .bool m.planned, .slice q.wa m.wrote.length q.wc]) (by simp [results, Tryz.results115, go_sem, q0, q1, q2, q3, q4, q5]) rfl ⟨⟨m, q, rfl, ⟨rs9, dU E9, (dU OO).wide (by omega) (Nat.le_refl _)⟩, dU RR⟩, dU CC, dU DD⟩
end Go.Proofs.YtjkjmapibcfcdaaGreat
