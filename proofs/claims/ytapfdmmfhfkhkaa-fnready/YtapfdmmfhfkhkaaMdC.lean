/- Mends drawn: l9DrawRight (printed by tools/mkmdc.py). -/
import Derived.Test.YtapfdmmfhfkhkaaMdA
import Derived.Test.YtapfdmmfhfkhkaaMdB
import Derived.Test.YtapfdmmfhfkhkaaMnU
import Derived.Test.YtapfdmmfhfkhkaaQ9N
import Derived.Test.YtapfdmmfhfkhkaaGx3
import Derived.Test.YtapfdmmfhfkhkaaGx2
import Derived.Deep.RegionLaw
import Derived.Deep.RegionHeld3
import Derived.Deep.DeepCutAuto
namespace Go.Proofs.Ytapfdmmfhfkhkaa
open Go.ChangeShapes Go.WideShapes Go.ChangeAt Go.RowKit
set_option linter.unusedVariables false
set_option linter.unusedSimpArgs false
set_option maxRecDepth 100000

theorem l1Below_le (bk : Nat) (n : Nat) (h2 : n ≤ 4611686018427387904) (w : World) (hc : Cur w bk) :
  Calls Try.prog 39 #[.pointer (some ⟨bk, 0, none⟩), .int .i64 n] w fun e w' => (∃ x : Nat, x ≤ n ∧ e = .returned (.int .i64 (x : Int))) ∧ Cur w' bk ∧ Drawn bk w w' := by
 rcases Nat.eq_zero_or_pos n with h | h
 ·subst h
  have H := dHide hc
  clear hc
  go_enter Try.func39, Try.ntmps39
  go_wp2
  go_ret
  exact ⟨⟨0, Nat.le_refl _, rfl⟩, dUnhide H, Drawn.refl _ _⟩
 ·refine (l1Below_any bk n h h2 w hc).mono ?_
  rintro e w' ⟨⟨x, hx, rfl⟩, h1, h2⟩
  exact ⟨⟨x, by omega, rfl⟩, h1, h2⟩
theorem MIn.bare (lo hi : Nat) (W : World) : MIn lo hi (.slice none 0 0) (.slice none 0 0) (.slice none 0 0) [] [] [] W :=
 ⟨⟨⟨by simp, none, 0, rfl, by simp, .inl rfl⟩, .inl rfl⟩, ⟨.inl ⟨rfl, none, rfl⟩, fun _ => rfl⟩, .inl rfl, LAp.nil _ _ _, (fun b hb => by simp [touch] at hb), (fun p hp => by cases hp), .inl rfl, .inl rfl, .inl rfl⟩
theorem ownBelow {lo hi : Nat} {sv ev wv : Value} {ws : List (List Int)} {ss : List Int} {es : List Ent} {W W' : World} (h : ∃ rs, rs.map Nst.m = ws ∧ MIn lo hi sv ev wv rs ss es W) (hh : hi ≤ W.heap.size) (hb : Below W.heap.size W W') : ∃ rs, rs.map Nst.m = ws ∧ MIn lo hi sv ev wv rs ss es W' := by
 obtain ⟨rs, h1, h2⟩ := h
 exact ⟨rs, h1, h2.below hh hb⟩
theorem eraFit {s : St} {x : Int} (h : fitS s) (hl : s.kept.length ≤ 200) : fitE (eraM s x) ∧ (eraM s x).length ≤ 200 := by
 unfold eraM
 split
 ·refine ⟨fun e he => h.1 e (List.mem_filter.1 he).1, ?_⟩
  have := List.length_filter_le (fun e : Ent => e.pl / 4294967296 == x) s.kept
  exact Nat.le_trans this hl
 ·exact ⟨(fun e he => by cases he), by simp⟩
def DrewM (w : World) (e : Ending) (w' : World) : Prop := ∃ (m : Mn) (q : Pm), e = .returned (.agg #[.int .i64 m.bye, .int .i64 m.epoch, .slice q.sa m.sealed.length q.sc, .slice q.ea m.seen.length q.ec, .bool m.planned, .slice q.wa m.wrote.length q.wc]) ∧ (∃ rs, rs.map Nst.m = m.wrote ∧ MIn w.heap.size w'.heap.size (.slice q.sa m.sealed.length q.sc) (.slice q.ea m.seen.length q.ec) (.slice q.wa m.wrote.length q.wc) rs m.sealed m.seen w') ∧ fitM m
def DrawQ (w : World) (bk : Nat) (e : Ending) (w' : World) : Prop := DrewM w e w' ∧ Cur w' bk ∧ Drawn bk w w'
set_option maxHeartbeats 32000000 in
theorem l9DrawRight_any (bk : Nat) (ca : Option Addr) (cc : Nat) (ds : List Int) (cop : Int) (w : World) (hc : Cur w bk) (hv : Ns w (.slice ca ds.length cc) ds) (hl : ds.length ≤ 9) (hne : ds = [] ∨ blockOf (.slice ca ds.length cc) ≠ bk) :
  Calls Try.prog 66 #[.pointer (some ⟨bk, 0, none⟩), .agg #[.slice ca ds.length cc, .int .i64 cop]] w (DrawQ w bk) := by
 have ba : ∀ (w : World) o, Below w.heap.size w (w.alloc o) := fun w o => (Below.refl _ _).alloc (Nat.le_refl _) o
 have hk := hc.lt
 have hw := hv.lt
 have b1 := ba w (.cells #[.slice ca ds.length cc, .int .i64 cop] 26)
 have b2 := ba (w.alloc (.cells #[.slice ca ds.length cc, .int .i64 cop] 26)) (.cells #[.int .i64 0, .int .i64 0, .slice none 0 0, .slice none 0 0, .bool false, .slice none 0 0] 30)
 have bb := belowThen b1 b2
 have X0 := dHide ((Bx.new w [.slice ca ds.length cc, .int .i64 cop] 26).below b2)
 have R0 := BxZ.new (B := w.heap.size) (w.alloc (.cells #[.slice ca ds.length cc, .int .i64 cop] 26)) [.int .i64 0, .int .i64 0, .slice none 0 0, .slice none 0 0, .bool false, .slice none 0 0] 30 (by simp)
 rw [show (w.alloc (.cells #[.slice ca ds.length cc, .int .i64 cop] 26)).heap.size = w.heap.size + 1 by simp] at R0
 replace R0 := dHide R0
 have C0 := hc.below bb
 have NN := dHide (hv.below bb)
 have e3 : Hid (((w.alloc (.cells #[.slice ca ds.length cc, .int .i64 cop] 26)).alloc (.cells #[.int .i64 0, .int .i64 0, .slice none 0 0, .slice none 0 0, .bool false, .slice none 0 0] 30)).heap.size = w.heap.size + 2) := by simp [Hid]
 clear hc hv b1 b2
 go_enter Try.func66, Try.ntmps66
 go_wp2_with fail
 generalize (w.alloc (.cells #[.slice ca ds.length cc, .int .i64 cop] 26)).alloc (.cells #[.int .i64 0, .int .i64 0, .slice none 0 0, .slice none 0 0, .bool false, .slice none 0 0] 30) = w0 at *
 have h3 := dUnhide e3
 refine (l1Below_any bk 2 (by omega) (by omega) _ C0).mono ?_
 rintro r w1 ⟨⟨x, hx, rfl⟩, hc1, hd1⟩
 have hs1 := hd1.size
 have hwx : IntKind.i64.wrap (1 + (x : Int)) = 1 + (x : Int) := by rw [IntKind.wrap_i64]; omega
 have CN := dHide (specNew_any (1 + (x : Int)) 4 w1)
 have hwx2 : wrap64 (1 + (x : Int)) = 1 + (x : Int) := by first | exact hwx | (unfold wrap64; omega) | skip
 go_wp2_with fail
 refine (dUnhide CN).mono ?_
 rintro r w2 ⟨rfl, b2⟩
 have hs2 := b2.size
 have ht : w.heap.size + 2 ≤ w2.heap.size := by omega
 have D0 : Hid (D9 w bk w2.heap.size ca cc ds cop (w2.alloc (.cells #[.int .i64 4, .int .i64 (1 + (x : Int)), .slice none 0 0, .slice none 0 0, .bool false, .slice none 0 0] 30)) (w2.heap.size + 1) ⟨4, 1 + (x : Int), [], [], false, []⟩ ⟨none, 0, none, 0, none, 0⟩) := by
  have b3 := ba w2 (.cells #[.int .i64 4, .int .i64 (1 + (x : Int)), .slice none 0 0, .slice none 0 0, .bool false, .slice none 0 0] 30)
  have b23 := belowThen b2 b3
  have es : (w2.alloc (.cells #[.int .i64 4, .int .i64 (1 + (x : Int)), .slice none 0 0, .slice none 0 0, .bool false, .slice none 0 0] 30)).heap.size = w2.heap.size + 1 := by simp
  exact ⟨hc1.below b23, (Drawn.of_below bb).trans (hd1.trans (Drawn.of_below b23)), ((dUnhide X0).drawn hd1 (by omega)).below b23, ((dUnhide NN).drawn hd1 hne).below b23, ((dUnhide R0).drawn hd1 (by omega)).below b23, ⟨BxZ.new (B := 0) w2 [.int .i64 4, .int .i64 (1 + (x : Int)), .slice none 0 0, .slice none 0 0, .bool false, .slice none 0 0] 30 (Nat.zero_le _), ⟨[], rfl, MIn.bare _ _ _⟩, by omega, .inl (by omega)⟩, fitM_new x (by omega)⟩
 clear X0 R0 NN C0 bb hc1 hd1 CN b2
 go_wp2_with fail
 have es : (w2.alloc (.cells #[.int .i64 4, .int .i64 (1 + (x : Int)), .slice none 0 0, .slice none 0 0, .bool false, .slice none 0 0] 30)).heap.size = w2.heap.size + 1 := by simp
 generalize w2.alloc (.cells #[.int .i64 4, .int .i64 (1 + (x : Int)), .slice none 0 0, .slice none 0 0, .bool false, .slice none 0 0] 30) = w3 at *
 generalize w2.heap.size = bt at *
 have D1 := (dUnhide D0).weak (B' := w3.heap.size) (by omega) (Nat.le_refl _)
 clear D0
 refine (l1Below_any bk 5 (by omega) (by omega) _ D1.cur).mono ?_
 rintro r w4 ⟨⟨n, hn, rfl⟩, hc4, hd4⟩
 have D2 := dHide ((D1.move hk ht hne hc4 hd4).weak (B' := w4.heap.size) hd4.size (Nat.le_refl _))
 clear D1 hc4 hd4
 go_wp2_with fail
 go_loopw [7] (fun y wr => ∃ (k : Nat) (m : Mn) (q : Pm), y = .int .i64 (k : Int) ∧ k ≤ n ∧ Hid (D9 w bk bt ca cc ds cop wr wr.heap.size m q)) (fun y _ => n - (intOf y).toNat)
 case atStart => exact ⟨0, _, _, rfl, Nat.zero_le _, D2⟩
 case round =>
  obtain ⟨k, m, q, rfl, hkn, D3⟩ := hrel
  clear D2
  have D := dUnhide D3
  have hwr := D.lt
  clear D3
  by_cases hlt : (k : Int) < (n : Int)
  ·have CP := dHide fun W (B : Nat) (h : D9 w bk bt ca cc ds cop W B m q) (z : Nat) (hz : z ≤ 9) (lv : Value) (es : List Ent) (he : RdEntryS lv es W) (hf : fitE es) (hel : es.length ≤ 200) => specSeal9_ap _ _ lv (ds, cop) m (z : Int) es W ⟨_, rfl, h.ns⟩ h.men.rd he h.fit.1.2.2.2.1 hf h.fit.siz (by simp only; omega) (by omega)
   have pD := D.cells
   have Dc := D.below (Below.refl _ _).drew
   have pDd := Dc.cells
   have hsw : wr.heap.size ≤ wr.drew.heap.size := Nat.le_refl _
   go_wp2_with fail
   go_cut [8, 9] (fun sv ov wx => ∃ (bo lo' hi' : Nat) (m' : Mn) (mb : Bool) (q' : Pm), sv = .pointer (some ⟨bo, 0, none⟩) ∧ ov = .bool mb ∧ wr.heap.size ≤ bo ∧ Hid (mb = true → bt + 1 ≤ lo' ∧ fitM m' ∧ DX wx bo lo' hi' m' q') ∧ Hid (D9 w bk bt ca cc ds cop wx wr.heap.size m q))
   case first =>
    refine wp_region_noPanic ?_
    refine wp_region_held_drew (S := fun W => (W.cell? ⟨w.heap.size, 0, none⟩ = some (.slice ca ds.length cc) ∧ W.cell? ⟨w.heap.size, 1, none⟩ = some (.int .i64 cop)) ∧ W.cell? ⟨bt, 0, none⟩ = some (.int .i64 m.bye) ∧ W.cell? ⟨bt, 1, none⟩ = some (.int .i64 m.epoch) ∧ W.cell? ⟨bt, 2, none⟩ = some (.slice q.sa m.sealed.length q.sc) ∧ W.cell? ⟨bt, 3, none⟩ = some (.slice q.ea m.seen.length q.ec) ∧ W.cell? ⟨bt, 4, none⟩ = some (.bool m.planned) ∧ W.cell? ⟨bt, 5, none⟩ = some (.slice q.wa m.wrote.length q.wc)) (by kernel_rfl) (by first | with_reducible exact Dc.cells | with_reducible exact pDd | with_reducible exact pD | go_keep) (fun hHeld => ?_)
    have hsz : wr.heap.size ≤ wr.drew.heap.size := Nat.le_refl _
    generalize wr.drew = wd at *
    refine wpAnyH_take (i := 0) (oi := ⟨some 27, .load 26 (.tmp 3), 26, "l09_mend.go:131", #[], none⟩) (v := ?_) rfl (by kernel_rfl) (by kernel_rfl) (by kernel_rfl) (fun _ _ _ h => h) (Or.inl ⟨by rfl, ?_⟩) (by assumption) ?_
    rotate_left 1
    ·intro w hSw
     (try dsimp only at hSw)
     first | (go_simp; done) | (go_simp; with_reducible rfl)
    try simp only [Act.put, sA, sB, sC]
    refine wpAnyH_take (i := 1) (oi := ⟨some 28, .load 30 (.tmp 5), 30, "l09_mend.go:131", #[], none⟩) (v := ?_) rfl (by kernel_rfl) (by kernel_rfl) (by kernel_rfl) (fun _ _ _ h => h) (Or.inl ⟨by rfl, ?_⟩) (by assumption) ?_
    rotate_left 1
    ·intro w hSw
     (try dsimp only at hSw)
     first | (go_simp; done) | (go_simp; with_reducible rfl)
    try simp only [Act.put, sA, sB, sC]
    refine wpAnyH_take (i := 2) (oi := ⟨some 29, .move (.tmp 0), 52, "l09_mend.go:131", #[], none⟩) (v := ?_) rfl (by kernel_rfl) (by kernel_rfl) (by kernel_rfl) (fun _ _ _ h => h) (Or.inl ⟨by rfl, ?_⟩) (by assumption) ?_
    rotate_left 1
    ·intro w hSw
     (try dsimp only at hSw)
     first | (go_simp; done) | (go_simp; with_reducible rfl)
    try simp only [Act.put, sA, sB, sC]
    refine wpAnyH_take (i := 3) (oi := ⟨some 30, .fieldAddr 26 (.tmp 3) 0, 0, "l09_mend.go:131", #[], none⟩) (v := ?_) rfl (by kernel_rfl) (by kernel_rfl) (by kernel_rfl) (fun _ _ _ h => h) (Or.inl ⟨by rfl, ?_⟩) (by assumption) ?_
    rotate_left 1
    ·intro w hSw
     (try dsimp only at hSw)
     first | (go_simp; done) | (go_simp; with_reducible rfl)
    try simp only [Act.put, sA, sB, sC]
    refine wpAnyH_take (i := 4) (oi := ⟨some 31, .load 24 (.tmp 30), 24, "l09_mend.go:131", #[⟨3, .data⟩], none⟩) (v := ?_) rfl (by kernel_rfl) (by kernel_rfl) (by kernel_rfl) (fun _ _ _ h => h) (Or.inl ⟨by rfl, ?_⟩) (by assumption) ?_
    rotate_left 1
    ·intro w hSw
     (try dsimp only at hSw)
     first | (go_simp; done) | (go_simp; with_reducible rfl)
    try simp only [Act.put, sA, sB, sC]
    refine wpAnyH_take (i := 5) (oi := ⟨some 32, .call { callee := .builtin .len, args := #[.tmp 31], argTypes := #[24] }, 3, "l09_mend.go:131", #[⟨4, .data⟩], none⟩) (v := ?_) rfl (by kernel_rfl) (by kernel_rfl) (by kernel_rfl) (fun _ _ _ h => h) (Or.inl ⟨by rfl, ?_⟩) (by assumption) ?_
    rotate_left 1
    ·intro w hSw
     (try dsimp only at hSw)
     first | (go_simp; done) | (go_simp; with_reducible rfl)
    try simp only [Act.put, sA, sB, sC]
    refine wpAnyH_take (i := 7) (oi := ⟨some 34, .move (.tmp 0), 52, "l09_mend.go:131", #[], none⟩) (v := ?_) rfl (by kernel_rfl) (by kernel_rfl) (by kernel_rfl) (fun _ _ _ h => h) (Or.inl ⟨by rfl, ?_⟩) (by assumption) ?_
    rotate_left 1
    ·intro w hSw
     (try dsimp only at hSw)
     first | (go_simp; done) | (go_simp; with_reducible rfl)
    try simp only [Act.put, sA, sB, sC]
    refine wpAnyH_take (i := 9) (oi := ⟨some 36, .fieldAddr 30 (.tmp 5) 1, 0, "l09_mend.go:131", #[], none⟩) (v := ?_) rfl (by kernel_rfl) (by kernel_rfl) (by kernel_rfl) (fun _ _ _ h => h) (Or.inl ⟨by rfl, ?_⟩) (by assumption) ?_
    rotate_left 1
    ·intro w hSw
     (try dsimp only at hSw)
     first | (go_simp; done) | (go_simp; with_reducible rfl)
    try simp only [Act.put, sA, sB, sC]
    refine wpAnyH_take (i := 10) (oi := ⟨some 37, .load 3 (.tmp 36), 3, "l09_mend.go:131", #[⟨9, .data⟩], none⟩) (v := ?_) rfl (by kernel_rfl) (by kernel_rfl) (by kernel_rfl) (fun _ _ _ h => h) (Or.inl ⟨by rfl, ?_⟩) (by assumption) ?_
    rotate_left 1
    ·intro w hSw
     (try dsimp only at hSw)
     first | (go_simp; done) | (go_simp; with_reducible rfl)
    try simp only [Act.put, sA, sB, sC]
    refine wpAnyH_ready (rs := [6, 16]) (by kernel_rfl) (by simp) ?_
    refine AllReadyH.cons (o := ⟨some 33, .call ⟨.value (.func 39), #[.tmp 29, .tmp 32], #[52, 3]⟩, 3, "l09_mend.go:131", #[⟨2, .data⟩, ⟨5, .data⟩], none⟩) rfl (fun K hK => ?_) (AllReadyH.cons (o := ⟨some 8, .alloc 30, 0, "l09_mend.go:131", #[], none⟩) rfl (fun K hK => ?_) AllReadyH.nil)
    ·go_simp
     refine (l1Below_le bk ds.length (by omega) wd Dc.cur).mono ?_
     rintro e wd ⟨⟨z7, hz7, rfl⟩, hc7, hd7⟩
     replace Dc := Dc.move hk ht hne hc7 hd7
     try replace NZ := NZ.drawn hd7 (by omega)
     replace hsz : wr.heap.size ≤ wd.heap.size := Nat.le_trans hsz hd7.size
     clear hc7 hd7
     (try go_wp2_with fail)
     refine hK.out _ _ (by first | with_reducible exact Dc.cells | with_reducible exact pDd | with_reducible exact pD | go_keep) (fun hHeld => ?_)
     clear hK K
     try simp only [Act.put, sA, sB, sC]
     refine wpAnyH_ready (rs := [8, 16]) (by kernel_rfl) (by simp) ?_
     refine AllReadyH.cons (o := ⟨some 35, .call ⟨.value (.func 80), #[.tmp 34], #[52]⟩, 107, "l09_mend.go:131", #[⟨7, .data⟩, ⟨6, .chain⟩], none⟩) rfl (fun K hK => ?_) (AllReadyH.cons (o := ⟨some 8, .alloc 30, 0, "l09_mend.go:131", #[], none⟩) rfl (fun K hK => ?_) AllReadyH.nil)
     ·go_simp
      refine (l6DrawRight_any bk wd Dc.cur).mono ?_
      rintro e wd ⟨⟨u8, rfl, s8, O8, hf8, hl8, -⟩, hc7, hd7⟩
      replace Dc := Dc.move hk ht hne hc7 hd7
      try replace NZ := NZ.drawn hd7 (by omega)
      replace hsz : wr.heap.size ≤ wd.heap.size := Nat.le_trans hsz hd7.size
      have S8 := O8.rs
      clear O8
      clear hc7 hd7
      (try go_wp2_with fail)
      refine hK.out _ _ (by first | with_reducible exact Dc.cells | with_reducible exact pDd | with_reducible exact pD | go_keep) (fun hHeld => ?_)
      clear hK K
      try simp only [Act.put, sA, sB, sC]
      refine wpAnyH_ready (rs := [11, 16]) (by kernel_rfl) (by simp) ?_
      refine AllReadyH.cons (o := ⟨some 38, .call ⟨.value (.func 79), #[.tmp 35, .tmp 37], #[107, 3]⟩, 27, "l09_mend.go:131", #[⟨8, .data⟩, ⟨10, .data⟩, ⟨8, .chain⟩], none⟩) rfl (fun K hK => ?_) (AllReadyH.cons (o := ⟨some 8, .alloc 30, 0, "l09_mend.go:131", #[], none⟩) rfl (fun K hK => ?_) AllReadyH.nil)
      ·go_simp
       refine (specEra_any u8 s8 m.epoch wd S8 hf8).mono ?_
       rintro e wd' ⟨⟨u9, rfl, A9⟩, b9⟩
       have E8 : Rw 4 Ent.cl wd' u9 (eraM s8 m.epoch) := (ApR.own elemE A9).rw
       replace Dc := Dc.below b9
       try replace NZ := NZ.below b9
       replace hsz : wr.heap.size ≤ wd'.heap.size := Nat.le_trans hsz b9.size
       clear A9 b9 S8
       generalize wd' = wd at *
       (try go_wp2_with fail)
       refine hK.out _ _ (by first | with_reducible exact Dc.cells | with_reducible exact pDd | with_reducible exact pD | go_keep) (fun hHeld => ?_)
       clear hK K
       try simp only [Act.put, sA, sB, sC]
       refine wpAnyH_ready (rs := [12, 16]) (by kernel_rfl) (by simp) ?_
       refine AllReadyH.cons (o := ⟨some 39, .call { callee := .value (.func 78), args := #[.tmp 27, .tmp 28, .tmp 33, .tmp 38], argTypes := #[26, 30, 3, 27] }, 103, "l09_mend.go:131", #[⟨0, .data⟩, ⟨1, .data⟩, ⟨6, .data⟩, ⟨11, .data⟩, ⟨11, .chain⟩], none⟩) rfl (fun K hK => ?_) (AllReadyH.cons (o := ⟨some 8, .alloc 30, 0, "l09_mend.go:131", #[], none⟩) rfl (fun K hK => ?_) AllReadyH.nil)
       ·go_simp
        have C6 := dUnhide CP wd _ Dc z7 (by omega) u9 (eraM s8 m.epoch) E8 (eraFit hf8 hl8).1 (eraFit hf8 hl8).2
        try (have hN7 := NZ.lt)
        refine C6.mono ?_
        clear C6
        obtain ⟨lo6, el6⟩ : ∃ l, wd.heap.size = l := ⟨_, rfl⟩
        have F6 := fun h => fitM.sealed9 (ds := ds) (cop := cop) (m := m) (x := (z7 : Int)) (l := eraM s8 m.epoch) h
        intro e wd' hA6
        generalize hAM : seal9M ds cop m (z7 : Int) (eraM s8 m.epoch) = AM at *
        obtain ⟨m6, k6⟩ := AM
        clear hAM
        obtain ⟨⟨u6, rfl, O6, A6⟩, b6⟩ := hA6
        obtain ⟨q6, rfl, I6⟩ := ApM.both O6 A6
        simp only at I6 F6
        replace Dc := Dc.below b6
        try replace NZ := NZ.below b6
        rw [el6] at I6
        try rw [el6] at hN7
        have hs6 := b6.size
        have hl6 : bt + 1 ≤ lo6 := by omega
        replace hsz : wr.heap.size ≤ wd'.heap.size := by omega
        obtain ⟨hi6, eh6⟩ : ∃ l, wd'.heap.size = l := ⟨_, rfl⟩
        rw [eh6] at I6
        have hh6 : hi6 ≤ wd'.heap.size := by omega
        clear b6 O6 A6 hs6 el6 eh6
        try clear S8
        try clear E8
        try clear Z8
        generalize wd' = wd at *
        (try go_wp2_with fail)
        refine hK.out _ _ (by first | with_reducible exact Dc.cells | with_reducible exact pDd | with_reducible exact pD | go_keep) (fun hHeld => ?_)
        clear hK K
        try simp only [Act.put, sA, sB, sC]
        refine wpAnyH_take (i := 13) (oi := ⟨some 26, .move (.tmp 39), 103, "l09_mend.go:131", #[⟨12, .data⟩], none⟩) (v := ?_) rfl (by kernel_rfl) (by kernel_rfl) (by kernel_rfl) (fun _ _ _ h => h) (Or.inl ⟨by rfl, ?_⟩) (by assumption) ?_
        rotate_left 1
        ·intro w hSw
         (try dsimp only at hSw)
         first | (go_simp; done) | (go_simp; with_reducible rfl)
        try simp only [Act.put, sA, sB, sC]
        refine wpAnyH_take (i := 14) (oi := ⟨some 40, .extract (.tmp 26) 0, 30, "l09_mend.go:131", #[⟨13, .data⟩], none⟩) (v := ?_) rfl (by kernel_rfl) (by kernel_rfl) (by kernel_rfl) (fun _ _ _ h => h) (Or.inl ⟨by rfl, ?_⟩) (by assumption) ?_
        rotate_left 1
        ·intro w hSw
         (try dsimp only at hSw)
         first | (go_simp; done) | (go_simp; with_reducible rfl)
        try simp only [Act.put, sA, sB, sC]
        refine wpAnyH_take (i := 15) (oi := ⟨some 41, .extract (.tmp 26) 1, 4, "l09_mend.go:131", #[⟨13, .data⟩, { on := 17, ground := Ground.gcOnly Departure.lateStores }], none⟩) (v := ?_) rfl (by kernel_rfl) (by kernel_rfl) (by kernel_rfl) (fun _ _ _ h => h) (Or.inl ⟨by rfl, ?_⟩) (by assumption) ?_
        rotate_left 1
        ·intro w hSw
         (try dsimp only at hSw)
         first | (go_simp; done) | (go_simp; with_reducible rfl)
        try simp only [Act.put, sA, sB, sC]
        refine wpAnyH_ready (rs := [16]) (by kernel_rfl) (by simp) ?_
        refine AllReadyH.cons (o := ⟨some 8, .alloc 30, 0, "l09_mend.go:131", #[], none⟩) rfl (fun K hK => ?_) AllReadyH.nil
        go_simp
        have NZ := BxZ.new (B := 0) wd [.int .i64 0, .int .i64 0, .slice none 0 0, .slice none 0 0, .bool false, .slice none 0 0] 30 (Nat.zero_le _)
        have es7 : (wd.alloc (.cells #[.int .i64 0, .int .i64 0, .slice none 0 0, .slice none 0 0, .bool false, .slice none 0 0] 30)).heap.size = wd.heap.size + 1 := by simp
        replace Dc := Dc.below (ba wd (.cells #[.int .i64 0, .int .i64 0, .slice none 0 0, .slice none 0 0, .bool false, .slice none 0 0] 30))
        try replace S8 := S8.below (ba wd (.cells #[.int .i64 0, .int .i64 0, .slice none 0 0, .slice none 0 0, .bool false, .slice none 0 0] 30))
        try replace E8 := Rw.below E8 (ba wd (.cells #[.int .i64 0, .int .i64 0, .slice none 0 0, .slice none 0 0, .bool false, .slice none 0 0] 30))
        try replace Z8 := Z8.below (ba wd (.cells #[.int .i64 0, .int .i64 0, .slice none 0 0, .slice none 0 0, .bool false, .slice none 0 0] 30))
        try (have hap : hi6 ≤ wd.heap.size := hh6)
        try (replace I6 := fun h => ownBelow (I6 h) hh6 (ba wd (.cells #[.int .i64 0, .int .i64 0, .slice none 0 0, .slice none 0 0, .bool false, .slice none 0 0] 30)))
        try (replace hh6 : hi6 ≤ (wd.alloc (.cells #[.int .i64 0, .int .i64 0, .slice none 0 0, .slice none 0 0, .bool false, .slice none 0 0] 30)).heap.size := by omega)
        have hb7 : wr.heap.size ≤ wd.heap.size := hsz
        replace hsz : wr.heap.size ≤ (wd.alloc (.cells #[.int .i64 0, .int .i64 0, .slice none 0 0, .slice none 0 0, .bool false, .slice none 0 0] 30)).heap.size := by omega
        clear es7
        generalize wd.heap.size = b7 at *
        generalize wd.alloc (.cells #[.int .i64 0, .int .i64 0, .slice none 0 0, .slice none 0 0, .bool false, .slice none 0 0] 30) = wd at *
        refine hK.out _ _ (by first | with_reducible exact Dc.cells | with_reducible exact pDd | with_reducible exact pD | go_keep) (fun hHeld => ?_)
        clear hK K
        try simp only [Act.put, sA, sB, sC]
        refine wpAnyH_ready (rs := [17]) (by kernel_rfl) (by simp) ?_
        refine AllReadyH.cons (o := ⟨none, .store 30 (.tmp 8) (.tmp 40), 0, "l09_mend.go:131", #[⟨16, .data⟩, ⟨14, .data⟩, ⟨12, .chain⟩, ⟨0, .phase⟩, ⟨1, .phase⟩, ⟨2, .phase⟩, ⟨3, .phase⟩, ⟨4, .phase⟩, ⟨5, .phase⟩, ⟨6, .phase⟩, ⟨7, .phase⟩, ⟨8, .phase⟩, ⟨9, .phase⟩, ⟨10, .phase⟩, ⟨11, .phase⟩, ⟨12, .phase⟩, ⟨13, .phase⟩, ⟨14, .phase⟩, { on := 15, ground := Ground.textOnly Departure.lateStores }, ⟨16, .phase⟩], none⟩) rfl (fun K hK => ?_) AllReadyH.nil
        obtain ⟨⟨z0, f0⟩, ⟨z1, f1⟩, ⟨z2, f2⟩, ⟨z3, f3⟩, ⟨z4, f4⟩, ⟨z5, f5⟩⟩ : (_ ∧ _) ∧ (_ ∧ _) ∧ (_ ∧ _) ∧ (_ ∧ _) ∧ (_ ∧ _) ∧ (_ ∧ _) := ⟨NZ.2 0 _ rfl, NZ.2 1 _ rfl, NZ.2 2 _ rfl, NZ.2 3 _ rfl, NZ.2 4 _ rfl, NZ.2 5 _ rfl⟩
        go_simp
        have N8 : Hid (k6 = true → bt + 1 ≤ lo6 ∧ fitM m6 ∧ DX _ b7 lo6 hi6 m6 q6) := fun h => ⟨hl6, F6 h, DX.put (I6 h) hh6 NZ (by first | exact .inl hN7 | exact .inr hap)⟩
        replace Dc := Dc.set6 hk ht hw hb7 (by omega) (.int .i64 m6.bye) (.int .i64 m6.epoch) (.slice q6.sa m6.sealed.length q6.sc) (.slice q6.ea m6.seen.length q6.ec) (.bool m6.planned) (.slice q6.wa m6.wrote.length q6.wc)
        clear z0 f0 z1 f1 z2 f2 z3 f3 z4 f4 z5 f5 NZ I6
        refine hK.out _ _ (by first | with_reducible exact Dc.cells | with_reducible exact pDd | with_reducible exact pD | go_keep) (fun hHeld => ?_)
        clear hK K
        try simp only [Act.put, sA, sB, sC]
        refine wpAnyH_take (i := 18) (oi := ⟨some 9, .assign (.tmp 41), 4, "l09_mend.go:131", #[⟨15, .data⟩, ⟨17, .chain⟩, ⟨0, .phase⟩, ⟨1, .phase⟩, ⟨2, .phase⟩, ⟨3, .phase⟩, ⟨4, .phase⟩, ⟨5, .phase⟩, ⟨6, .phase⟩, ⟨7, .phase⟩, ⟨8, .phase⟩, ⟨9, .phase⟩, ⟨10, .phase⟩, ⟨11, .phase⟩, ⟨12, .phase⟩, ⟨13, .phase⟩, ⟨14, .phase⟩, ⟨15, .phase⟩, ⟨16, .phase⟩, ⟨17, .phase⟩], none⟩) (v := ?_) rfl (by kernel_rfl) (by kernel_rfl) (by kernel_rfl) (fun _ _ _ h => h) (Or.inl ⟨by rfl, ?_⟩) (by assumption) ?_
        rotate_left 1
        ·intro w hSw
         (try dsimp only at hSw)
         first | (go_simp; done) | (go_simp; with_reducible rfl)
        try simp only [Act.put, sA, sB, sC]
        refine wpAnyH_done (by kernel_rfl) ?_ _
        refine NoPanic.normal ?_
        go_wp2_with fail
        go_meet
        case rel => exact ⟨b7, lo6, hi6, m6, k6, q6, rfl, rfl, hb7, N8, Dc⟩
       ·go_simp
        have NZ := BxZ.new (B := 0) wd [.int .i64 0, .int .i64 0, .slice none 0 0, .slice none 0 0, .bool false, .slice none 0 0] 30 (Nat.zero_le _)
        have es7 : (wd.alloc (.cells #[.int .i64 0, .int .i64 0, .slice none 0 0, .slice none 0 0, .bool false, .slice none 0 0] 30)).heap.size = wd.heap.size + 1 := by simp
        replace Dc := Dc.below (ba wd (.cells #[.int .i64 0, .int .i64 0, .slice none 0 0, .slice none 0 0, .bool false, .slice none 0 0] 30))
        try replace S8 := S8.below (ba wd (.cells #[.int .i64 0, .int .i64 0, .slice none 0 0, .slice none 0 0, .bool false, .slice none 0 0] 30))
        try replace E8 := Rw.below E8 (ba wd (.cells #[.int .i64 0, .int .i64 0, .slice none 0 0, .slice none 0 0, .bool false, .slice none 0 0] 30))
        try replace Z8 := Z8.below (ba wd (.cells #[.int .i64 0, .int .i64 0, .slice none 0 0, .slice none 0 0, .bool false, .slice none 0 0] 30))
        try (have hap : hi6 ≤ wd.heap.size := hh6)
        try (replace I6 := fun h => ownBelow (I6 h) hh6 (ba wd (.cells #[.int .i64 0, .int .i64 0, .slice none 0 0, .slice none 0 0, .bool false, .slice none 0 0] 30)))
        try (replace hh6 : hi6 ≤ (wd.alloc (.cells #[.int .i64 0, .int .i64 0, .slice none 0 0, .slice none 0 0, .bool false, .slice none 0 0] 30)).heap.size := by omega)
        have hb7 : wr.heap.size ≤ wd.heap.size := hsz
        replace hsz : wr.heap.size ≤ (wd.alloc (.cells #[.int .i64 0, .int .i64 0, .slice none 0 0, .slice none 0 0, .bool false, .slice none 0 0] 30)).heap.size := by omega
        clear es7
        generalize wd.heap.size = b7 at *
        generalize wd.alloc (.cells #[.int .i64 0, .int .i64 0, .slice none 0 0, .slice none 0 0, .bool false, .slice none 0 0] 30) = wd at *
        refine hK.out _ _ (by first | with_reducible exact Dc.cells | with_reducible exact pDd | with_reducible exact pD | go_keep) (fun hHeld => ?_)
        clear hK K
        try simp only [Act.put, sA, sB, sC]
        refine wpAnyH_ready (rs := [12]) (by kernel_rfl) (by simp) ?_
        refine AllReadyH.cons (o := ⟨some 39, .call { callee := .value (.func 78), args := #[.tmp 27, .tmp 28, .tmp 33, .tmp 38], argTypes := #[26, 30, 3, 27] }, 103, "l09_mend.go:131", #[⟨0, .data⟩, ⟨1, .data⟩, ⟨6, .data⟩, ⟨11, .data⟩, ⟨11, .chain⟩], none⟩) rfl (fun K hK => ?_) AllReadyH.nil
        go_simp
        have C6 := dUnhide CP wd _ Dc z7 (by omega) u9 (eraM s8 m.epoch) E8 (eraFit hf8 hl8).1 (eraFit hf8 hl8).2
        try (have hN7 := NZ.lt)
        refine C6.mono ?_
        clear C6
        obtain ⟨lo6, el6⟩ : ∃ l, wd.heap.size = l := ⟨_, rfl⟩
        have F6 := fun h => fitM.sealed9 (ds := ds) (cop := cop) (m := m) (x := (z7 : Int)) (l := eraM s8 m.epoch) h
        intro e wd' hA6
        generalize hAM : seal9M ds cop m (z7 : Int) (eraM s8 m.epoch) = AM at *
        obtain ⟨m6, k6⟩ := AM
        clear hAM
        obtain ⟨⟨u6, rfl, O6, A6⟩, b6⟩ := hA6
        obtain ⟨q6, rfl, I6⟩ := ApM.both O6 A6
        simp only at I6 F6
        replace Dc := Dc.below b6
        try replace NZ := NZ.below b6
        rw [el6] at I6
        try rw [el6] at hN7
        have hs6 := b6.size
        have hl6 : bt + 1 ≤ lo6 := by omega
        replace hsz : wr.heap.size ≤ wd'.heap.size := by omega
        obtain ⟨hi6, eh6⟩ : ∃ l, wd'.heap.size = l := ⟨_, rfl⟩
        rw [eh6] at I6
        have hh6 : hi6 ≤ wd'.heap.size := by omega
        clear b6 O6 A6 hs6 el6 eh6
        try clear S8
        try clear E8
        try clear Z8
        generalize wd' = wd at *
        (try go_wp2_with fail)
        refine hK.out _ _ (by first | with_reducible exact Dc.cells | with_reducible exact pDd | with_reducible exact pD | go_keep) (fun hHeld => ?_)
        clear hK K
        try simp only [Act.put, sA, sB, sC]
        refine wpAnyH_take (i := 13) (oi := ⟨some 26, .move (.tmp 39), 103, "l09_mend.go:131", #[⟨12, .data⟩], none⟩) (v := ?_) rfl (by kernel_rfl) (by kernel_rfl) (by kernel_rfl) (fun _ _ _ h => h) (Or.inl ⟨by rfl, ?_⟩) (by assumption) ?_
        rotate_left 1
        ·intro w hSw
         (try dsimp only at hSw)
         first | (go_simp; done) | (go_simp; with_reducible rfl)
        try simp only [Act.put, sA, sB, sC]
        refine wpAnyH_take (i := 14) (oi := ⟨some 40, .extract (.tmp 26) 0, 30, "l09_mend.go:131", #[⟨13, .data⟩], none⟩) (v := ?_) rfl (by kernel_rfl) (by kernel_rfl) (by kernel_rfl) (fun _ _ _ h => h) (Or.inl ⟨by rfl, ?_⟩) (by assumption) ?_
        rotate_left 1
        ·intro w hSw
         (try dsimp only at hSw)
         first | (go_simp; done) | (go_simp; with_reducible rfl)
        try simp only [Act.put, sA, sB, sC]
        refine wpAnyH_take (i := 15) (oi := ⟨some 41, .extract (.tmp 26) 1, 4, "l09_mend.go:131", #[⟨13, .data⟩, { on := 17, ground := Ground.gcOnly Departure.lateStores }], none⟩) (v := ?_) rfl (by kernel_rfl) (by kernel_rfl) (by kernel_rfl) (fun _ _ _ h => h) (Or.inl ⟨by rfl, ?_⟩) (by assumption) ?_
        rotate_left 1
        ·intro w hSw
         (try dsimp only at hSw)
         first | (go_simp; done) | (go_simp; with_reducible rfl)
        try simp only [Act.put, sA, sB, sC]
        refine wpAnyH_ready (rs := [17]) (by kernel_rfl) (by simp) ?_
        refine AllReadyH.cons (o := ⟨none, .store 30 (.tmp 8) (.tmp 40), 0, "l09_mend.go:131", #[⟨16, .data⟩, ⟨14, .data⟩, ⟨12, .chain⟩, ⟨0, .phase⟩, ⟨1, .phase⟩, ⟨2, .phase⟩, ⟨3, .phase⟩, ⟨4, .phase⟩, ⟨5, .phase⟩, ⟨6, .phase⟩, ⟨7, .phase⟩, ⟨8, .phase⟩, ⟨9, .phase⟩, ⟨10, .phase⟩, ⟨11, .phase⟩, ⟨12, .phase⟩, ⟨13, .phase⟩, ⟨14, .phase⟩, { on := 15, ground := Ground.textOnly Departure.lateStores }, ⟨16, .phase⟩], none⟩) rfl (fun K hK => ?_) AllReadyH.nil
        obtain ⟨⟨z0, f0⟩, ⟨z1, f1⟩, ⟨z2, f2⟩, ⟨z3, f3⟩, ⟨z4, f4⟩, ⟨z5, f5⟩⟩ : (_ ∧ _) ∧ (_ ∧ _) ∧ (_ ∧ _) ∧ (_ ∧ _) ∧ (_ ∧ _) ∧ (_ ∧ _) := ⟨NZ.2 0 _ rfl, NZ.2 1 _ rfl, NZ.2 2 _ rfl, NZ.2 3 _ rfl, NZ.2 4 _ rfl, NZ.2 5 _ rfl⟩
        go_simp
        have N8 : Hid (k6 = true → bt + 1 ≤ lo6 ∧ fitM m6 ∧ DX _ b7 lo6 hi6 m6 q6) := fun h => ⟨hl6, F6 h, DX.put (I6 h) hh6 NZ (by first | exact .inl hN7 | exact .inr hap)⟩
        replace Dc := Dc.set6 hk ht hw hb7 (by omega) (.int .i64 m6.bye) (.int .i64 m6.epoch) (.slice q6.sa m6.sealed.length q6.sc) (.slice q6.ea m6.seen.length q6.ec) (.bool m6.planned) (.slice q6.wa m6.wrote.length q6.wc)
        clear z0 f0 z1 f1 z2 f2 z3 f3 z4 f4 z5 f5 NZ I6
        refine hK.out _ _ (by first | with_reducible exact Dc.cells | with_reducible exact pDd | with_reducible exact pD | go_keep) (fun hHeld => ?_)
        clear hK K
        try simp only [Act.put, sA, sB, sC]
        refine wpAnyH_take (i := 18) (oi := ⟨some 9, .assign (.tmp 41), 4, "l09_mend.go:131", #[⟨15, .data⟩, ⟨17, .chain⟩, ⟨0, .phase⟩, ⟨1, .phase⟩, ⟨2, .phase⟩, ⟨3, .phase⟩, ⟨4, .phase⟩, ⟨5, .phase⟩, ⟨6, .phase⟩, ⟨7, .phase⟩, ⟨8, .phase⟩, ⟨9, .phase⟩, ⟨10, .phase⟩, ⟨11, .phase⟩, ⟨12, .phase⟩, ⟨13, .phase⟩, ⟨14, .phase⟩, ⟨15, .phase⟩, ⟨16, .phase⟩, ⟨17, .phase⟩], none⟩) (v := ?_) rfl (by kernel_rfl) (by kernel_rfl) (by kernel_rfl) (fun _ _ _ h => h) (Or.inl ⟨by rfl, ?_⟩) (by assumption) ?_
        rotate_left 1
        ·intro w hSw
         (try dsimp only at hSw)
         first | (go_simp; done) | (go_simp; with_reducible rfl)
        try simp only [Act.put, sA, sB, sC]
        refine wpAnyH_done (by kernel_rfl) ?_ _
        refine NoPanic.normal ?_
        go_wp2_with fail
        go_meet
        case rel => exact ⟨b7, lo6, hi6, m6, k6, q6, rfl, rfl, hb7, N8, Dc⟩
      ·go_simp
       have NZ := BxZ.new (B := 0) wd [.int .i64 0, .int .i64 0, .slice none 0 0, .slice none 0 0, .bool false, .slice none 0 0] 30 (Nat.zero_le _)
       have es7 : (wd.alloc (.cells #[.int .i64 0, .int .i64 0, .slice none 0 0, .slice none 0 0, .bool false, .slice none 0 0] 30)).heap.size = wd.heap.size + 1 := by simp
       replace Dc := Dc.below (ba wd (.cells #[.int .i64 0, .int .i64 0, .slice none 0 0, .slice none 0 0, .bool false, .slice none 0 0] 30))
       try replace S8 := S8.below (ba wd (.cells #[.int .i64 0, .int .i64 0, .slice none 0 0, .slice none 0 0, .bool false, .slice none 0 0] 30))
       try replace E8 := Rw.below E8 (ba wd (.cells #[.int .i64 0, .int .i64 0, .slice none 0 0, .slice none 0 0, .bool false, .slice none 0 0] 30))
       try replace Z8 := Z8.below (ba wd (.cells #[.int .i64 0, .int .i64 0, .slice none 0 0, .slice none 0 0, .bool false, .slice none 0 0] 30))
       try (have hap : hi6 ≤ wd.heap.size := hh6)
       try (replace I6 := fun h => ownBelow (I6 h) hh6 (ba wd (.cells #[.int .i64 0, .int .i64 0, .slice none 0 0, .slice none 0 0, .bool false, .slice none 0 0] 30)))
       try (replace hh6 : hi6 ≤ (wd.alloc (.cells #[.int .i64 0, .int .i64 0, .slice none 0 0, .slice none 0 0, .bool false, .slice none 0 0] 30)).heap.size := by omega)
       have hb7 : wr.heap.size ≤ wd.heap.size := hsz
       replace hsz : wr.heap.size ≤ (wd.alloc (.cells #[.int .i64 0, .int .i64 0, .slice none 0 0, .slice none 0 0, .bool false, .slice none 0 0] 30)).heap.size := by omega
       clear es7
       generalize wd.heap.size = b7 at *
       generalize wd.alloc (.cells #[.int .i64 0, .int .i64 0, .slice none 0 0, .slice none 0 0, .bool false, .slice none 0 0] 30) = wd at *
       refine hK.out _ _ (by first | with_reducible exact Dc.cells | with_reducible exact pDd | with_reducible exact pD | go_keep) (fun hHeld => ?_)
       clear hK K
       try simp only [Act.put, sA, sB, sC]
       refine wpAnyH_ready (rs := [11]) (by kernel_rfl) (by simp) ?_
       refine AllReadyH.cons (o := ⟨some 38, .call ⟨.value (.func 79), #[.tmp 35, .tmp 37], #[107, 3]⟩, 27, "l09_mend.go:131", #[⟨8, .data⟩, ⟨10, .data⟩, ⟨8, .chain⟩], none⟩) rfl (fun K hK => ?_) AllReadyH.nil
       go_simp
       refine (specEra_any u8 s8 m.epoch wd S8 hf8).mono ?_
       rintro e wd' ⟨⟨u9, rfl, A9⟩, b9⟩
       have E8 : Rw 4 Ent.cl wd' u9 (eraM s8 m.epoch) := (ApR.own elemE A9).rw
       replace Dc := Dc.below b9
       try replace NZ := NZ.below b9
       replace hsz : wr.heap.size ≤ wd'.heap.size := Nat.le_trans hsz b9.size
       clear A9 b9 S8
       generalize wd' = wd at *
       (try go_wp2_with fail)
       refine hK.out _ _ (by first | with_reducible exact Dc.cells | with_reducible exact pDd | with_reducible exact pD | go_keep) (fun hHeld => ?_)
       clear hK K
       try simp only [Act.put, sA, sB, sC]
       refine wpAnyH_ready (rs := [12]) (by kernel_rfl) (by simp) ?_
       refine AllReadyH.cons (o := ⟨some 39, .call { callee := .value (.func 78), args := #[.tmp 27, .tmp 28, .tmp 33, .tmp 38], argTypes := #[26, 30, 3, 27] }, 103, "l09_mend.go:131", #[⟨0, .data⟩, ⟨1, .data⟩, ⟨6, .data⟩, ⟨11, .data⟩, ⟨11, .chain⟩], none⟩) rfl (fun K hK => ?_) AllReadyH.nil
       go_simp
       have C6 := dUnhide CP wd _ Dc z7 (by omega) u9 (eraM s8 m.epoch) E8 (eraFit hf8 hl8).1 (eraFit hf8 hl8).2
       try (have hN7 := NZ.lt)
       refine C6.mono ?_
       clear C6
       obtain ⟨lo6, el6⟩ : ∃ l, wd.heap.size = l := ⟨_, rfl⟩
       have F6 := fun h => fitM.sealed9 (ds := ds) (cop := cop) (m := m) (x := (z7 : Int)) (l := eraM s8 m.epoch) h
       intro e wd' hA6
       generalize hAM : seal9M ds cop m (z7 : Int) (eraM s8 m.epoch) = AM at *
       obtain ⟨m6, k6⟩ := AM
       clear hAM
       obtain ⟨⟨u6, rfl, O6, A6⟩, b6⟩ := hA6
       obtain ⟨q6, rfl, I6⟩ := ApM.both O6 A6
       simp only at I6 F6
       replace Dc := Dc.below b6
       try replace NZ := NZ.below b6
       rw [el6] at I6
       try rw [el6] at hN7
       have hs6 := b6.size
       have hl6 : bt + 1 ≤ lo6 := by omega
       replace hsz : wr.heap.size ≤ wd'.heap.size := by omega
       obtain ⟨hi6, eh6⟩ : ∃ l, wd'.heap.size = l := ⟨_, rfl⟩
       rw [eh6] at I6
       have hh6 : hi6 ≤ wd'.heap.size := by omega
       clear b6 O6 A6 hs6 el6 eh6
       try clear S8
       try clear E8
       try clear Z8
       generalize wd' = wd at *
       (try go_wp2_with fail)
       refine hK.out _ _ (by first | with_reducible exact Dc.cells | with_reducible exact pDd | with_reducible exact pD | go_keep) (fun hHeld => ?_)
       clear hK K
       try simp only [Act.put, sA, sB, sC]
       refine wpAnyH_take (i := 13) (oi := ⟨some 26, .move (.tmp 39), 103, "l09_mend.go:131", #[⟨12, .data⟩], none⟩) (v := ?_) rfl (by kernel_rfl) (by kernel_rfl) (by kernel_rfl) (fun _ _ _ h => h) (Or.inl ⟨by rfl, ?_⟩) (by assumption) ?_
       rotate_left 1
       ·intro w hSw
        (try dsimp only at hSw)
        first | (go_simp; done) | (go_simp; with_reducible rfl)
       try simp only [Act.put, sA, sB, sC]
       refine wpAnyH_take (i := 14) (oi := ⟨some 40, .extract (.tmp 26) 0, 30, "l09_mend.go:131", #[⟨13, .data⟩], none⟩) (v := ?_) rfl (by kernel_rfl) (by kernel_rfl) (by kernel_rfl) (fun _ _ _ h => h) (Or.inl ⟨by rfl, ?_⟩) (by assumption) ?_
       rotate_left 1
       ·intro w hSw
        (try dsimp only at hSw)
        first | (go_simp; done) | (go_simp; with_reducible rfl)
       try simp only [Act.put, sA, sB, sC]
       refine wpAnyH_take (i := 15) (oi := ⟨some 41, .extract (.tmp 26) 1, 4, "l09_mend.go:131", #[⟨13, .data⟩, { on := 17, ground := Ground.gcOnly Departure.lateStores }], none⟩) (v := ?_) rfl (by kernel_rfl) (by kernel_rfl) (by kernel_rfl) (fun _ _ _ h => h) (Or.inl ⟨by rfl, ?_⟩) (by assumption) ?_
       rotate_left 1
       ·intro w hSw
        (try dsimp only at hSw)
        first | (go_simp; done) | (go_simp; with_reducible rfl)
       try simp only [Act.put, sA, sB, sC]
       refine wpAnyH_ready (rs := [17]) (by kernel_rfl) (by simp) ?_
       refine AllReadyH.cons (o := ⟨none, .store 30 (.tmp 8) (.tmp 40), 0, "l09_mend.go:131", #[⟨16, .data⟩, ⟨14, .data⟩, ⟨12, .chain⟩, ⟨0, .phase⟩, ⟨1, .phase⟩, ⟨2, .phase⟩, ⟨3, .phase⟩, ⟨4, .phase⟩, ⟨5, .phase⟩, ⟨6, .phase⟩, ⟨7, .phase⟩, ⟨8, .phase⟩, ⟨9, .phase⟩, ⟨10, .phase⟩, ⟨11, .phase⟩, ⟨12, .phase⟩, ⟨13, .phase⟩, ⟨14, .phase⟩, { on := 15, ground := Ground.textOnly Departure.lateStores }, ⟨16, .phase⟩], none⟩) rfl (fun K hK => ?_) AllReadyH.nil
       obtain ⟨⟨z0, f0⟩, ⟨z1, f1⟩, ⟨z2, f2⟩, ⟨z3, f3⟩, ⟨z4, f4⟩, ⟨z5, f5⟩⟩ : (_ ∧ _) ∧ (_ ∧ _) ∧ (_ ∧ _) ∧ (_ ∧ _) ∧ (_ ∧ _) ∧ (_ ∧ _) := ⟨NZ.2 0 _ rfl, NZ.2 1 _ rfl, NZ.2 2 _ rfl, NZ.2 3 _ rfl, NZ.2 4 _ rfl, NZ.2 5 _ rfl⟩
       go_simp
       have N8 : Hid (k6 = true → bt + 1 ≤ lo6 ∧ fitM m6 ∧ DX _ b7 lo6 hi6 m6 q6) := fun h => ⟨hl6, F6 h, DX.put (I6 h) hh6 NZ (by first | exact .inl hN7 | exact .inr hap)⟩
       replace Dc := Dc.set6 hk ht hw hb7 (by omega) (.int .i64 m6.bye) (.int .i64 m6.epoch) (.slice q6.sa m6.sealed.length q6.sc) (.slice q6.ea m6.seen.length q6.ec) (.bool m6.planned) (.slice q6.wa m6.wrote.length q6.wc)
       clear z0 f0 z1 f1 z2 f2 z3 f3 z4 f4 z5 f5 NZ I6
       refine hK.out _ _ (by first | with_reducible exact Dc.cells | with_reducible exact pDd | with_reducible exact pD | go_keep) (fun hHeld => ?_)
       clear hK K
       try simp only [Act.put, sA, sB, sC]
       refine wpAnyH_take (i := 18) (oi := ⟨some 9, .assign (.tmp 41), 4, "l09_mend.go:131", #[⟨15, .data⟩, ⟨17, .chain⟩, ⟨0, .phase⟩, ⟨1, .phase⟩, ⟨2, .phase⟩, ⟨3, .phase⟩, ⟨4, .phase⟩, ⟨5, .phase⟩, ⟨6, .phase⟩, ⟨7, .phase⟩, ⟨8, .phase⟩, ⟨9, .phase⟩, ⟨10, .phase⟩, ⟨11, .phase⟩, ⟨12, .phase⟩, ⟨13, .phase⟩, ⟨14, .phase⟩, ⟨15, .phase⟩, ⟨16, .phase⟩, ⟨17, .phase⟩], none⟩) (v := ?_) rfl (by kernel_rfl) (by kernel_rfl) (by kernel_rfl) (fun _ _ _ h => h) (Or.inl ⟨by rfl, ?_⟩) (by assumption) ?_
       rotate_left 1
       ·intro w hSw
        (try dsimp only at hSw)
        first | (go_simp; done) | (go_simp; with_reducible rfl)
       try simp only [Act.put, sA, sB, sC]
       refine wpAnyH_done (by kernel_rfl) ?_ _
       refine NoPanic.normal ?_
       go_wp2_with fail
       go_meet
       case rel => exact ⟨b7, lo6, hi6, m6, k6, q6, rfl, rfl, hb7, N8, Dc⟩
     ·go_simp
      have NZ := BxZ.new (B := 0) wd [.int .i64 0, .int .i64 0, .slice none 0 0, .slice none 0 0, .bool false, .slice none 0 0] 30 (Nat.zero_le _)
      have es7 : (wd.alloc (.cells #[.int .i64 0, .int .i64 0, .slice none 0 0, .slice none 0 0, .bool false, .slice none 0 0] 30)).heap.size = wd.heap.size + 1 := by simp
      replace Dc := Dc.below (ba wd (.cells #[.int .i64 0, .int .i64 0, .slice none 0 0, .slice none 0 0, .bool false, .slice none 0 0] 30))
      try replace S8 := S8.below (ba wd (.cells #[.int .i64 0, .int .i64 0, .slice none 0 0, .slice none 0 0, .bool false, .slice none 0 0] 30))
      try replace E8 := Rw.below E8 (ba wd (.cells #[.int .i64 0, .int .i64 0, .slice none 0 0, .slice none 0 0, .bool false, .slice none 0 0] 30))
      try replace Z8 := Z8.below (ba wd (.cells #[.int .i64 0, .int .i64 0, .slice none 0 0, .slice none 0 0, .bool false, .slice none 0 0] 30))
      try (have hap : hi6 ≤ wd.heap.size := hh6)
      try (replace I6 := fun h => ownBelow (I6 h) hh6 (ba wd (.cells #[.int .i64 0, .int .i64 0, .slice none 0 0, .slice none 0 0, .bool false, .slice none 0 0] 30)))
      try (replace hh6 : hi6 ≤ (wd.alloc (.cells #[.int .i64 0, .int .i64 0, .slice none 0 0, .slice none 0 0, .bool false, .slice none 0 0] 30)).heap.size := by omega)
      have hb7 : wr.heap.size ≤ wd.heap.size := hsz
      replace hsz : wr.heap.size ≤ (wd.alloc (.cells #[.int .i64 0, .int .i64 0, .slice none 0 0, .slice none 0 0, .bool false, .slice none 0 0] 30)).heap.size := by omega
      clear es7
      generalize wd.heap.size = b7 at *
      generalize wd.alloc (.cells #[.int .i64 0, .int .i64 0, .slice none 0 0, .slice none 0 0, .bool false, .slice none 0 0] 30) = wd at *
      refine hK.out _ _ (by first | with_reducible exact Dc.cells | with_reducible exact pDd | with_reducible exact pD | go_keep) (fun hHeld => ?_)
      clear hK K
      try simp only [Act.put, sA, sB, sC]
      refine wpAnyH_ready (rs := [8]) (by kernel_rfl) (by simp) ?_
      refine AllReadyH.cons (o := ⟨some 35, .call ⟨.value (.func 80), #[.tmp 34], #[52]⟩, 107, "l09_mend.go:131", #[⟨7, .data⟩, ⟨6, .chain⟩], none⟩) rfl (fun K hK => ?_) AllReadyH.nil
      go_simp
      refine (l6DrawRight_any bk wd Dc.cur).mono ?_
      rintro e wd ⟨⟨u8, rfl, s8, O8, hf8, hl8, -⟩, hc7, hd7⟩
      replace Dc := Dc.move hk ht hne hc7 hd7
      try replace NZ := NZ.drawn hd7 (by omega)
      replace hsz : wr.heap.size ≤ wd.heap.size := Nat.le_trans hsz hd7.size
      have S8 := O8.rs
      clear O8
      clear hc7 hd7
      (try go_wp2_with fail)
      refine hK.out _ _ (by first | with_reducible exact Dc.cells | with_reducible exact pDd | with_reducible exact pD | go_keep) (fun hHeld => ?_)
      clear hK K
      try simp only [Act.put, sA, sB, sC]
      refine wpAnyH_ready (rs := [11]) (by kernel_rfl) (by simp) ?_
      refine AllReadyH.cons (o := ⟨some 38, .call ⟨.value (.func 79), #[.tmp 35, .tmp 37], #[107, 3]⟩, 27, "l09_mend.go:131", #[⟨8, .data⟩, ⟨10, .data⟩, ⟨8, .chain⟩], none⟩) rfl (fun K hK => ?_) AllReadyH.nil
      go_simp
      refine (specEra_any u8 s8 m.epoch wd S8 hf8).mono ?_
      rintro e wd' ⟨⟨u9, rfl, A9⟩, b9⟩
      have E8 : Rw 4 Ent.cl wd' u9 (eraM s8 m.epoch) := (ApR.own elemE A9).rw
      replace Dc := Dc.below b9
      try replace NZ := NZ.below b9
      replace hsz : wr.heap.size ≤ wd'.heap.size := Nat.le_trans hsz b9.size
      clear A9 b9 S8
      generalize wd' = wd at *
      (try go_wp2_with fail)
      refine hK.out _ _ (by first | with_reducible exact Dc.cells | with_reducible exact pDd | with_reducible exact pD | go_keep) (fun hHeld => ?_)
      clear hK K
      try simp only [Act.put, sA, sB, sC]
      refine wpAnyH_ready (rs := [12]) (by kernel_rfl) (by simp) ?_
      refine AllReadyH.cons (o := ⟨some 39, .call { callee := .value (.func 78), args := #[.tmp 27, .tmp 28, .tmp 33, .tmp 38], argTypes := #[26, 30, 3, 27] }, 103, "l09_mend.go:131", #[⟨0, .data⟩, ⟨1, .data⟩, ⟨6, .data⟩, ⟨11, .data⟩, ⟨11, .chain⟩], none⟩) rfl (fun K hK => ?_) AllReadyH.nil
      go_simp
      have C6 := dUnhide CP wd _ Dc z7 (by omega) u9 (eraM s8 m.epoch) E8 (eraFit hf8 hl8).1 (eraFit hf8 hl8).2
      try (have hN7 := NZ.lt)
      refine C6.mono ?_
      clear C6
      obtain ⟨lo6, el6⟩ : ∃ l, wd.heap.size = l := ⟨_, rfl⟩
      have F6 := fun h => fitM.sealed9 (ds := ds) (cop := cop) (m := m) (x := (z7 : Int)) (l := eraM s8 m.epoch) h
      intro e wd' hA6
      generalize hAM : seal9M ds cop m (z7 : Int) (eraM s8 m.epoch) = AM at *
      obtain ⟨m6, k6⟩ := AM
      clear hAM
      obtain ⟨⟨u6, rfl, O6, A6⟩, b6⟩ := hA6
      obtain ⟨q6, rfl, I6⟩ := ApM.both O6 A6
      simp only at I6 F6
      replace Dc := Dc.below b6
      try replace NZ := NZ.below b6
      rw [el6] at I6
      try rw [el6] at hN7
      have hs6 := b6.size
      have hl6 : bt + 1 ≤ lo6 := by omega
      replace hsz : wr.heap.size ≤ wd'.heap.size := by omega
      obtain ⟨hi6, eh6⟩ : ∃ l, wd'.heap.size = l := ⟨_, rfl⟩
      rw [eh6] at I6
      have hh6 : hi6 ≤ wd'.heap.size := by omega
      clear b6 O6 A6 hs6 el6 eh6
      try clear S8
      try clear E8
      try clear Z8
      generalize wd' = wd at *
      (try go_wp2_with fail)
      refine hK.out _ _ (by first | with_reducible exact Dc.cells | with_reducible exact pDd | with_reducible exact pD | go_keep) (fun hHeld => ?_)
      clear hK K
      try simp only [Act.put, sA, sB, sC]
      refine wpAnyH_take (i := 13) (oi := ⟨some 26, .move (.tmp 39), 103, "l09_mend.go:131", #[⟨12, .data⟩], none⟩) (v := ?_) rfl (by kernel_rfl) (by kernel_rfl) (by kernel_rfl) (fun _ _ _ h => h) (Or.inl ⟨by rfl, ?_⟩) (by assumption) ?_
      rotate_left 1
      ·intro w hSw
       (try dsimp only at hSw)
       first | (go_simp; done) | (go_simp; with_reducible rfl)
      try simp only [Act.put, sA, sB, sC]
      refine wpAnyH_take (i := 14) (oi := ⟨some 40, .extract (.tmp 26) 0, 30, "l09_mend.go:131", #[⟨13, .data⟩], none⟩) (v := ?_) rfl (by kernel_rfl) (by kernel_rfl) (by kernel_rfl) (fun _ _ _ h => h) (Or.inl ⟨by rfl, ?_⟩) (by assumption) ?_
      rotate_left 1
      ·intro w hSw
       (try dsimp only at hSw)
       first | (go_simp; done) | (go_simp; with_reducible rfl)
      try simp only [Act.put, sA, sB, sC]
      refine wpAnyH_take (i := 15) (oi := ⟨some 41, .extract (.tmp 26) 1, 4, "l09_mend.go:131", #[⟨13, .data⟩, { on := 17, ground := Ground.gcOnly Departure.lateStores }], none⟩) (v := ?_) rfl (by kernel_rfl) (by kernel_rfl) (by kernel_rfl) (fun _ _ _ h => h) (Or.inl ⟨by rfl, ?_⟩) (by assumption) ?_
      rotate_left 1
      ·intro w hSw
       (try dsimp only at hSw)
       first | (go_simp; done) | (go_simp; with_reducible rfl)
      try simp only [Act.put, sA, sB, sC]
      refine wpAnyH_ready (rs := [17]) (by kernel_rfl) (by simp) ?_
      refine AllReadyH.cons (o := ⟨none, .store 30 (.tmp 8) (.tmp 40), 0, "l09_mend.go:131", #[⟨16, .data⟩, ⟨14, .data⟩, ⟨12, .chain⟩, ⟨0, .phase⟩, ⟨1, .phase⟩, ⟨2, .phase⟩, ⟨3, .phase⟩, ⟨4, .phase⟩, ⟨5, .phase⟩, ⟨6, .phase⟩, ⟨7, .phase⟩, ⟨8, .phase⟩, ⟨9, .phase⟩, ⟨10, .phase⟩, ⟨11, .phase⟩, ⟨12, .phase⟩, ⟨13, .phase⟩, ⟨14, .phase⟩, { on := 15, ground := Ground.textOnly Departure.lateStores }, ⟨16, .phase⟩], none⟩) rfl (fun K hK => ?_) AllReadyH.nil
      obtain ⟨⟨z0, f0⟩, ⟨z1, f1⟩, ⟨z2, f2⟩, ⟨z3, f3⟩, ⟨z4, f4⟩, ⟨z5, f5⟩⟩ : (_ ∧ _) ∧ (_ ∧ _) ∧ (_ ∧ _) ∧ (_ ∧ _) ∧ (_ ∧ _) ∧ (_ ∧ _) := ⟨NZ.2 0 _ rfl, NZ.2 1 _ rfl, NZ.2 2 _ rfl, NZ.2 3 _ rfl, NZ.2 4 _ rfl, NZ.2 5 _ rfl⟩
      go_simp
      have N8 : Hid (k6 = true → bt + 1 ≤ lo6 ∧ fitM m6 ∧ DX _ b7 lo6 hi6 m6 q6) := fun h => ⟨hl6, F6 h, DX.put (I6 h) hh6 NZ (by first | exact .inl hN7 | exact .inr hap)⟩
      replace Dc := Dc.set6 hk ht hw hb7 (by omega) (.int .i64 m6.bye) (.int .i64 m6.epoch) (.slice q6.sa m6.sealed.length q6.sc) (.slice q6.ea m6.seen.length q6.ec) (.bool m6.planned) (.slice q6.wa m6.wrote.length q6.wc)
      clear z0 f0 z1 f1 z2 f2 z3 f3 z4 f4 z5 f5 NZ I6
      refine hK.out _ _ (by first | with_reducible exact Dc.cells | with_reducible exact pDd | with_reducible exact pD | go_keep) (fun hHeld => ?_)
      clear hK K
      try simp only [Act.put, sA, sB, sC]
      refine wpAnyH_take (i := 18) (oi := ⟨some 9, .assign (.tmp 41), 4, "l09_mend.go:131", #[⟨15, .data⟩, ⟨17, .chain⟩, ⟨0, .phase⟩, ⟨1, .phase⟩, ⟨2, .phase⟩, ⟨3, .phase⟩, ⟨4, .phase⟩, ⟨5, .phase⟩, ⟨6, .phase⟩, ⟨7, .phase⟩, ⟨8, .phase⟩, ⟨9, .phase⟩, ⟨10, .phase⟩, ⟨11, .phase⟩, ⟨12, .phase⟩, ⟨13, .phase⟩, ⟨14, .phase⟩, ⟨15, .phase⟩, ⟨16, .phase⟩, ⟨17, .phase⟩], none⟩) (v := ?_) rfl (by kernel_rfl) (by kernel_rfl) (by kernel_rfl) (fun _ _ _ h => h) (Or.inl ⟨by rfl, ?_⟩) (by assumption) ?_
      rotate_left 1
      ·intro w hSw
       (try dsimp only at hSw)
       first | (go_simp; done) | (go_simp; with_reducible rfl)
      try simp only [Act.put, sA, sB, sC]
      refine wpAnyH_done (by kernel_rfl) ?_ _
      refine NoPanic.normal ?_
      go_wp2_with fail
      go_meet
      case rel => exact ⟨b7, lo6, hi6, m6, k6, q6, rfl, rfl, hb7, N8, Dc⟩
    ·go_simp
     have NZ := BxZ.new (B := 0) wd [.int .i64 0, .int .i64 0, .slice none 0 0, .slice none 0 0, .bool false, .slice none 0 0] 30 (Nat.zero_le _)
     have es7 : (wd.alloc (.cells #[.int .i64 0, .int .i64 0, .slice none 0 0, .slice none 0 0, .bool false, .slice none 0 0] 30)).heap.size = wd.heap.size + 1 := by simp
     replace Dc := Dc.below (ba wd (.cells #[.int .i64 0, .int .i64 0, .slice none 0 0, .slice none 0 0, .bool false, .slice none 0 0] 30))
     try replace S8 := S8.below (ba wd (.cells #[.int .i64 0, .int .i64 0, .slice none 0 0, .slice none 0 0, .bool false, .slice none 0 0] 30))
     try replace E8 := Rw.below E8 (ba wd (.cells #[.int .i64 0, .int .i64 0, .slice none 0 0, .slice none 0 0, .bool false, .slice none 0 0] 30))
     try replace Z8 := Z8.below (ba wd (.cells #[.int .i64 0, .int .i64 0, .slice none 0 0, .slice none 0 0, .bool false, .slice none 0 0] 30))
     try (have hap : hi6 ≤ wd.heap.size := hh6)
     try (replace I6 := fun h => ownBelow (I6 h) hh6 (ba wd (.cells #[.int .i64 0, .int .i64 0, .slice none 0 0, .slice none 0 0, .bool false, .slice none 0 0] 30)))
     try (replace hh6 : hi6 ≤ (wd.alloc (.cells #[.int .i64 0, .int .i64 0, .slice none 0 0, .slice none 0 0, .bool false, .slice none 0 0] 30)).heap.size := by omega)
     have hb7 : wr.heap.size ≤ wd.heap.size := hsz
     replace hsz : wr.heap.size ≤ (wd.alloc (.cells #[.int .i64 0, .int .i64 0, .slice none 0 0, .slice none 0 0, .bool false, .slice none 0 0] 30)).heap.size := by omega
     clear es7
     generalize wd.heap.size = b7 at *
     generalize wd.alloc (.cells #[.int .i64 0, .int .i64 0, .slice none 0 0, .slice none 0 0, .bool false, .slice none 0 0] 30) = wd at *
     refine hK.out _ _ (by first | with_reducible exact Dc.cells | with_reducible exact pDd | with_reducible exact pD | go_keep) (fun hHeld => ?_)
     clear hK K
     try simp only [Act.put, sA, sB, sC]
     refine wpAnyH_ready (rs := [6]) (by kernel_rfl) (by simp) ?_
     refine AllReadyH.cons (o := ⟨some 33, .call ⟨.value (.func 39), #[.tmp 29, .tmp 32], #[52, 3]⟩, 3, "l09_mend.go:131", #[⟨2, .data⟩, ⟨5, .data⟩], none⟩) rfl (fun K hK => ?_) AllReadyH.nil
     go_simp
     refine (l1Below_le bk ds.length (by omega) wd Dc.cur).mono ?_
     rintro e wd ⟨⟨z7, hz7, rfl⟩, hc7, hd7⟩
     replace Dc := Dc.move hk ht hne hc7 hd7
     try replace NZ := NZ.drawn hd7 (by omega)
     replace hsz : wr.heap.size ≤ wd.heap.size := Nat.le_trans hsz hd7.size
     clear hc7 hd7
     (try go_wp2_with fail)
     refine hK.out _ _ (by first | with_reducible exact Dc.cells | with_reducible exact pDd | with_reducible exact pD | go_keep) (fun hHeld => ?_)
     clear hK K
     try simp only [Act.put, sA, sB, sC]
     refine wpAnyH_ready (rs := [8]) (by kernel_rfl) (by simp) ?_
     refine AllReadyH.cons (o := ⟨some 35, .call ⟨.value (.func 80), #[.tmp 34], #[52]⟩, 107, "l09_mend.go:131", #[⟨7, .data⟩, ⟨6, .chain⟩], none⟩) rfl (fun K hK => ?_) AllReadyH.nil
     go_simp
     refine (l6DrawRight_any bk wd Dc.cur).mono ?_
     rintro e wd ⟨⟨u8, rfl, s8, O8, hf8, hl8, -⟩, hc7, hd7⟩
     replace Dc := Dc.move hk ht hne hc7 hd7
     try replace NZ := NZ.drawn hd7 (by omega)
     replace hsz : wr.heap.size ≤ wd.heap.size := Nat.le_trans hsz hd7.size
     have S8 := O8.rs
     clear O8
     clear hc7 hd7
     (try go_wp2_with fail)
     refine hK.out _ _ (by first | with_reducible exact Dc.cells | with_reducible exact pDd | with_reducible exact pD | go_keep) (fun hHeld => ?_)
     clear hK K
     try simp only [Act.put, sA, sB, sC]
     refine wpAnyH_ready (rs := [11]) (by kernel_rfl) (by simp) ?_
     refine AllReadyH.cons (o := ⟨some 38, .call ⟨.value (.func 79), #[.tmp 35, .tmp 37], #[107, 3]⟩, 27, "l09_mend.go:131", #[⟨8, .data⟩, ⟨10, .data⟩, ⟨8, .chain⟩], none⟩) rfl (fun K hK => ?_) AllReadyH.nil
     go_simp
     refine (specEra_any u8 s8 m.epoch wd S8 hf8).mono ?_
     rintro e wd' ⟨⟨u9, rfl, A9⟩, b9⟩
     have E8 : Rw 4 Ent.cl wd' u9 (eraM s8 m.epoch) := (ApR.own elemE A9).rw
     replace Dc := Dc.below b9
     try replace NZ := NZ.below b9
     replace hsz : wr.heap.size ≤ wd'.heap.size := Nat.le_trans hsz b9.size
     clear A9 b9 S8
     generalize wd' = wd at *
     (try go_wp2_with fail)
     refine hK.out _ _ (by first | with_reducible exact Dc.cells | with_reducible exact pDd | with_reducible exact pD | go_keep) (fun hHeld => ?_)
     clear hK K
     try simp only [Act.put, sA, sB, sC]
     refine wpAnyH_ready (rs := [12]) (by kernel_rfl) (by simp) ?_
     refine AllReadyH.cons (o := ⟨some 39, .call { callee := .value (.func 78), args := #[.tmp 27, .tmp 28, .tmp 33, .tmp 38], argTypes := #[26, 30, 3, 27] }, 103, "l09_mend.go:131", #[⟨0, .data⟩, ⟨1, .data⟩, ⟨6, .data⟩, ⟨11, .data⟩, ⟨11, .chain⟩], none⟩) rfl (fun K hK => ?_) AllReadyH.nil
     go_simp
     have C6 := dUnhide CP wd _ Dc z7 (by omega) u9 (eraM s8 m.epoch) E8 (eraFit hf8 hl8).1 (eraFit hf8 hl8).2
     try (have hN7 := NZ.lt)
     refine C6.mono ?_
     clear C6
     obtain ⟨lo6, el6⟩ : ∃ l, wd.heap.size = l := ⟨_, rfl⟩
     have F6 := fun h => fitM.sealed9 (ds := ds) (cop := cop) (m := m) (x := (z7 : Int)) (l := eraM s8 m.epoch) h
     intro e wd' hA6
     generalize hAM : seal9M ds cop m (z7 : Int) (eraM s8 m.epoch) = AM at *
     obtain ⟨m6, k6⟩ := AM
     clear hAM
     obtain ⟨⟨u6, rfl, O6, A6⟩, b6⟩ := hA6
     obtain ⟨q6, rfl, I6⟩ := ApM.both O6 A6
     simp only at I6 F6
     replace Dc := Dc.below b6
     try replace NZ := NZ.below b6
     rw [el6] at I6
     try rw [el6] at hN7
     have hs6 := b6.size
     have hl6 : bt + 1 ≤ lo6 := by omega
     replace hsz : wr.heap.size ≤ wd'.heap.size := by omega
     obtain ⟨hi6, eh6⟩ : ∃ l, wd'.heap.size = l := ⟨_, rfl⟩
     rw [eh6] at I6
     have hh6 : hi6 ≤ wd'.heap.size := by omega
     clear b6 O6 A6 hs6 el6 eh6
     try clear S8
     try clear E8
     try clear Z8
     generalize wd' = wd at *
     (try go_wp2_with fail)
     refine hK.out _ _ (by first | with_reducible exact Dc.cells | with_reducible exact pDd | with_reducible exact pD | go_keep) (fun hHeld => ?_)
     clear hK K
     try simp only [Act.put, sA, sB, sC]
     refine wpAnyH_take (i := 13) (oi := ⟨some 26, .move (.tmp 39), 103, "l09_mend.go:131", #[⟨12, .data⟩], none⟩) (v := ?_) rfl (by kernel_rfl) (by kernel_rfl) (by kernel_rfl) (fun _ _ _ h => h) (Or.inl ⟨by rfl, ?_⟩) (by assumption) ?_
     rotate_left 1
     ·intro w hSw
      (try dsimp only at hSw)
      first | (go_simp; done) | (go_simp; with_reducible rfl)
     try simp only [Act.put, sA, sB, sC]
     refine wpAnyH_take (i := 14) (oi := ⟨some 40, .extract (.tmp 26) 0, 30, "l09_mend.go:131", #[⟨13, .data⟩], none⟩) (v := ?_) rfl (by kernel_rfl) (by kernel_rfl) (by kernel_rfl) (fun _ _ _ h => h) (Or.inl ⟨by rfl, ?_⟩) (by assumption) ?_
     rotate_left 1
     ·intro w hSw
      (try dsimp only at hSw)
      first | (go_simp; done) | (go_simp; with_reducible rfl)
     try simp only [Act.put, sA, sB, sC]
     refine wpAnyH_take (i := 15) (oi := ⟨some 41, .extract (.tmp 26) 1, 4, "l09_mend.go:131", #[⟨13, .data⟩, { on := 17, ground := Ground.gcOnly Departure.lateStores }], none⟩) (v := ?_) rfl (by kernel_rfl) (by kernel_rfl) (by kernel_rfl) (fun _ _ _ h => h) (Or.inl ⟨by rfl, ?_⟩) (by assumption) ?_
     rotate_left 1
     ·intro w hSw
      (try dsimp only at hSw)
      first | (go_simp; done) | (go_simp; with_reducible rfl)
     try simp only [Act.put, sA, sB, sC]
     refine wpAnyH_ready (rs := [17]) (by kernel_rfl) (by simp) ?_
     refine AllReadyH.cons (o := ⟨none, .store 30 (.tmp 8) (.tmp 40), 0, "l09_mend.go:131", #[⟨16, .data⟩, ⟨14, .data⟩, ⟨12, .chain⟩, ⟨0, .phase⟩, ⟨1, .phase⟩, ⟨2, .phase⟩, ⟨3, .phase⟩, ⟨4, .phase⟩, ⟨5, .phase⟩, ⟨6, .phase⟩, ⟨7, .phase⟩, ⟨8, .phase⟩, ⟨9, .phase⟩, ⟨10, .phase⟩, ⟨11, .phase⟩, ⟨12, .phase⟩, ⟨13, .phase⟩, ⟨14, .phase⟩, { on := 15, ground := Ground.textOnly Departure.lateStores }, ⟨16, .phase⟩], none⟩) rfl (fun K hK => ?_) AllReadyH.nil
     obtain ⟨⟨z0, f0⟩, ⟨z1, f1⟩, ⟨z2, f2⟩, ⟨z3, f3⟩, ⟨z4, f4⟩, ⟨z5, f5⟩⟩ : (_ ∧ _) ∧ (_ ∧ _) ∧ (_ ∧ _) ∧ (_ ∧ _) ∧ (_ ∧ _) ∧ (_ ∧ _) := ⟨NZ.2 0 _ rfl, NZ.2 1 _ rfl, NZ.2 2 _ rfl, NZ.2 3 _ rfl, NZ.2 4 _ rfl, NZ.2 5 _ rfl⟩
     go_simp
     have N8 : Hid (k6 = true → bt + 1 ≤ lo6 ∧ fitM m6 ∧ DX _ b7 lo6 hi6 m6 q6) := fun h => ⟨hl6, F6 h, DX.put (I6 h) hh6 NZ (by first | exact .inl hN7 | exact .inr hap)⟩
     replace Dc := Dc.set6 hk ht hw hb7 (by omega) (.int .i64 m6.bye) (.int .i64 m6.epoch) (.slice q6.sa m6.sealed.length q6.sc) (.slice q6.ea m6.seen.length q6.ec) (.bool m6.planned) (.slice q6.wa m6.wrote.length q6.wc)
     clear z0 f0 z1 f1 z2 f2 z3 f3 z4 f4 z5 f5 NZ I6
     refine hK.out _ _ (by first | with_reducible exact Dc.cells | with_reducible exact pDd | with_reducible exact pD | go_keep) (fun hHeld => ?_)
     clear hK K
     try simp only [Act.put, sA, sB, sC]
     refine wpAnyH_take (i := 18) (oi := ⟨some 9, .assign (.tmp 41), 4, "l09_mend.go:131", #[⟨15, .data⟩, ⟨17, .chain⟩, ⟨0, .phase⟩, ⟨1, .phase⟩, ⟨2, .phase⟩, ⟨3, .phase⟩, ⟨4, .phase⟩, ⟨5, .phase⟩, ⟨6, .phase⟩, ⟨7, .phase⟩, ⟨8, .phase⟩, ⟨9, .phase⟩, ⟨10, .phase⟩, ⟨11, .phase⟩, ⟨12, .phase⟩, ⟨13, .phase⟩, ⟨14, .phase⟩, ⟨15, .phase⟩, ⟨16, .phase⟩, ⟨17, .phase⟩], none⟩) (v := ?_) rfl (by kernel_rfl) (by kernel_rfl) (by kernel_rfl) (fun _ _ _ h => h) (Or.inl ⟨by rfl, ?_⟩) (by assumption) ?_
     rotate_left 1
     ·intro w hSw
      (try dsimp only at hSw)
      first | (go_simp; done) | (go_simp; with_reducible rfl)
     try simp only [Act.put, sA, sB, sC]
     refine wpAnyH_done (by kernel_rfl) ?_ _
     refine NoPanic.normal ?_
     go_wp2_with fail
     go_meet
     case rel => exact ⟨b7, lo6, hi6, m6, k6, q6, rfl, rfl, hb7, N8, Dc⟩
   case rest =>
    obtain ⟨bo, lo', hi', m', mb, q', rfl, rfl, hbo, N2, D2⟩ := hcut
    clear CP Dc pDd D pD hsw
    generalize wc = w5 at *
    cases mb with
    | false =>
     have D5 := dUnhide D2
     have HD := dHide (D5.weak (B' := w5.heap.size) (by have := D5.men.fit; omega) (Nat.le_refl _))
     clear D2 D5 N2
     go_wp2
     go_roundw
     case rel => exact ⟨k + 1, m, q, by go_num, by omega, HD⟩
     case measure => simp [intOf]; omega
    | true =>
     obtain ⟨hl5, hf5, N5⟩ := dUnhide N2 rfl
     have D5 := dUnhide D2
     clear N2 D2
     have nb := N5.box
     obtain ⟨⟨y0, -⟩, ⟨y1, -⟩, ⟨y2, -⟩, ⟨y3, -⟩, ⟨y4, -⟩, ⟨y5, -⟩⟩ : (_ ∧ _) ∧ (_ ∧ _) ∧ (_ ∧ _) ∧ (_ ∧ _) ∧ (_ ∧ _) ∧ (_ ∧ _) := ⟨nb.2 0 _ rfl, nb.2 1 _ rfl, nb.2 2 _ rfl, nb.2 3 _ rfl, nb.2 4 _ rfl, nb.2 5 _ rfl⟩
     obtain ⟨⟨z0, f0⟩, ⟨z1, f1⟩, ⟨z2, f2⟩, ⟨z3, f3⟩, ⟨z4, f4⟩, ⟨z5, f5⟩⟩ : (_ ∧ _) ∧ (_ ∧ _) ∧ (_ ∧ _) ∧ (_ ∧ _) ∧ (_ ∧ _) ∧ (_ ∧ _) := ⟨D5.men.box.2 0 _ rfl, D5.men.box.2 1 _ rfl, D5.men.box.2 2 _ rfl, D5.men.box.2 3 _ rfl, D5.men.box.2 4 _ rfl, D5.men.box.2 5 _ rfl⟩
     have HT := (D5.take hk ht hw N5 hl5 hf5)
     replace HT := dHide (HT.weak (B' := ((((((w5.setCell ⟨bt, 0, none⟩ (.int .i64 m'.bye)).setCell ⟨bt, 1, none⟩ (.int .i64 m'.epoch)).setCell ⟨bt, 2, none⟩ (.slice q'.sa m'.sealed.length q'.sc)).setCell ⟨bt, 3, none⟩ (.slice q'.ea m'.seen.length q'.ec)).setCell ⟨bt, 4, none⟩ (.bool m'.planned)).setCell ⟨bt, 5, none⟩ (.slice q'.wa m'.wrote.length q'.wc)).heap.size) (by simp) (Nat.le_refl _))
     clear D5 N5 nb
     go_wp2
     go_roundw
     case rel => exact ⟨k + 1, _, _, by go_num, by omega, HT⟩
     case measure => simp [intOf]; omega
  ·have Dw := dHide D
   have CON := l1Once_any bk 3 (by omega) (by omega) wr D.cur
   replace CON := dHide CON
   clear D
   go_wp2_with fail
   refine (dUnhide CON).mono ?_
   rintro r w5 ⟨⟨y5, rfl⟩, hc5, hd5⟩
   have hs5 := hd5.size
   have D5 := (((dUnhide Dw).move hk ht hne hc5 hd5).weak (B' := w5.heap.size) hs5 (Nat.le_refl _))
   clear Dw CON hc5 hd5
   cases y5 with
   | true =>
    obtain ⟨⟨z0, f0⟩, ⟨z1, f1⟩, ⟨z2, f2⟩, ⟨z3, f3⟩, ⟨z4, f4⟩, ⟨z5, f5⟩⟩ : (_ ∧ _) ∧ (_ ∧ _) ∧ (_ ∧ _) ∧ (_ ∧ _) ∧ (_ ∧ _) ∧ (_ ∧ _) := ⟨D5.res.2 0 _ rfl, D5.res.2 1 _ rfl, D5.res.2 2 _ rfl, D5.res.2 3 _ rfl, D5.res.2 4 _ rfl, D5.res.2 5 _ rfl⟩
    obtain ⟨-, k0, k1, k2, k3, k4, k5⟩ := D5.cells
    have ZZ := dHide ((((((D5.res.put 0 (.int .i64 m.bye)).put 1 (.int .i64 m.epoch)).put 2 (.slice q.sa m.sealed.length q.sc)).put 3 (.slice q.ea m.seen.length q.ec)).put 4 (.bool m.planned)).put 5 (.slice q.wa m.wrote.length q.wc))
    obtain ⟨rs9, e9, M9⟩ := D5.men.own
    have hbt : bt < w5.heap.size := D5.lt
    have OO := dHide ((((((M9.far (b := w.heap.size + 1) (o := 0) (.inl (by omega)) (.int .i64 m.bye)).far (b := w.heap.size + 1) (o := 1) (.inl (by omega)) (.int .i64 m.epoch)).far (b := w.heap.size + 1) (o := 2) (.inl (by omega)) (.slice q.sa m.sealed.length q.sc)).far (b := w.heap.size + 1) (o := 3) (.inl (by omega)) (.slice q.ea m.seen.length q.ec)).far (b := w.heap.size + 1) (o := 4) (.inl (by omega)) (.bool m.planned)).far (b := w.heap.size + 1) (o := 5) (.inl (by omega)) (.slice q.wa m.wrote.length q.wc))
    have CC := dHide ((((((D5.cur.setNew4 (b := w.heap.size + 1) (by omega) 0 (.int .i64 m.bye)).setNew4 (b := w.heap.size + 1) (by omega) 1 (.int .i64 m.epoch)).setNew4 (b := w.heap.size + 1) (by omega) 2 (.slice q.sa m.sealed.length q.sc)).setNew4 (b := w.heap.size + 1) (by omega) 3 (.slice q.ea m.seen.length q.ec)).setNew4 (b := w.heap.size + 1) (by omega) 4 (.bool m.planned)).setNew4 (b := w.heap.size + 1) (by omega) 5 (.slice q.wa m.wrote.length q.wc))
    have DD := dHide ((((((D5.drawn.setNew (b := w.heap.size + 1) (by omega) 0 (.int .i64 m.bye)).setNew (b := w.heap.size + 1) (by omega) 1 (.int .i64 m.epoch)).setNew (b := w.heap.size + 1) (by omega) 2 (.slice q.sa m.sealed.length q.sc)).setNew (b := w.heap.size + 1) (by omega) 3 (.slice q.ea m.seen.length q.ec)).setNew (b := w.heap.size + 1) (by omega) 4 (.bool m.planned)).setNew (b := w.heap.size + 1) (by omega) 5 (.slice q.wa m.wrote.length q.wc))
    have RR := dHide D5.fit
    have E9 := dHide e9
    have hV : w5.heap.size = ((((((w5.setCell ⟨w.heap.size + 1, 0, none⟩ (.int .i64 m.bye)).setCell ⟨w.heap.size + 1, 1, none⟩ (.int .i64 m.epoch)).setCell ⟨w.heap.size + 1, 2, none⟩ (.slice q.sa m.sealed.length q.sc)).setCell ⟨w.heap.size + 1, 3, none⟩ (.slice q.ea m.seen.length q.ec)).setCell ⟨w.heap.size + 1, 4, none⟩ (.bool m.planned)).setCell ⟨w.heap.size + 1, 5, none⟩ (.slice q.wa m.wrote.length q.wc)).heap.size := by simp
    clear D5 M9 e9
    go_wp2_with fail
    generalize ((((((w5.setCell ⟨w.heap.size + 1, 0, none⟩ (.int .i64 m.bye)).setCell ⟨w.heap.size + 1, 1, none⟩ (.int .i64 m.epoch)).setCell ⟨w.heap.size + 1, 2, none⟩ (.slice q.sa m.sealed.length q.sc)).setCell ⟨w.heap.size + 1, 3, none⟩ (.slice q.ea m.seen.length q.ec)).setCell ⟨w.heap.size + 1, 4, none⟩ (.bool m.planned)).setCell ⟨w.heap.size + 1, 5, none⟩ (.slice q.wa m.wrote.length q.wc)) = V at *
    have q0 := ((dUnhide ZZ).2 0 _ rfl).1
    have q1 := ((dUnhide ZZ).2 1 _ rfl).1
    have q2 := ((dUnhide ZZ).2 2 _ rfl).1
    have q3 := ((dUnhide ZZ).2 3 _ rfl).1
    have q4 := ((dUnhide ZZ).2 4 _ rfl).1
    have q5 := ((dUnhide ZZ).2 5 _ rfl).1
    rw [hV] at OO
    refine bodyPost_ret (v := .agg #[.int .i64 m.bye, .int .i64 m.epoch, .slice q.sa m.sealed.length q.sc, .slice q.ea m.seen.length q.ec, .bool m.planned, .slice q.wa m.wrote.length q.wc]) (by simp [results, Try.results66, go_sem, q0, q1, q2, q3, q4, q5]) rfl ⟨⟨m, q, rfl, ⟨rs9, dUnhide E9, (dUnhide OO).wide (by omega) (Nat.le_refl _)⟩, dUnhide RR⟩, dUnhide CC, dUnhide DD⟩
   | false =>
    have CL := dHide fun W (h : D9 w bk bt ca cc ds cop W w5.heap.size m q) => l9Cover_any _ ca cc ds cop m W h.ns h.men.rd hl (by have := h.fit.2.1; omega) h.fit.1.2.2.1
    have CP := dHide fun W (h : D9 w bk bt ca cc ds cop W w5.heap.size m q) (lv : Value) (zs : List Int) (hz : Ns W lv zs) (hzl : zs.length ≤ 39) => specPlan9_ap _ _ lv (ds, cop) m zs W ⟨_, rfl, h.ns⟩ h.men.rd hz h.fit.1.2.2.2.1 h.fit.siz (by simp only; omega) (by omega)
    have pD := D5.cells
    have Dc := D5.below (Below.refl _ _).drew
    have pDd := Dc.cells
    go_wp2_with fail
    go_cut [10, 11] (fun sv ov wx => ∃ (bo lo' hi' : Nat) (m' : Mn) (mb : Bool) (q' : Pm), sv = .pointer (some ⟨bo, 0, none⟩) ∧ ov = .bool mb ∧ w5.heap.size ≤ bo ∧ Hid (mb = true → bt + 1 ≤ lo' ∧ fitM m' ∧ DX wx bo lo' hi' m' q') ∧ Hid (D9 w bk bt ca cc ds cop wx w5.heap.size m q))
    case first =>
     refine wp_region_noPanic ?_
     refine wp_region_held_drew (S := fun W => (W.cell? ⟨w.heap.size, 0, none⟩ = some (.slice ca ds.length cc) ∧ W.cell? ⟨w.heap.size, 1, none⟩ = some (.int .i64 cop)) ∧ W.cell? ⟨bt, 0, none⟩ = some (.int .i64 m.bye) ∧ W.cell? ⟨bt, 1, none⟩ = some (.int .i64 m.epoch) ∧ W.cell? ⟨bt, 2, none⟩ = some (.slice q.sa m.sealed.length q.sc) ∧ W.cell? ⟨bt, 3, none⟩ = some (.slice q.ea m.seen.length q.ec) ∧ W.cell? ⟨bt, 4, none⟩ = some (.bool m.planned) ∧ W.cell? ⟨bt, 5, none⟩ = some (.slice q.wa m.wrote.length q.wc)) (by kernel_rfl) (by first | with_reducible exact Dc.cells | with_reducible exact pDd | with_reducible exact pD | go_keep) (fun hHeld => ?_)
     have hsz : w5.heap.size ≤ w5.drew.heap.size := Nat.le_refl _
     generalize w5.drew = wd at *
     refine wpAnyH_take (i := 0) (oi := ⟨some 48, .load 26 (.tmp 3), 26, "l09_mend.go:139", #[], none⟩) (v := ?_) rfl (by kernel_rfl) (by kernel_rfl) (by kernel_rfl) (fun _ _ _ h => h) (Or.inl ⟨by rfl, ?_⟩) (by assumption) ?_
     rotate_left 1
     ·intro w hSw
      (try dsimp only at hSw)
      first | (go_simp; done) | (go_simp; with_reducible rfl)
     try simp only [Act.put, sA, sB, sC]
     refine wpAnyH_take (i := 1) (oi := ⟨some 49, .load 30 (.tmp 5), 30, "l09_mend.go:139", #[], none⟩) (v := ?_) rfl (by kernel_rfl) (by kernel_rfl) (by kernel_rfl) (fun _ _ _ h => h) (Or.inl ⟨by rfl, ?_⟩) (by assumption) ?_
     rotate_left 1
     ·intro w hSw
      (try dsimp only at hSw)
      first | (go_simp; done) | (go_simp; with_reducible rfl)
     try simp only [Act.put, sA, sB, sC]
     refine wpAnyH_take (i := 2) (oi := ⟨some 50, .load 26 (.tmp 3), 26, "l09_mend.go:139", #[], none⟩) (v := ?_) rfl (by kernel_rfl) (by kernel_rfl) (by kernel_rfl) (fun _ _ _ h => h) (Or.inl ⟨by rfl, ?_⟩) (by assumption) ?_
     rotate_left 1
     ·intro w hSw
      (try dsimp only at hSw)
      first | (go_simp; done) | (go_simp; with_reducible rfl)
     try simp only [Act.put, sA, sB, sC]
     refine wpAnyH_take (i := 3) (oi := ⟨some 51, .load 30 (.tmp 5), 30, "l09_mend.go:139", #[], none⟩) (v := ?_) rfl (by kernel_rfl) (by kernel_rfl) (by kernel_rfl) (fun _ _ _ h => h) (Or.inl ⟨by rfl, ?_⟩) (by assumption) ?_
     rotate_left 1
     ·intro w hSw
      (try dsimp only at hSw)
      first | (go_simp; done) | (go_simp; with_reducible rfl)
     try simp only [Act.put, sA, sB, sC]
     refine wpAnyH_ready (rs := [4, 9]) (by kernel_rfl) (by simp) ?_
     refine AllReadyH.cons (o := ⟨some 52, .call ⟨.value (.func 82), #[.tmp 50, .tmp 51], #[26, 30]⟩, 24, "l09_mend.go:139", #[⟨2, .data⟩, ⟨3, .data⟩], none⟩) rfl (fun K hK => ?_) (AllReadyH.cons (o := ⟨some 10, .alloc 30, 0, "l09_mend.go:139", #[], none⟩) rfl (fun K hK => ?_) AllReadyH.nil)
     ·go_simp
      refine (dUnhide CL wd Dc).mono ?_
      rintro e wd' ⟨⟨u9, zs9, rfl, O9, hz9, -⟩, b9⟩
      have Z8 := O9.bs
      replace Dc := Dc.below b9
      try replace NZ := NZ.below b9
      replace hsz : w5.heap.size ≤ wd'.heap.size := Nat.le_trans hsz b9.size
      clear O9 b9
      generalize wd' = wd at *
      (try go_wp2_with fail)
      refine hK.out _ _ (by first | with_reducible exact Dc.cells | with_reducible exact pDd | with_reducible exact pD | go_keep) (fun hHeld => ?_)
      clear hK K
      try simp only [Act.put, sA, sB, sC]
      refine wpAnyH_ready (rs := [5, 9]) (by kernel_rfl) (by simp) ?_
      refine AllReadyH.cons (o := ⟨some 53, .call { callee := .value (.func 81), args := #[.tmp 48, .tmp 49, .tmp 52], argTypes := #[26, 30, 24] }, 103, "l09_mend.go:139", #[⟨0, .data⟩, ⟨1, .data⟩, ⟨4, .data⟩, ⟨4, .chain⟩], none⟩) rfl (fun K hK => ?_) (AllReadyH.cons (o := ⟨some 10, .alloc 30, 0, "l09_mend.go:139", #[], none⟩) rfl (fun K hK => ?_) AllReadyH.nil)
      ·go_simp
       have C6 := dUnhide CP wd Dc u9 zs9 Z8 hz9
       try (have hN7 := NZ.lt)
       refine C6.mono ?_
       clear C6
       obtain ⟨lo6, el6⟩ : ∃ l, wd.heap.size = l := ⟨_, rfl⟩
       have F6 := fun h => fitM.planned9 (ds := ds) (cop := cop) (m := m) (l := zs9) h
       intro e wd' hA6
       generalize hAM : plan9M ds cop m zs9 = AM at *
       obtain ⟨m6, k6⟩ := AM
       clear hAM
       obtain ⟨⟨u6, rfl, O6, A6⟩, b6⟩ := hA6
       obtain ⟨q6, rfl, I6⟩ := ApM.both O6 A6
       simp only at I6 F6
       replace Dc := Dc.below b6
       try replace NZ := NZ.below b6
       rw [el6] at I6
       try rw [el6] at hN7
       have hs6 := b6.size
       have hl6 : bt + 1 ≤ lo6 := by omega
       replace hsz : w5.heap.size ≤ wd'.heap.size := by omega
       obtain ⟨hi6, eh6⟩ : ∃ l, wd'.heap.size = l := ⟨_, rfl⟩
       rw [eh6] at I6
       have hh6 : hi6 ≤ wd'.heap.size := by omega
       clear b6 O6 A6 hs6 el6 eh6
       try clear S8
       try clear E8
       try clear Z8
       generalize wd' = wd at *
       (try go_wp2_with fail)
       refine hK.out _ _ (by first | with_reducible exact Dc.cells | with_reducible exact pDd | with_reducible exact pD | go_keep) (fun hHeld => ?_)
       clear hK K
       try simp only [Act.put, sA, sB, sC]
       refine wpAnyH_take (i := 6) (oi := ⟨some 47, .move (.tmp 53), 103, "l09_mend.go:139", #[⟨5, .data⟩], none⟩) (v := ?_) rfl (by kernel_rfl) (by kernel_rfl) (by kernel_rfl) (fun _ _ _ h => h) (Or.inl ⟨by rfl, ?_⟩) (by assumption) ?_
       rotate_left 1
       ·intro w hSw
        (try dsimp only at hSw)
        first | (go_simp; done) | (go_simp; with_reducible rfl)
       try simp only [Act.put, sA, sB, sC]
       refine wpAnyH_take (i := 7) (oi := ⟨some 54, .extract (.tmp 47) 0, 30, "l09_mend.go:139", #[⟨6, .data⟩], none⟩) (v := ?_) rfl (by kernel_rfl) (by kernel_rfl) (by kernel_rfl) (fun _ _ _ h => h) (Or.inl ⟨by rfl, ?_⟩) (by assumption) ?_
       rotate_left 1
       ·intro w hSw
        (try dsimp only at hSw)
        first | (go_simp; done) | (go_simp; with_reducible rfl)
       try simp only [Act.put, sA, sB, sC]
       refine wpAnyH_take (i := 8) (oi := ⟨some 55, .extract (.tmp 47) 1, 4, "l09_mend.go:139", #[⟨6, .data⟩, { on := 10, ground := Ground.gcOnly Departure.lateStores }], none⟩) (v := ?_) rfl (by kernel_rfl) (by kernel_rfl) (by kernel_rfl) (fun _ _ _ h => h) (Or.inl ⟨by rfl, ?_⟩) (by assumption) ?_
       rotate_left 1
       ·intro w hSw
        (try dsimp only at hSw)
        first | (go_simp; done) | (go_simp; with_reducible rfl)
       try simp only [Act.put, sA, sB, sC]
       refine wpAnyH_ready (rs := [9]) (by kernel_rfl) (by simp) ?_
       refine AllReadyH.cons (o := ⟨some 10, .alloc 30, 0, "l09_mend.go:139", #[], none⟩) rfl (fun K hK => ?_) AllReadyH.nil
       go_simp
       have NZ := BxZ.new (B := 0) wd [.int .i64 0, .int .i64 0, .slice none 0 0, .slice none 0 0, .bool false, .slice none 0 0] 30 (Nat.zero_le _)
       have es7 : (wd.alloc (.cells #[.int .i64 0, .int .i64 0, .slice none 0 0, .slice none 0 0, .bool false, .slice none 0 0] 30)).heap.size = wd.heap.size + 1 := by simp
       replace Dc := Dc.below (ba wd (.cells #[.int .i64 0, .int .i64 0, .slice none 0 0, .slice none 0 0, .bool false, .slice none 0 0] 30))
       try replace S8 := S8.below (ba wd (.cells #[.int .i64 0, .int .i64 0, .slice none 0 0, .slice none 0 0, .bool false, .slice none 0 0] 30))
       try replace E8 := Rw.below E8 (ba wd (.cells #[.int .i64 0, .int .i64 0, .slice none 0 0, .slice none 0 0, .bool false, .slice none 0 0] 30))
       try replace Z8 := Z8.below (ba wd (.cells #[.int .i64 0, .int .i64 0, .slice none 0 0, .slice none 0 0, .bool false, .slice none 0 0] 30))
       try (have hap : hi6 ≤ wd.heap.size := hh6)
       try (replace I6 := fun h => ownBelow (I6 h) hh6 (ba wd (.cells #[.int .i64 0, .int .i64 0, .slice none 0 0, .slice none 0 0, .bool false, .slice none 0 0] 30)))
       try (replace hh6 : hi6 ≤ (wd.alloc (.cells #[.int .i64 0, .int .i64 0, .slice none 0 0, .slice none 0 0, .bool false, .slice none 0 0] 30)).heap.size := by omega)
       have hb7 : w5.heap.size ≤ wd.heap.size := hsz
       replace hsz : w5.heap.size ≤ (wd.alloc (.cells #[.int .i64 0, .int .i64 0, .slice none 0 0, .slice none 0 0, .bool false, .slice none 0 0] 30)).heap.size := by omega
       clear es7
       generalize wd.heap.size = b7 at *
       generalize wd.alloc (.cells #[.int .i64 0, .int .i64 0, .slice none 0 0, .slice none 0 0, .bool false, .slice none 0 0] 30) = wd at *
       refine hK.out _ _ (by first | with_reducible exact Dc.cells | with_reducible exact pDd | with_reducible exact pD | go_keep) (fun hHeld => ?_)
       clear hK K
       try simp only [Act.put, sA, sB, sC]
       refine wpAnyH_ready (rs := [10]) (by kernel_rfl) (by simp) ?_
       refine AllReadyH.cons (o := ⟨none, .store 30 (.tmp 10) (.tmp 54), 0, "l09_mend.go:139", #[⟨9, .data⟩, ⟨7, .data⟩, ⟨5, .chain⟩, ⟨0, .phase⟩, ⟨1, .phase⟩, ⟨2, .phase⟩, ⟨3, .phase⟩, ⟨4, .phase⟩, ⟨5, .phase⟩, ⟨6, .phase⟩, ⟨7, .phase⟩, { on := 8, ground := Ground.textOnly Departure.lateStores }, ⟨9, .phase⟩], none⟩) rfl (fun K hK => ?_) AllReadyH.nil
       obtain ⟨⟨z0, f0⟩, ⟨z1, f1⟩, ⟨z2, f2⟩, ⟨z3, f3⟩, ⟨z4, f4⟩, ⟨z5, f5⟩⟩ : (_ ∧ _) ∧ (_ ∧ _) ∧ (_ ∧ _) ∧ (_ ∧ _) ∧ (_ ∧ _) ∧ (_ ∧ _) := ⟨NZ.2 0 _ rfl, NZ.2 1 _ rfl, NZ.2 2 _ rfl, NZ.2 3 _ rfl, NZ.2 4 _ rfl, NZ.2 5 _ rfl⟩
       go_simp
       have N8 : Hid (k6 = true → bt + 1 ≤ lo6 ∧ fitM m6 ∧ DX _ b7 lo6 hi6 m6 q6) := fun h => ⟨hl6, F6 h, DX.put (I6 h) hh6 NZ (by first | exact .inl hN7 | exact .inr hap)⟩
       replace Dc := Dc.set6 hk ht hw hb7 (by omega) (.int .i64 m6.bye) (.int .i64 m6.epoch) (.slice q6.sa m6.sealed.length q6.sc) (.slice q6.ea m6.seen.length q6.ec) (.bool m6.planned) (.slice q6.wa m6.wrote.length q6.wc)
       clear z0 f0 z1 f1 z2 f2 z3 f3 z4 f4 z5 f5 NZ I6
       refine hK.out _ _ (by first | with_reducible exact Dc.cells | with_reducible exact pDd | with_reducible exact pD | go_keep) (fun hHeld => ?_)
       clear hK K
       try simp only [Act.put, sA, sB, sC]
       refine wpAnyH_take (i := 11) (oi := ⟨some 11, .assign (.tmp 55), 4, "l09_mend.go:139", #[⟨8, .data⟩, ⟨10, .chain⟩, ⟨0, .phase⟩, ⟨1, .phase⟩, ⟨2, .phase⟩, ⟨3, .phase⟩, ⟨4, .phase⟩, ⟨5, .phase⟩, ⟨6, .phase⟩, ⟨7, .phase⟩, ⟨8, .phase⟩, ⟨9, .phase⟩, ⟨10, .phase⟩], none⟩) (v := ?_) rfl (by kernel_rfl) (by kernel_rfl) (by kernel_rfl) (fun _ _ _ h => h) (Or.inl ⟨by rfl, ?_⟩) (by assumption) ?_
       rotate_left 1
       ·intro w hSw
        (try dsimp only at hSw)
        first | (go_simp; done) | (go_simp; with_reducible rfl)
       try simp only [Act.put, sA, sB, sC]
       refine wpAnyH_done (by kernel_rfl) ?_ _
       refine NoPanic.normal ?_
       go_wp2_with fail
       go_meet
       case rel => exact ⟨b7, lo6, hi6, m6, k6, q6, rfl, rfl, hb7, N8, Dc⟩
      ·go_simp
       have NZ := BxZ.new (B := 0) wd [.int .i64 0, .int .i64 0, .slice none 0 0, .slice none 0 0, .bool false, .slice none 0 0] 30 (Nat.zero_le _)
       have es7 : (wd.alloc (.cells #[.int .i64 0, .int .i64 0, .slice none 0 0, .slice none 0 0, .bool false, .slice none 0 0] 30)).heap.size = wd.heap.size + 1 := by simp
       replace Dc := Dc.below (ba wd (.cells #[.int .i64 0, .int .i64 0, .slice none 0 0, .slice none 0 0, .bool false, .slice none 0 0] 30))
       try replace S8 := S8.below (ba wd (.cells #[.int .i64 0, .int .i64 0, .slice none 0 0, .slice none 0 0, .bool false, .slice none 0 0] 30))
       try replace E8 := Rw.below E8 (ba wd (.cells #[.int .i64 0, .int .i64 0, .slice none 0 0, .slice none 0 0, .bool false, .slice none 0 0] 30))
       try replace Z8 := Z8.below (ba wd (.cells #[.int .i64 0, .int .i64 0, .slice none 0 0, .slice none 0 0, .bool false, .slice none 0 0] 30))
       try (have hap : hi6 ≤ wd.heap.size := hh6)
       try (replace I6 := fun h => ownBelow (I6 h) hh6 (ba wd (.cells #[.int .i64 0, .int .i64 0, .slice none 0 0, .slice none 0 0, .bool false, .slice none 0 0] 30)))
       try (replace hh6 : hi6 ≤ (wd.alloc (.cells #[.int .i64 0, .int .i64 0, .slice none 0 0, .slice none 0 0, .bool false, .slice none 0 0] 30)).heap.size := by omega)
       have hb7 : w5.heap.size ≤ wd.heap.size := hsz
       replace hsz : w5.heap.size ≤ (wd.alloc (.cells #[.int .i64 0, .int .i64 0, .slice none 0 0, .slice none 0 0, .bool false, .slice none 0 0] 30)).heap.size := by omega
       clear es7
       generalize wd.heap.size = b7 at *
       generalize wd.alloc (.cells #[.int .i64 0, .int .i64 0, .slice none 0 0, .slice none 0 0, .bool false, .slice none 0 0] 30) = wd at *
       refine hK.out _ _ (by first | with_reducible exact Dc.cells | with_reducible exact pDd | with_reducible exact pD | go_keep) (fun hHeld => ?_)
       clear hK K
       try simp only [Act.put, sA, sB, sC]
       refine wpAnyH_ready (rs := [5]) (by kernel_rfl) (by simp) ?_
       refine AllReadyH.cons (o := ⟨some 53, .call { callee := .value (.func 81), args := #[.tmp 48, .tmp 49, .tmp 52], argTypes := #[26, 30, 24] }, 103, "l09_mend.go:139", #[⟨0, .data⟩, ⟨1, .data⟩, ⟨4, .data⟩, ⟨4, .chain⟩], none⟩) rfl (fun K hK => ?_) AllReadyH.nil
       go_simp
       have C6 := dUnhide CP wd Dc u9 zs9 Z8 hz9
       try (have hN7 := NZ.lt)
       refine C6.mono ?_
       clear C6
       obtain ⟨lo6, el6⟩ : ∃ l, wd.heap.size = l := ⟨_, rfl⟩
       have F6 := fun h => fitM.planned9 (ds := ds) (cop := cop) (m := m) (l := zs9) h
       intro e wd' hA6
       generalize hAM : plan9M ds cop m zs9 = AM at *
       obtain ⟨m6, k6⟩ := AM
       clear hAM
       obtain ⟨⟨u6, rfl, O6, A6⟩, b6⟩ := hA6
       obtain ⟨q6, rfl, I6⟩ := ApM.both O6 A6
       simp only at I6 F6
       replace Dc := Dc.below b6
       try replace NZ := NZ.below b6
       rw [el6] at I6
       try rw [el6] at hN7
       have hs6 := b6.size
       have hl6 : bt + 1 ≤ lo6 := by omega
       replace hsz : w5.heap.size ≤ wd'.heap.size := by omega
       obtain ⟨hi6, eh6⟩ : ∃ l, wd'.heap.size = l := ⟨_, rfl⟩
       rw [eh6] at I6
       have hh6 : hi6 ≤ wd'.heap.size := by omega
       clear b6 O6 A6 hs6 el6 eh6
       try clear S8
       try clear E8
       try clear Z8
       generalize wd' = wd at *
       (try go_wp2_with fail)
       refine hK.out _ _ (by first | with_reducible exact Dc.cells | with_reducible exact pDd | with_reducible exact pD | go_keep) (fun hHeld => ?_)
       clear hK K
       try simp only [Act.put, sA, sB, sC]
       refine wpAnyH_take (i := 6) (oi := ⟨some 47, .move (.tmp 53), 103, "l09_mend.go:139", #[⟨5, .data⟩], none⟩) (v := ?_) rfl (by kernel_rfl) (by kernel_rfl) (by kernel_rfl) (fun _ _ _ h => h) (Or.inl ⟨by rfl, ?_⟩) (by assumption) ?_
       rotate_left 1
       ·intro w hSw
        (try dsimp only at hSw)
        first | (go_simp; done) | (go_simp; with_reducible rfl)
       try simp only [Act.put, sA, sB, sC]
       refine wpAnyH_take (i := 7) (oi := ⟨some 54, .extract (.tmp 47) 0, 30, "l09_mend.go:139", #[⟨6, .data⟩], none⟩) (v := ?_) rfl (by kernel_rfl) (by kernel_rfl) (by kernel_rfl) (fun _ _ _ h => h) (Or.inl ⟨by rfl, ?_⟩) (by assumption) ?_
       rotate_left 1
       ·intro w hSw
        (try dsimp only at hSw)
        first | (go_simp; done) | (go_simp; with_reducible rfl)
       try simp only [Act.put, sA, sB, sC]
       refine wpAnyH_take (i := 8) (oi := ⟨some 55, .extract (.tmp 47) 1, 4, "l09_mend.go:139", #[⟨6, .data⟩, { on := 10, ground := Ground.gcOnly Departure.lateStores }], none⟩) (v := ?_) rfl (by kernel_rfl) (by kernel_rfl) (by kernel_rfl) (fun _ _ _ h => h) (Or.inl ⟨by rfl, ?_⟩) (by assumption) ?_
       rotate_left 1
       ·intro w hSw
        (try dsimp only at hSw)
        first | (go_simp; done) | (go_simp; with_reducible rfl)
       try simp only [Act.put, sA, sB, sC]
       refine wpAnyH_ready (rs := [10]) (by kernel_rfl) (by simp) ?_
       refine AllReadyH.cons (o := ⟨none, .store 30 (.tmp 10) (.tmp 54), 0, "l09_mend.go:139", #[⟨9, .data⟩, ⟨7, .data⟩, ⟨5, .chain⟩, ⟨0, .phase⟩, ⟨1, .phase⟩, ⟨2, .phase⟩, ⟨3, .phase⟩, ⟨4, .phase⟩, ⟨5, .phase⟩, ⟨6, .phase⟩, ⟨7, .phase⟩, { on := 8, ground := Ground.textOnly Departure.lateStores }, ⟨9, .phase⟩], none⟩) rfl (fun K hK => ?_) AllReadyH.nil
       obtain ⟨⟨z0, f0⟩, ⟨z1, f1⟩, ⟨z2, f2⟩, ⟨z3, f3⟩, ⟨z4, f4⟩, ⟨z5, f5⟩⟩ : (_ ∧ _) ∧ (_ ∧ _) ∧ (_ ∧ _) ∧ (_ ∧ _) ∧ (_ ∧ _) ∧ (_ ∧ _) := ⟨NZ.2 0 _ rfl, NZ.2 1 _ rfl, NZ.2 2 _ rfl, NZ.2 3 _ rfl, NZ.2 4 _ rfl, NZ.2 5 _ rfl⟩
       go_simp
       have N8 : Hid (k6 = true → bt + 1 ≤ lo6 ∧ fitM m6 ∧ DX _ b7 lo6 hi6 m6 q6) := fun h => ⟨hl6, F6 h, DX.put (I6 h) hh6 NZ (by first | exact .inl hN7 | exact .inr hap)⟩
       replace Dc := Dc.set6 hk ht hw hb7 (by omega) (.int .i64 m6.bye) (.int .i64 m6.epoch) (.slice q6.sa m6.sealed.length q6.sc) (.slice q6.ea m6.seen.length q6.ec) (.bool m6.planned) (.slice q6.wa m6.wrote.length q6.wc)
       clear z0 f0 z1 f1 z2 f2 z3 f3 z4 f4 z5 f5 NZ I6
       refine hK.out _ _ (by first | with_reducible exact Dc.cells | with_reducible exact pDd | with_reducible exact pD | go_keep) (fun hHeld => ?_)
       clear hK K
       try simp only [Act.put, sA, sB, sC]
       refine wpAnyH_take (i := 11) (oi := ⟨some 11, .assign (.tmp 55), 4, "l09_mend.go:139", #[⟨8, .data⟩, ⟨10, .chain⟩, ⟨0, .phase⟩, ⟨1, .phase⟩, ⟨2, .phase⟩, ⟨3, .phase⟩, ⟨4, .phase⟩, ⟨5, .phase⟩, ⟨6, .phase⟩, ⟨7, .phase⟩, ⟨8, .phase⟩, ⟨9, .phase⟩, ⟨10, .phase⟩], none⟩) (v := ?_) rfl (by kernel_rfl) (by kernel_rfl) (by kernel_rfl) (fun _ _ _ h => h) (Or.inl ⟨by rfl, ?_⟩) (by assumption) ?_
       rotate_left 1
       ·intro w hSw
        (try dsimp only at hSw)
        first | (go_simp; done) | (go_simp; with_reducible rfl)
       try simp only [Act.put, sA, sB, sC]
       refine wpAnyH_done (by kernel_rfl) ?_ _
       refine NoPanic.normal ?_
       go_wp2_with fail
       go_meet
       case rel => exact ⟨b7, lo6, hi6, m6, k6, q6, rfl, rfl, hb7, N8, Dc⟩
     ·go_simp
      have NZ := BxZ.new (B := 0) wd [.int .i64 0, .int .i64 0, .slice none 0 0, .slice none 0 0, .bool false, .slice none 0 0] 30 (Nat.zero_le _)
      have es7 : (wd.alloc (.cells #[.int .i64 0, .int .i64 0, .slice none 0 0, .slice none 0 0, .bool false, .slice none 0 0] 30)).heap.size = wd.heap.size + 1 := by simp
      replace Dc := Dc.below (ba wd (.cells #[.int .i64 0, .int .i64 0, .slice none 0 0, .slice none 0 0, .bool false, .slice none 0 0] 30))
      try replace S8 := S8.below (ba wd (.cells #[.int .i64 0, .int .i64 0, .slice none 0 0, .slice none 0 0, .bool false, .slice none 0 0] 30))
      try replace E8 := Rw.below E8 (ba wd (.cells #[.int .i64 0, .int .i64 0, .slice none 0 0, .slice none 0 0, .bool false, .slice none 0 0] 30))
      try replace Z8 := Z8.below (ba wd (.cells #[.int .i64 0, .int .i64 0, .slice none 0 0, .slice none 0 0, .bool false, .slice none 0 0] 30))
      try (have hap : hi6 ≤ wd.heap.size := hh6)
      try (replace I6 := fun h => ownBelow (I6 h) hh6 (ba wd (.cells #[.int .i64 0, .int .i64 0, .slice none 0 0, .slice none 0 0, .bool false, .slice none 0 0] 30)))
      try (replace hh6 : hi6 ≤ (wd.alloc (.cells #[.int .i64 0, .int .i64 0, .slice none 0 0, .slice none 0 0, .bool false, .slice none 0 0] 30)).heap.size := by omega)
      have hb7 : w5.heap.size ≤ wd.heap.size := hsz
      replace hsz : w5.heap.size ≤ (wd.alloc (.cells #[.int .i64 0, .int .i64 0, .slice none 0 0, .slice none 0 0, .bool false, .slice none 0 0] 30)).heap.size := by omega
      clear es7
      generalize wd.heap.size = b7 at *
      generalize wd.alloc (.cells #[.int .i64 0, .int .i64 0, .slice none 0 0, .slice none 0 0, .bool false, .slice none 0 0] 30) = wd at *
      refine hK.out _ _ (by first | with_reducible exact Dc.cells | with_reducible exact pDd | with_reducible exact pD | go_keep) (fun hHeld => ?_)
      clear hK K
      try simp only [Act.put, sA, sB, sC]
      refine wpAnyH_ready (rs := [4]) (by kernel_rfl) (by simp) ?_
      refine AllReadyH.cons (o := ⟨some 52, .call ⟨.value (.func 82), #[.tmp 50, .tmp 51], #[26, 30]⟩, 24, "l09_mend.go:139", #[⟨2, .data⟩, ⟨3, .data⟩], none⟩) rfl (fun K hK => ?_) AllReadyH.nil
      go_simp
      refine (dUnhide CL wd Dc).mono ?_
      rintro e wd' ⟨⟨u9, zs9, rfl, O9, hz9, -⟩, b9⟩
      have Z8 := O9.bs
      replace Dc := Dc.below b9
      try replace NZ := NZ.below b9
      replace hsz : w5.heap.size ≤ wd'.heap.size := Nat.le_trans hsz b9.size
      clear O9 b9
      generalize wd' = wd at *
      (try go_wp2_with fail)
      refine hK.out _ _ (by first | with_reducible exact Dc.cells | with_reducible exact pDd | with_reducible exact pD | go_keep) (fun hHeld => ?_)
      clear hK K
      try simp only [Act.put, sA, sB, sC]
      refine wpAnyH_ready (rs := [5]) (by kernel_rfl) (by simp) ?_
      refine AllReadyH.cons (o := ⟨some 53, .call { callee := .value (.func 81), args := #[.tmp 48, .tmp 49, .tmp 52], argTypes := #[26, 30, 24] }, 103, "l09_mend.go:139", #[⟨0, .data⟩, ⟨1, .data⟩, ⟨4, .data⟩, ⟨4, .chain⟩], none⟩) rfl (fun K hK => ?_) AllReadyH.nil
      go_simp
      have C6 := dUnhide CP wd Dc u9 zs9 Z8 hz9
      try (have hN7 := NZ.lt)
      refine C6.mono ?_
      clear C6
      obtain ⟨lo6, el6⟩ : ∃ l, wd.heap.size = l := ⟨_, rfl⟩
      have F6 := fun h => fitM.planned9 (ds := ds) (cop := cop) (m := m) (l := zs9) h
      intro e wd' hA6
      generalize hAM : plan9M ds cop m zs9 = AM at *
      obtain ⟨m6, k6⟩ := AM
      clear hAM
      obtain ⟨⟨u6, rfl, O6, A6⟩, b6⟩ := hA6
      obtain ⟨q6, rfl, I6⟩ := ApM.both O6 A6
      simp only at I6 F6
      replace Dc := Dc.below b6
      try replace NZ := NZ.below b6
      rw [el6] at I6
      try rw [el6] at hN7
      have hs6 := b6.size
      have hl6 : bt + 1 ≤ lo6 := by omega
      replace hsz : w5.heap.size ≤ wd'.heap.size := by omega
      obtain ⟨hi6, eh6⟩ : ∃ l, wd'.heap.size = l := ⟨_, rfl⟩
      rw [eh6] at I6
      have hh6 : hi6 ≤ wd'.heap.size := by omega
      clear b6 O6 A6 hs6 el6 eh6
      try clear S8
      try clear E8
      try clear Z8
      generalize wd' = wd at *
      (try go_wp2_with fail)
      refine hK.out _ _ (by first | with_reducible exact Dc.cells | with_reducible exact pDd | with_reducible exact pD | go_keep) (fun hHeld => ?_)
      clear hK K
      try simp only [Act.put, sA, sB, sC]
      refine wpAnyH_take (i := 6) (oi := ⟨some 47, .move (.tmp 53), 103, "l09_mend.go:139", #[⟨5, .data⟩], none⟩) (v := ?_) rfl (by kernel_rfl) (by kernel_rfl) (by kernel_rfl) (fun _ _ _ h => h) (Or.inl ⟨by rfl, ?_⟩) (by assumption) ?_
      rotate_left 1
      ·intro w hSw
       (try dsimp only at hSw)
       first | (go_simp; done) | (go_simp; with_reducible rfl)
      try simp only [Act.put, sA, sB, sC]
      refine wpAnyH_take (i := 7) (oi := ⟨some 54, .extract (.tmp 47) 0, 30, "l09_mend.go:139", #[⟨6, .data⟩], none⟩) (v := ?_) rfl (by kernel_rfl) (by kernel_rfl) (by kernel_rfl) (fun _ _ _ h => h) (Or.inl ⟨by rfl, ?_⟩) (by assumption) ?_
      rotate_left 1
      ·intro w hSw
       (try dsimp only at hSw)
       first | (go_simp; done) | (go_simp; with_reducible rfl)
      try simp only [Act.put, sA, sB, sC]
      refine wpAnyH_take (i := 8) (oi := ⟨some 55, .extract (.tmp 47) 1, 4, "l09_mend.go:139", #[⟨6, .data⟩, { on := 10, ground := Ground.gcOnly Departure.lateStores }], none⟩) (v := ?_) rfl (by kernel_rfl) (by kernel_rfl) (by kernel_rfl) (fun _ _ _ h => h) (Or.inl ⟨by rfl, ?_⟩) (by assumption) ?_
      rotate_left 1
      ·intro w hSw
       (try dsimp only at hSw)
       first | (go_simp; done) | (go_simp; with_reducible rfl)
      try simp only [Act.put, sA, sB, sC]
      refine wpAnyH_ready (rs := [10]) (by kernel_rfl) (by simp) ?_
      refine AllReadyH.cons (o := ⟨none, .store 30 (.tmp 10) (.tmp 54), 0, "l09_mend.go:139", #[⟨9, .data⟩, ⟨7, .data⟩, ⟨5, .chain⟩, ⟨0, .phase⟩, ⟨1, .phase⟩, ⟨2, .phase⟩, ⟨3, .phase⟩, ⟨4, .phase⟩, ⟨5, .phase⟩, ⟨6, .phase⟩, ⟨7, .phase⟩, { on := 8, ground := Ground.textOnly Departure.lateStores }, ⟨9, .phase⟩], none⟩) rfl (fun K hK => ?_) AllReadyH.nil
      obtain ⟨⟨z0, f0⟩, ⟨z1, f1⟩, ⟨z2, f2⟩, ⟨z3, f3⟩, ⟨z4, f4⟩, ⟨z5, f5⟩⟩ : (_ ∧ _) ∧ (_ ∧ _) ∧ (_ ∧ _) ∧ (_ ∧ _) ∧ (_ ∧ _) ∧ (_ ∧ _) := ⟨NZ.2 0 _ rfl, NZ.2 1 _ rfl, NZ.2 2 _ rfl, NZ.2 3 _ rfl, NZ.2 4 _ rfl, NZ.2 5 _ rfl⟩
      go_simp
      have N8 : Hid (k6 = true → bt + 1 ≤ lo6 ∧ fitM m6 ∧ DX _ b7 lo6 hi6 m6 q6) := fun h => ⟨hl6, F6 h, DX.put (I6 h) hh6 NZ (by first | exact .inl hN7 | exact .inr hap)⟩
      replace Dc := Dc.set6 hk ht hw hb7 (by omega) (.int .i64 m6.bye) (.int .i64 m6.epoch) (.slice q6.sa m6.sealed.length q6.sc) (.slice q6.ea m6.seen.length q6.ec) (.bool m6.planned) (.slice q6.wa m6.wrote.length q6.wc)
      clear z0 f0 z1 f1 z2 f2 z3 f3 z4 f4 z5 f5 NZ I6
      refine hK.out _ _ (by first | with_reducible exact Dc.cells | with_reducible exact pDd | with_reducible exact pD | go_keep) (fun hHeld => ?_)
      clear hK K
      try simp only [Act.put, sA, sB, sC]
      refine wpAnyH_take (i := 11) (oi := ⟨some 11, .assign (.tmp 55), 4, "l09_mend.go:139", #[⟨8, .data⟩, ⟨10, .chain⟩, ⟨0, .phase⟩, ⟨1, .phase⟩, ⟨2, .phase⟩, ⟨3, .phase⟩, ⟨4, .phase⟩, ⟨5, .phase⟩, ⟨6, .phase⟩, ⟨7, .phase⟩, ⟨8, .phase⟩, ⟨9, .phase⟩, ⟨10, .phase⟩], none⟩) (v := ?_) rfl (by kernel_rfl) (by kernel_rfl) (by kernel_rfl) (fun _ _ _ h => h) (Or.inl ⟨by rfl, ?_⟩) (by assumption) ?_
      rotate_left 1
      ·intro w hSw
       (try dsimp only at hSw)
       first | (go_simp; done) | (go_simp; with_reducible rfl)
      try simp only [Act.put, sA, sB, sC]
      refine wpAnyH_done (by kernel_rfl) ?_ _
      refine NoPanic.normal ?_
      go_wp2_with fail
      go_meet
      case rel => exact ⟨b7, lo6, hi6, m6, k6, q6, rfl, rfl, hb7, N8, Dc⟩
    case rest =>
     obtain ⟨bo, lo', hi', m', mb, q', rfl, rfl, hbo, N2, D2⟩ := hcut
     clear CP CL Dc pDd D5 pD
     generalize wc = w6 at *
     go_upto_if 56 with fail
     go_cut [11] (fun ov wx => ∃ (m : Mn) (q : Pm), Hid (D9 w bk bt ca cc ds cop wx wx.heap.size m q))
     case first =>
      cases mb with
      | false =>
       have D6 := dUnhide D2
       have DL := dHide (D6.weak (B' := w6.heap.size) (by have := D6.men.fit; omega) (Nat.le_refl _))
       clear D2 D6 N2
       go_wp2_with fail
       go_meet
       case rel => exact ⟨_, _, DL⟩
      | true =>
       obtain ⟨hl5, hf5, N5⟩ := dUnhide N2 rfl
       have D5 := dUnhide D2
       clear N2 D2
       generalize w6 = w5 at *
       have nb := N5.box
       obtain ⟨⟨y0, -⟩, ⟨y1, -⟩, ⟨y2, -⟩, ⟨y3, -⟩, ⟨y4, -⟩, ⟨y5, -⟩⟩ : (_ ∧ _) ∧ (_ ∧ _) ∧ (_ ∧ _) ∧ (_ ∧ _) ∧ (_ ∧ _) ∧ (_ ∧ _) := ⟨nb.2 0 _ rfl, nb.2 1 _ rfl, nb.2 2 _ rfl, nb.2 3 _ rfl, nb.2 4 _ rfl, nb.2 5 _ rfl⟩
       obtain ⟨⟨z0, f0⟩, ⟨z1, f1⟩, ⟨z2, f2⟩, ⟨z3, f3⟩, ⟨z4, f4⟩, ⟨z5, f5⟩⟩ : (_ ∧ _) ∧ (_ ∧ _) ∧ (_ ∧ _) ∧ (_ ∧ _) ∧ (_ ∧ _) ∧ (_ ∧ _) := ⟨D5.men.box.2 0 _ rfl, D5.men.box.2 1 _ rfl, D5.men.box.2 2 _ rfl, D5.men.box.2 3 _ rfl, D5.men.box.2 4 _ rfl, D5.men.box.2 5 _ rfl⟩
       have HT := (D5.take hk ht hw N5 hl5 hf5)
       replace HT := dHide (HT.weak (B' := ((((((w5.setCell ⟨bt, 0, none⟩ (.int .i64 m'.bye)).setCell ⟨bt, 1, none⟩ (.int .i64 m'.epoch)).setCell ⟨bt, 2, none⟩ (.slice q'.sa m'.sealed.length q'.sc)).setCell ⟨bt, 3, none⟩ (.slice q'.ea m'.seen.length q'.ec)).setCell ⟨bt, 4, none⟩ (.bool m'.planned)).setCell ⟨bt, 5, none⟩ (.slice q'.wa m'.wrote.length q'.wc)).heap.size) (by simp) (Nat.le_refl _))
       clear D5 N5 nb
       go_wp2_with fail
       go_meet
       case rel => exact ⟨_, _, HT⟩
     case rest =>
      obtain ⟨m, q, DL⟩ := hcut
      clear N2 D2
      generalize wc = w7 at *
      go_wp2_with fail
      go_loopw [12] (fun y wr => ∃ (k : Nat) (m : Mn) (q : Pm), y = .int .i64 (k : Int) ∧ k ≤ 9 ∧ Hid (D9 w bk bt ca cc ds cop wr wr.heap.size m q)) (fun y _ => 10 - (intOf y).toNat)
      case atStart => exact ⟨0, _, _, rfl, Nat.zero_le _, DL⟩
      case round =>
       obtain ⟨k, m, q, rfl, hkn, D3⟩ := hrel
       clear DL
       have D1 := dUnhide D3
       clear D3
       have CB := dHide (l1Below_any bk 9 (by omega) (by omega) wr D1.cur)
       replace D1 := dHide D1
       go_wp2_with fail
       refine (dUnhide CB).mono ?_
       rintro r w5 ⟨⟨t, htn, rfl⟩, hc3, hd3⟩
       have D5 := (((dUnhide D1).move hk ht hne hc3 hd3).weak (B' := w5.heap.size) hd3.size (Nat.le_refl _))
       clear D1 CB hc3 hd3
       by_cases hlt : (k : Int) < (t : Int)
       ·have CP := dHide fun W (h : D9 w bk bt ca cc ds cop W w5.heap.size m q) (y z : Nat) (hy : y ≤ 100) (hz : z ≤ 9) => specAck9_ap _ _ (ds, cop) m (1 + (y : Int)) (z : Int) W ⟨_, rfl, h.ns⟩ h.men.rd h.fit.1.2.2.2.1 h.fit.siz (by simp only; omega)
        have hwl := D5.fit.2.2.2.1
        have hbt5 := D5.lt
        have pD := D5.cells
        have Dc := D5.below (Below.refl _ _).drew
        have pDd := Dc.cells
        go_wp2_with fail
        go_cut [13, 14] (fun sv ov wx => ∃ (bo lo' hi' : Nat) (m' : Mn) (mb : Bool) (q' : Pm), sv = .pointer (some ⟨bo, 0, none⟩) ∧ ov = .bool mb ∧ w5.heap.size ≤ bo ∧ Hid (mb = true → bt + 1 ≤ lo' ∧ fitM m' ∧ DX wx bo lo' hi' m' q') ∧ Hid (D9 w bk bt ca cc ds cop wx w5.heap.size m q))
        case first =>
         refine wp_region_noPanic ?_
         refine wp_region_held_drew (S := fun W => (W.cell? ⟨w.heap.size, 0, none⟩ = some (.slice ca ds.length cc) ∧ W.cell? ⟨w.heap.size, 1, none⟩ = some (.int .i64 cop)) ∧ W.cell? ⟨bt, 0, none⟩ = some (.int .i64 m.bye) ∧ W.cell? ⟨bt, 1, none⟩ = some (.int .i64 m.epoch) ∧ W.cell? ⟨bt, 2, none⟩ = some (.slice q.sa m.sealed.length q.sc) ∧ W.cell? ⟨bt, 3, none⟩ = some (.slice q.ea m.seen.length q.ec) ∧ W.cell? ⟨bt, 4, none⟩ = some (.bool m.planned) ∧ W.cell? ⟨bt, 5, none⟩ = some (.slice q.wa m.wrote.length q.wc)) (by kernel_rfl) (by first | with_reducible exact Dc.cells | with_reducible exact pDd | with_reducible exact pD | go_keep) (fun hHeld => ?_)
         have hsz : w5.heap.size ≤ w5.drew.heap.size := Nat.le_refl _
         generalize w5.drew = wd at *
         refine wpAnyH_take (i := 0) (oi := ⟨some 65, .load 26 (.tmp 3), 26, "l09_mend.go:144", #[], none⟩) (v := ?_) rfl (by kernel_rfl) (by kernel_rfl) (by kernel_rfl) (fun _ _ _ h => h) (Or.inl ⟨by rfl, ?_⟩) (by assumption) ?_
         rotate_left 1
         ·intro w hSw
          (try dsimp only at hSw)
          first | (go_simp; done) | (go_simp; with_reducible rfl)
         try simp only [Act.put, sA, sB, sC]
         refine wpAnyH_take (i := 1) (oi := ⟨some 66, .load 30 (.tmp 5), 30, "l09_mend.go:144", #[], none⟩) (v := ?_) rfl (by kernel_rfl) (by kernel_rfl) (by kernel_rfl) (fun _ _ _ h => h) (Or.inl ⟨by rfl, ?_⟩) (by assumption) ?_
         rotate_left 1
         ·intro w hSw
          (try dsimp only at hSw)
          first | (go_simp; done) | (go_simp; with_reducible rfl)
         try simp only [Act.put, sA, sB, sC]
         refine wpAnyH_take (i := 2) (oi := ⟨some 67, .move (.tmp 0), 52, "l09_mend.go:144", #[], none⟩) (v := ?_) rfl (by kernel_rfl) (by kernel_rfl) (by kernel_rfl) (fun _ _ _ h => h) (Or.inl ⟨by rfl, ?_⟩) (by assumption) ?_
         rotate_left 1
         ·intro w hSw
          (try dsimp only at hSw)
          first | (go_simp; done) | (go_simp; with_reducible rfl)
         try simp only [Act.put, sA, sB, sC]
         refine wpAnyH_take (i := 3) (oi := ⟨some 68, .fieldAddr 30 (.tmp 5) 5, 0, "l09_mend.go:144", #[], none⟩) (v := ?_) rfl (by kernel_rfl) (by kernel_rfl) (by kernel_rfl) (fun _ _ _ h => h) (Or.inl ⟨by rfl, ?_⟩) (by assumption) ?_
         rotate_left 1
         ·intro w hSw
          (try dsimp only at hSw)
          first | (go_simp; done) | (go_simp; with_reducible rfl)
         try simp only [Act.put, sA, sB, sC]
         refine wpAnyH_take (i := 4) (oi := ⟨some 69, .load 28 (.tmp 68), 28, "l09_mend.go:144", #[⟨3, .data⟩], none⟩) (v := ?_) rfl (by kernel_rfl) (by kernel_rfl) (by kernel_rfl) (fun _ _ _ h => h) (Or.inl ⟨by rfl, ?_⟩) (by assumption) ?_
         rotate_left 1
         ·intro w hSw
          (try dsimp only at hSw)
          first | (go_simp; done) | (go_simp; with_reducible rfl)
         try simp only [Act.put, sA, sB, sC]
         refine wpAnyH_take (i := 5) (oi := ⟨some 70, .call { callee := .builtin .len, args := #[.tmp 69], argTypes := #[28] }, 3, "l09_mend.go:144", #[⟨4, .data⟩], none⟩) (v := ?_) rfl (by kernel_rfl) (by kernel_rfl) (by kernel_rfl) (fun _ _ _ h => h) (Or.inl ⟨by rfl, ?_⟩) (by assumption) ?_
         rotate_left 1
         ·intro w hSw
          (try dsimp only at hSw)
          first | (go_simp; done) | (go_simp; with_reducible rfl)
         try simp only [Act.put, sA, sB, sC]
         refine wpAnyH_take (i := 9) (oi := ⟨some 74, .move (.tmp 0), 52, "l09_mend.go:144", #[], none⟩) (v := ?_) rfl (by kernel_rfl) (by kernel_rfl) (by kernel_rfl) (fun _ _ _ h => h) (Or.inl ⟨by rfl, ?_⟩) (by assumption) ?_
         rotate_left 1
         ·intro w hSw
          (try dsimp only at hSw)
          first | (go_simp; done) | (go_simp; with_reducible rfl)
         try simp only [Act.put, sA, sB, sC]
         refine wpAnyH_take (i := 10) (oi := ⟨some 75, .fieldAddr 26 (.tmp 3) 0, 0, "l09_mend.go:144", #[], none⟩) (v := ?_) rfl (by kernel_rfl) (by kernel_rfl) (by kernel_rfl) (fun _ _ _ h => h) (Or.inl ⟨by rfl, ?_⟩) (by assumption) ?_
         rotate_left 1
         ·intro w hSw
          (try dsimp only at hSw)
          first | (go_simp; done) | (go_simp; with_reducible rfl)
         try simp only [Act.put, sA, sB, sC]
         refine wpAnyH_take (i := 11) (oi := ⟨some 76, .load 24 (.tmp 75), 24, "l09_mend.go:144", #[⟨10, .data⟩], none⟩) (v := ?_) rfl (by kernel_rfl) (by kernel_rfl) (by kernel_rfl) (fun _ _ _ h => h) (Or.inl ⟨by rfl, ?_⟩) (by assumption) ?_
         rotate_left 1
         ·intro w hSw
          (try dsimp only at hSw)
          first | (go_simp; done) | (go_simp; with_reducible rfl)
         try simp only [Act.put, sA, sB, sC]
         refine wpAnyH_take (i := 12) (oi := ⟨some 77, .call { callee := .builtin .len, args := #[.tmp 76], argTypes := #[24] }, 3, "l09_mend.go:144", #[⟨11, .data⟩], none⟩) (v := ?_) rfl (by kernel_rfl) (by kernel_rfl) (by kernel_rfl) (fun _ _ _ h => h) (Or.inl ⟨by rfl, ?_⟩) (by assumption) ?_
         rotate_left 1
         ·intro w hSw
          (try dsimp only at hSw)
          first | (go_simp; done) | (go_simp; with_reducible rfl)
         try simp only [Act.put, sA, sB, sC]
         refine wpAnyH_ready (rs := [6, 18]) (by kernel_rfl) (by simp) ?_
         refine AllReadyH.cons (o := ⟨some 71, .call ⟨.value (.func 84), #[.tmp 70, .const (.int .i64 1)], #[3, 3]⟩, 3, "l09_mend.go:144", #[⟨5, .data⟩], none⟩) rfl (fun K hK => ?_) (AllReadyH.cons (o := ⟨some 13, .alloc 30, 0, "l09_mend.go:144", #[], none⟩) rfl (fun K hK => ?_) AllReadyH.nil)
         ·go_simp
          refine (l1Max_one m.wrote.length wd).mono ?_
          rintro e wd ⟨rfl, rfl⟩
          (try go_wp2_with fail)
          refine hK.out _ _ (by first | with_reducible exact Dc.cells | with_reducible exact pDd | with_reducible exact pD | go_keep) (fun hHeld => ?_)
          clear hK K
          try simp only [Act.put, sA, sB, sC]
          refine wpAnyH_ready (rs := [7, 18]) (by kernel_rfl) (by simp) ?_
          refine AllReadyH.cons (o := ⟨some 72, .call ⟨.value (.func 39), #[.tmp 67, .tmp 71], #[52, 3]⟩, 3, "l09_mend.go:144", #[⟨2, .data⟩, ⟨6, .data⟩, ⟨6, .chain⟩], none⟩) rfl (fun K hK => ?_) (AllReadyH.cons (o := ⟨some 13, .alloc 30, 0, "l09_mend.go:144", #[], none⟩) rfl (fun K hK => ?_) AllReadyH.nil)
          ·go_simp
           refine (l1Below_any bk (max m.wrote.length 1) (by omega) (by omega) wd Dc.cur).mono ?_
           rintro e wd ⟨⟨y7, hy7, rfl⟩, hc7, hd7⟩
           replace Dc := Dc.move hk ht hne hc7 hd7
           try replace NZ := NZ.drawn hd7 (by omega)
           replace hsz : w5.heap.size ≤ wd.heap.size := Nat.le_trans hsz hd7.size
           have hwy : IntKind.i64.wrap (1 + (y7 : Int)) = 1 + (y7 : Int) := by rw [IntKind.wrap_i64]; omega
           clear hc7 hd7
           (try go_wp2_with fail)
           refine hK.out _ _ (by first | with_reducible exact Dc.cells | with_reducible exact pDd | with_reducible exact pD | go_keep) (fun hHeld => ?_)
           clear hK K
           try simp only [Act.put, sA, sB, sC]
           refine wpAnyH_take (i := 8) (oi := ⟨some 73, .binOp .add 3 (.const (.int .i64 1)) (.tmp 72) 3, 3, "l09_mend.go:144", #[⟨7, .data⟩], none⟩) (v := ?_) rfl (by kernel_rfl) (by kernel_rfl) (by kernel_rfl) (fun _ _ _ h => h) (Or.inl ⟨by rfl, ?_⟩) (by assumption) ?_
           rotate_left 1
           ·intro w hSw
            (try dsimp only at hSw)
            first | (go_simp; done) | (go_simp; with_reducible rfl)
           try simp only [Act.put, sA, sB, sC]
           refine wpAnyH_ready (rs := [13, 18]) (by kernel_rfl) (by simp) ?_
           refine AllReadyH.cons (o := ⟨some 78, .call ⟨.value (.func 39), #[.tmp 74, .tmp 77], #[52, 3]⟩, 3, "l09_mend.go:144", #[⟨9, .data⟩, ⟨12, .data⟩, ⟨7, .chain⟩], none⟩) rfl (fun K hK => ?_) (AllReadyH.cons (o := ⟨some 13, .alloc 30, 0, "l09_mend.go:144", #[], none⟩) rfl (fun K hK => ?_) AllReadyH.nil)
           ·go_simp
            refine (l1Below_le bk ds.length (by omega) wd Dc.cur).mono ?_
            rintro e wd ⟨⟨z7, hz7, rfl⟩, hc7, hd7⟩
            replace Dc := Dc.move hk ht hne hc7 hd7
            try replace NZ := NZ.drawn hd7 (by omega)
            replace hsz : w5.heap.size ≤ wd.heap.size := Nat.le_trans hsz hd7.size
            clear hc7 hd7
            (try go_wp2_with fail)
            refine hK.out _ _ (by first | with_reducible exact Dc.cells | with_reducible exact pDd | with_reducible exact pD | go_keep) (fun hHeld => ?_)
            clear hK K
            try simp only [Act.put, sA, sB, sC]
            refine wpAnyH_ready (rs := [14, 18]) (by kernel_rfl) (by simp) ?_
            refine AllReadyH.cons (o := ⟨some 79, .call ⟨.value (.func 83), #[.tmp 65, .tmp 66, .tmp 73, .tmp 78], #[26, 30, 3, 3]⟩, 103, "l09_mend.go:144", #[⟨0, .data⟩, ⟨1, .data⟩, ⟨8, .data⟩, ⟨13, .data⟩, ⟨13, .chain⟩], none⟩) rfl (fun K hK => ?_) (AllReadyH.cons (o := ⟨some 13, .alloc 30, 0, "l09_mend.go:144", #[], none⟩) rfl (fun K hK => ?_) AllReadyH.nil)
            ·go_simp
             have C6 := dUnhide CP wd Dc y7 z7 (by omega) (by omega)
             try (have hN7 := NZ.lt)
             refine C6.mono ?_
             clear C6
             obtain ⟨lo6, el6⟩ : ∃ l, wd.heap.size = l := ⟨_, rfl⟩
             have F6 := fun h => fitM.acked9 (ds := ds) (cop := cop) (m := m) (off := 1 + (y7 : Int)) (x := (z7 : Int)) ⟨by omega, by omega⟩ h
             intro e wd' hA6
             generalize hAM : ack9M ds cop m (1 + (y7 : Int)) (z7 : Int) = AM at *
             obtain ⟨m6, k6⟩ := AM
             clear hAM
             obtain ⟨⟨u6, rfl, O6, A6⟩, b6⟩ := hA6
             obtain ⟨q6, rfl, I6⟩ := ApM.both O6 A6
             simp only at I6 F6
             replace Dc := Dc.below b6
             try replace NZ := NZ.below b6
             rw [el6] at I6
             try rw [el6] at hN7
             have hs6 := b6.size
             have hl6 : bt + 1 ≤ lo6 := by omega
             replace hsz : w5.heap.size ≤ wd'.heap.size := by omega
             obtain ⟨hi6, eh6⟩ : ∃ l, wd'.heap.size = l := ⟨_, rfl⟩
             rw [eh6] at I6
             have hh6 : hi6 ≤ wd'.heap.size := by omega
             clear b6 O6 A6 hs6 el6 eh6
             try clear S8
             try clear E8
             try clear Z8
             generalize wd' = wd at *
             (try go_wp2_with fail)
             refine hK.out _ _ (by first | with_reducible exact Dc.cells | with_reducible exact pDd | with_reducible exact pD | go_keep) (fun hHeld => ?_)
             clear hK K
             try simp only [Act.put, sA, sB, sC]
             refine wpAnyH_take (i := 15) (oi := ⟨some 64, .move (.tmp 79), 103, "l09_mend.go:144", #[⟨14, .data⟩], none⟩) (v := ?_) rfl (by kernel_rfl) (by kernel_rfl) (by kernel_rfl) (fun _ _ _ h => h) (Or.inl ⟨by rfl, ?_⟩) (by assumption) ?_
             rotate_left 1
             ·intro w hSw
              (try dsimp only at hSw)
              first | (go_simp; done) | (go_simp; with_reducible rfl)
             try simp only [Act.put, sA, sB, sC]
             refine wpAnyH_take (i := 16) (oi := ⟨some 80, .extract (.tmp 64) 0, 30, "l09_mend.go:144", #[⟨15, .data⟩], none⟩) (v := ?_) rfl (by kernel_rfl) (by kernel_rfl) (by kernel_rfl) (fun _ _ _ h => h) (Or.inl ⟨by rfl, ?_⟩) (by assumption) ?_
             rotate_left 1
             ·intro w hSw
              (try dsimp only at hSw)
              first | (go_simp; done) | (go_simp; with_reducible rfl)
             try simp only [Act.put, sA, sB, sC]
             refine wpAnyH_take (i := 17) (oi := ⟨some 81, .extract (.tmp 64) 1, 4, "l09_mend.go:144", #[⟨15, .data⟩, { on := 19, ground := Ground.gcOnly Departure.lateStores }], none⟩) (v := ?_) rfl (by kernel_rfl) (by kernel_rfl) (by kernel_rfl) (fun _ _ _ h => h) (Or.inl ⟨by rfl, ?_⟩) (by assumption) ?_
             rotate_left 1
             ·intro w hSw
              (try dsimp only at hSw)
              first | (go_simp; done) | (go_simp; with_reducible rfl)
             try simp only [Act.put, sA, sB, sC]
             refine wpAnyH_ready (rs := [18]) (by kernel_rfl) (by simp) ?_
             refine AllReadyH.cons (o := ⟨some 13, .alloc 30, 0, "l09_mend.go:144", #[], none⟩) rfl (fun K hK => ?_) AllReadyH.nil
             go_simp
             have NZ := BxZ.new (B := 0) wd [.int .i64 0, .int .i64 0, .slice none 0 0, .slice none 0 0, .bool false, .slice none 0 0] 30 (Nat.zero_le _)
             have es7 : (wd.alloc (.cells #[.int .i64 0, .int .i64 0, .slice none 0 0, .slice none 0 0, .bool false, .slice none 0 0] 30)).heap.size = wd.heap.size + 1 := by simp
             replace Dc := Dc.below (ba wd (.cells #[.int .i64 0, .int .i64 0, .slice none 0 0, .slice none 0 0, .bool false, .slice none 0 0] 30))
             try replace S8 := S8.below (ba wd (.cells #[.int .i64 0, .int .i64 0, .slice none 0 0, .slice none 0 0, .bool false, .slice none 0 0] 30))
             try replace E8 := Rw.below E8 (ba wd (.cells #[.int .i64 0, .int .i64 0, .slice none 0 0, .slice none 0 0, .bool false, .slice none 0 0] 30))
             try replace Z8 := Z8.below (ba wd (.cells #[.int .i64 0, .int .i64 0, .slice none 0 0, .slice none 0 0, .bool false, .slice none 0 0] 30))
             try (have hap : hi6 ≤ wd.heap.size := hh6)
             try (replace I6 := fun h => ownBelow (I6 h) hh6 (ba wd (.cells #[.int .i64 0, .int .i64 0, .slice none 0 0, .slice none 0 0, .bool false, .slice none 0 0] 30)))
             try (replace hh6 : hi6 ≤ (wd.alloc (.cells #[.int .i64 0, .int .i64 0, .slice none 0 0, .slice none 0 0, .bool false, .slice none 0 0] 30)).heap.size := by omega)
             have hb7 : w5.heap.size ≤ wd.heap.size := hsz
             replace hsz : w5.heap.size ≤ (wd.alloc (.cells #[.int .i64 0, .int .i64 0, .slice none 0 0, .slice none 0 0, .bool false, .slice none 0 0] 30)).heap.size := by omega
             clear es7
             generalize wd.heap.size = b7 at *
             generalize wd.alloc (.cells #[.int .i64 0, .int .i64 0, .slice none 0 0, .slice none 0 0, .bool false, .slice none 0 0] 30) = wd at *
             refine hK.out _ _ (by first | with_reducible exact Dc.cells | with_reducible exact pDd | with_reducible exact pD | go_keep) (fun hHeld => ?_)
             clear hK K
             try simp only [Act.put, sA, sB, sC]
             refine wpAnyH_ready (rs := [19]) (by kernel_rfl) (by simp) ?_
             refine AllReadyH.cons (o := ⟨none, .store 30 (.tmp 13) (.tmp 80), 0, "l09_mend.go:144", #[⟨18, .data⟩, ⟨16, .data⟩, ⟨14, .chain⟩, ⟨0, .phase⟩, ⟨1, .phase⟩, ⟨2, .phase⟩, ⟨3, .phase⟩, ⟨4, .phase⟩, ⟨5, .phase⟩, ⟨6, .phase⟩, ⟨7, .phase⟩, ⟨8, .phase⟩, ⟨9, .phase⟩, ⟨10, .phase⟩, ⟨11, .phase⟩, ⟨12, .phase⟩, ⟨13, .phase⟩, ⟨14, .phase⟩, ⟨15, .phase⟩, ⟨16, .phase⟩, { on := 17, ground := Ground.textOnly Departure.lateStores }, ⟨18, .phase⟩], none⟩) rfl (fun K hK => ?_) AllReadyH.nil
             obtain ⟨⟨z0, f0⟩, ⟨z1, f1⟩, ⟨z2, f2⟩, ⟨z3, f3⟩, ⟨z4, f4⟩, ⟨z5, f5⟩⟩ : (_ ∧ _) ∧ (_ ∧ _) ∧ (_ ∧ _) ∧ (_ ∧ _) ∧ (_ ∧ _) ∧ (_ ∧ _) := ⟨NZ.2 0 _ rfl, NZ.2 1 _ rfl, NZ.2 2 _ rfl, NZ.2 3 _ rfl, NZ.2 4 _ rfl, NZ.2 5 _ rfl⟩
             go_simp
             have N8 : Hid (k6 = true → bt + 1 ≤ lo6 ∧ fitM m6 ∧ DX _ b7 lo6 hi6 m6 q6) := fun h => ⟨hl6, F6 h, DX.put (I6 h) hh6 NZ (by first | exact .inl hN7 | exact .inr hap)⟩
             replace Dc := Dc.set6 hk ht hw hb7 (by omega) (.int .i64 m6.bye) (.int .i64 m6.epoch) (.slice q6.sa m6.sealed.length q6.sc) (.slice q6.ea m6.seen.length q6.ec) (.bool m6.planned) (.slice q6.wa m6.wrote.length q6.wc)
             clear z0 f0 z1 f1 z2 f2 z3 f3 z4 f4 z5 f5 NZ I6
             refine hK.out _ _ (by first | with_reducible exact Dc.cells | with_reducible exact pDd | with_reducible exact pD | go_keep) (fun hHeld => ?_)
             clear hK K
             try simp only [Act.put, sA, sB, sC]
             refine wpAnyH_take (i := 20) (oi := ⟨some 14, .assign (.tmp 81), 4, "l09_mend.go:144", #[⟨17, .data⟩, ⟨19, .chain⟩, ⟨0, .phase⟩, ⟨1, .phase⟩, ⟨2, .phase⟩, ⟨3, .phase⟩, ⟨4, .phase⟩, ⟨5, .phase⟩, ⟨6, .phase⟩, ⟨7, .phase⟩, ⟨8, .phase⟩, ⟨9, .phase⟩, ⟨10, .phase⟩, ⟨11, .phase⟩, ⟨12, .phase⟩, ⟨13, .phase⟩, ⟨14, .phase⟩, ⟨15, .phase⟩, ⟨16, .phase⟩, ⟨17, .phase⟩, ⟨18, .phase⟩, ⟨19, .phase⟩], none⟩) (v := ?_) rfl (by kernel_rfl) (by kernel_rfl) (by kernel_rfl) (fun _ _ _ h => h) (Or.inl ⟨by rfl, ?_⟩) (by assumption) ?_
             rotate_left 1
             ·intro w hSw
              (try dsimp only at hSw)
              first | (go_simp; done) | (go_simp; with_reducible rfl)
             try simp only [Act.put, sA, sB, sC]
             refine wpAnyH_done (by kernel_rfl) ?_ _
             refine NoPanic.normal ?_
             go_wp2_with fail
             go_meet
             case rel => exact ⟨b7, lo6, hi6, m6, k6, q6, rfl, rfl, hb7, N8, Dc⟩
            ·go_simp
             have NZ := BxZ.new (B := 0) wd [.int .i64 0, .int .i64 0, .slice none 0 0, .slice none 0 0, .bool false, .slice none 0 0] 30 (Nat.zero_le _)
             have es7 : (wd.alloc (.cells #[.int .i64 0, .int .i64 0, .slice none 0 0, .slice none 0 0, .bool false, .slice none 0 0] 30)).heap.size = wd.heap.size + 1 := by simp
             replace Dc := Dc.below (ba wd (.cells #[.int .i64 0, .int .i64 0, .slice none 0 0, .slice none 0 0, .bool false, .slice none 0 0] 30))
             try replace S8 := S8.below (ba wd (.cells #[.int .i64 0, .int .i64 0, .slice none 0 0, .slice none 0 0, .bool false, .slice none 0 0] 30))
             try replace E8 := Rw.below E8 (ba wd (.cells #[.int .i64 0, .int .i64 0, .slice none 0 0, .slice none 0 0, .bool false, .slice none 0 0] 30))
             try replace Z8 := Z8.below (ba wd (.cells #[.int .i64 0, .int .i64 0, .slice none 0 0, .slice none 0 0, .bool false, .slice none 0 0] 30))
             try (have hap : hi6 ≤ wd.heap.size := hh6)
             try (replace I6 := fun h => ownBelow (I6 h) hh6 (ba wd (.cells #[.int .i64 0, .int .i64 0, .slice none 0 0, .slice none 0 0, .bool false, .slice none 0 0] 30)))
             try (replace hh6 : hi6 ≤ (wd.alloc (.cells #[.int .i64 0, .int .i64 0, .slice none 0 0, .slice none 0 0, .bool false, .slice none 0 0] 30)).heap.size := by omega)
             have hb7 : w5.heap.size ≤ wd.heap.size := hsz
             replace hsz : w5.heap.size ≤ (wd.alloc (.cells #[.int .i64 0, .int .i64 0, .slice none 0 0, .slice none 0 0, .bool false, .slice none 0 0] 30)).heap.size := by omega
             clear es7
             generalize wd.heap.size = b7 at *
             generalize wd.alloc (.cells #[.int .i64 0, .int .i64 0, .slice none 0 0, .slice none 0 0, .bool false, .slice none 0 0] 30) = wd at *
             refine hK.out _ _ (by first | with_reducible exact Dc.cells | with_reducible exact pDd | with_reducible exact pD | go_keep) (fun hHeld => ?_)
             clear hK K
             try simp only [Act.put, sA, sB, sC]
             refine wpAnyH_ready (rs := [14]) (by kernel_rfl) (by simp) ?_
             refine AllReadyH.cons (o := ⟨some 79, .call ⟨.value (.func 83), #[.tmp 65, .tmp 66, .tmp 73, .tmp 78], #[26, 30, 3, 3]⟩, 103, "l09_mend.go:144", #[⟨0, .data⟩, ⟨1, .data⟩, ⟨8, .data⟩, ⟨13, .data⟩, ⟨13, .chain⟩], none⟩) rfl (fun K hK => ?_) AllReadyH.nil
             go_simp
             have C6 := dUnhide CP wd Dc y7 z7 (by omega) (by omega)
             try (have hN7 := NZ.lt)
             refine C6.mono ?_
             clear C6
             obtain ⟨lo6, el6⟩ : ∃ l, wd.heap.size = l := ⟨_, rfl⟩
             have F6 := fun h => fitM.acked9 (ds := ds) (cop := cop) (m := m) (off := 1 + (y7 : Int)) (x := (z7 : Int)) ⟨by omega, by omega⟩ h
             intro e wd' hA6
             generalize hAM : ack9M ds cop m (1 + (y7 : Int)) (z7 : Int) = AM at *
             obtain ⟨m6, k6⟩ := AM
             clear hAM
             obtain ⟨⟨u6, rfl, O6, A6⟩, b6⟩ := hA6
             obtain ⟨q6, rfl, I6⟩ := ApM.both O6 A6
             simp only at I6 F6
             replace Dc := Dc.below b6
             try replace NZ := NZ.below b6
             rw [el6] at I6
             try rw [el6] at hN7
             have hs6 := b6.size
             have hl6 : bt + 1 ≤ lo6 := by omega
             replace hsz : w5.heap.size ≤ wd'.heap.size := by omega
             obtain ⟨hi6, eh6⟩ : ∃ l, wd'.heap.size = l := ⟨_, rfl⟩
             rw [eh6] at I6
             have hh6 : hi6 ≤ wd'.heap.size := by omega
             clear b6 O6 A6 hs6 el6 eh6
             try clear S8
             try clear E8
             try clear Z8
             generalize wd' = wd at *
             (try go_wp2_with fail)
             refine hK.out _ _ (by first | with_reducible exact Dc.cells | with_reducible exact pDd | with_reducible exact pD | go_keep) (fun hHeld => ?_)
             clear hK K
             try simp only [Act.put, sA, sB, sC]
             refine wpAnyH_take (i := 15) (oi := ⟨some 64, .move (.tmp 79), 103, "l09_mend.go:144", #[⟨14, .data⟩], none⟩) (v := ?_) rfl (by kernel_rfl) (by kernel_rfl) (by kernel_rfl) (fun _ _ _ h => h) (Or.inl ⟨by rfl, ?_⟩) (by assumption) ?_
             rotate_left 1
             ·intro w hSw
              (try dsimp only at hSw)
              first | (go_simp; done) | (go_simp; with_reducible rfl)
             try simp only [Act.put, sA, sB, sC]
             refine wpAnyH_take (i := 16) (oi := ⟨some 80, .extract (.tmp 64) 0, 30, "l09_mend.go:144", #[⟨15, .data⟩], none⟩) (v := ?_) rfl (by kernel_rfl) (by kernel_rfl) (by kernel_rfl) (fun _ _ _ h => h) (Or.inl ⟨by rfl, ?_⟩) (by assumption) ?_
             rotate_left 1
             ·intro w hSw
              (try dsimp only at hSw)
              first | (go_simp; done) | (go_simp; with_reducible rfl)
             try simp only [Act.put, sA, sB, sC]
             refine wpAnyH_take (i := 17) (oi := ⟨some 81, .extract (.tmp 64) 1, 4, "l09_mend.go:144", #[⟨15, .data⟩, { on := 19, ground := Ground.gcOnly Departure.lateStores }], none⟩) (v := ?_) rfl (by kernel_rfl) (by kernel_rfl) (by kernel_rfl) (fun _ _ _ h => h) (Or.inl ⟨by rfl, ?_⟩) (by assumption) ?_
             rotate_left 1
             ·intro w hSw
              (try dsimp only at hSw)
              first | (go_simp; done) | (go_simp; with_reducible rfl)
             try simp only [Act.put, sA, sB, sC]
             refine wpAnyH_ready (rs := [19]) (by kernel_rfl) (by simp) ?_
             refine AllReadyH.cons (o := ⟨none, .store 30 (.tmp 13) (.tmp 80), 0, "l09_mend.go:144", #[⟨18, .data⟩, ⟨16, .data⟩, ⟨14, .chain⟩, ⟨0, .phase⟩, ⟨1, .phase⟩, ⟨2, .phase⟩, ⟨3, .phase⟩, ⟨4, .phase⟩, ⟨5, .phase⟩, ⟨6, .phase⟩, ⟨7, .phase⟩, ⟨8, .phase⟩, ⟨9, .phase⟩, ⟨10, .phase⟩, ⟨11, .phase⟩, ⟨12, .phase⟩, ⟨13, .phase⟩, ⟨14, .phase⟩, ⟨15, .phase⟩, ⟨16, .phase⟩, { on := 17, ground := Ground.textOnly Departure.lateStores }, ⟨18, .phase⟩], none⟩) rfl (fun K hK => ?_) AllReadyH.nil
             obtain ⟨⟨z0, f0⟩, ⟨z1, f1⟩, ⟨z2, f2⟩, ⟨z3, f3⟩, ⟨z4, f4⟩, ⟨z5, f5⟩⟩ : (_ ∧ _) ∧ (_ ∧ _) ∧ (_ ∧ _) ∧ (_ ∧ _) ∧ (_ ∧ _) ∧ (_ ∧ _) := ⟨NZ.2 0 _ rfl, NZ.2 1 _ rfl, NZ.2 2 _ rfl, NZ.2 3 _ rfl, NZ.2 4 _ rfl, NZ.2 5 _ rfl⟩
             go_simp
             have N8 : Hid (k6 = true → bt + 1 ≤ lo6 ∧ fitM m6 ∧ DX _ b7 lo6 hi6 m6 q6) := fun h => ⟨hl6, F6 h, DX.put (I6 h) hh6 NZ (by first | exact .inl hN7 | exact .inr hap)⟩
             replace Dc := Dc.set6 hk ht hw hb7 (by omega) (.int .i64 m6.bye) (.int .i64 m6.epoch) (.slice q6.sa m6.sealed.length q6.sc) (.slice q6.ea m6.seen.length q6.ec) (.bool m6.planned) (.slice q6.wa m6.wrote.length q6.wc)
             clear z0 f0 z1 f1 z2 f2 z3 f3 z4 f4 z5 f5 NZ I6
             refine hK.out _ _ (by first | with_reducible exact Dc.cells | with_reducible exact pDd | with_reducible exact pD | go_keep) (fun hHeld => ?_)
             clear hK K
             try simp only [Act.put, sA, sB, sC]
             refine wpAnyH_take (i := 20) (oi := ⟨some 14, .assign (.tmp 81), 4, "l09_mend.go:144", #[⟨17, .data⟩, ⟨19, .chain⟩, ⟨0, .phase⟩, ⟨1, .phase⟩, ⟨2, .phase⟩, ⟨3, .phase⟩, ⟨4, .phase⟩, ⟨5, .phase⟩, ⟨6, .phase⟩, ⟨7, .phase⟩, ⟨8, .phase⟩, ⟨9, .phase⟩, ⟨10, .phase⟩, ⟨11, .phase⟩, ⟨12, .phase⟩, ⟨13, .phase⟩, ⟨14, .phase⟩, ⟨15, .phase⟩, ⟨16, .phase⟩, ⟨17, .phase⟩, ⟨18, .phase⟩, ⟨19, .phase⟩], none⟩) (v := ?_) rfl (by kernel_rfl) (by kernel_rfl) (by kernel_rfl) (fun _ _ _ h => h) (Or.inl ⟨by rfl, ?_⟩) (by assumption) ?_
             rotate_left 1
             ·intro w hSw
              (try dsimp only at hSw)
              first | (go_simp; done) | (go_simp; with_reducible rfl)
             try simp only [Act.put, sA, sB, sC]
             refine wpAnyH_done (by kernel_rfl) ?_ _
             refine NoPanic.normal ?_
             go_wp2_with fail
             go_meet
             case rel => exact ⟨b7, lo6, hi6, m6, k6, q6, rfl, rfl, hb7, N8, Dc⟩
           ·go_simp
            have NZ := BxZ.new (B := 0) wd [.int .i64 0, .int .i64 0, .slice none 0 0, .slice none 0 0, .bool false, .slice none 0 0] 30 (Nat.zero_le _)
            have es7 : (wd.alloc (.cells #[.int .i64 0, .int .i64 0, .slice none 0 0, .slice none 0 0, .bool false, .slice none 0 0] 30)).heap.size = wd.heap.size + 1 := by simp
            replace Dc := Dc.below (ba wd (.cells #[.int .i64 0, .int .i64 0, .slice none 0 0, .slice none 0 0, .bool false, .slice none 0 0] 30))
            try replace S8 := S8.below (ba wd (.cells #[.int .i64 0, .int .i64 0, .slice none 0 0, .slice none 0 0, .bool false, .slice none 0 0] 30))
            try replace E8 := Rw.below E8 (ba wd (.cells #[.int .i64 0, .int .i64 0, .slice none 0 0, .slice none 0 0, .bool false, .slice none 0 0] 30))
            try replace Z8 := Z8.below (ba wd (.cells #[.int .i64 0, .int .i64 0, .slice none 0 0, .slice none 0 0, .bool false, .slice none 0 0] 30))
            try (have hap : hi6 ≤ wd.heap.size := hh6)
            try (replace I6 := fun h => ownBelow (I6 h) hh6 (ba wd (.cells #[.int .i64 0, .int .i64 0, .slice none 0 0, .slice none 0 0, .bool false, .slice none 0 0] 30)))
            try (replace hh6 : hi6 ≤ (wd.alloc (.cells #[.int .i64 0, .int .i64 0, .slice none 0 0, .slice none 0 0, .bool false, .slice none 0 0] 30)).heap.size := by omega)
            have hb7 : w5.heap.size ≤ wd.heap.size := hsz
            replace hsz : w5.heap.size ≤ (wd.alloc (.cells #[.int .i64 0, .int .i64 0, .slice none 0 0, .slice none 0 0, .bool false, .slice none 0 0] 30)).heap.size := by omega
            clear es7
            generalize wd.heap.size = b7 at *
            generalize wd.alloc (.cells #[.int .i64 0, .int .i64 0, .slice none 0 0, .slice none 0 0, .bool false, .slice none 0 0] 30) = wd at *
            refine hK.out _ _ (by first | with_reducible exact Dc.cells | with_reducible exact pDd | with_reducible exact pD | go_keep) (fun hHeld => ?_)
            clear hK K
            try simp only [Act.put, sA, sB, sC]
            refine wpAnyH_ready (rs := [13]) (by kernel_rfl) (by simp) ?_
            refine AllReadyH.cons (o := ⟨some 78, .call ⟨.value (.func 39), #[.tmp 74, .tmp 77], #[52, 3]⟩, 3, "l09_mend.go:144", #[⟨9, .data⟩, ⟨12, .data⟩, ⟨7, .chain⟩], none⟩) rfl (fun K hK => ?_) AllReadyH.nil
            go_simp
            refine (l1Below_le bk ds.length (by omega) wd Dc.cur).mono ?_
            rintro e wd ⟨⟨z7, hz7, rfl⟩, hc7, hd7⟩
            replace Dc := Dc.move hk ht hne hc7 hd7
            try replace NZ := NZ.drawn hd7 (by omega)
            replace hsz : w5.heap.size ≤ wd.heap.size := Nat.le_trans hsz hd7.size
            clear hc7 hd7
            (try go_wp2_with fail)
            refine hK.out _ _ (by first | with_reducible exact Dc.cells | with_reducible exact pDd | with_reducible exact pD | go_keep) (fun hHeld => ?_)
            clear hK K
            try simp only [Act.put, sA, sB, sC]
            refine wpAnyH_ready (rs := [14]) (by kernel_rfl) (by simp) ?_
            refine AllReadyH.cons (o := ⟨some 79, .call ⟨.value (.func 83), #[.tmp 65, .tmp 66, .tmp 73, .tmp 78], #[26, 30, 3, 3]⟩, 103, "l09_mend.go:144", #[⟨0, .data⟩, ⟨1, .data⟩, ⟨8, .data⟩, ⟨13, .data⟩, ⟨13, .chain⟩], none⟩) rfl (fun K hK => ?_) AllReadyH.nil
            go_simp
            have C6 := dUnhide CP wd Dc y7 z7 (by omega) (by omega)
            try (have hN7 := NZ.lt)
            refine C6.mono ?_
            clear C6
            obtain ⟨lo6, el6⟩ : ∃ l, wd.heap.size = l := ⟨_, rfl⟩
            have F6 := fun h => fitM.acked9 (ds := ds) (cop := cop) (m := m) (off := 1 + (y7 : Int)) (x := (z7 : Int)) ⟨by omega, by omega⟩ h
            intro e wd' hA6
            generalize hAM : ack9M ds cop m (1 + (y7 : Int)) (z7 : Int) = AM at *
            obtain ⟨m6, k6⟩ := AM
            clear hAM
            obtain ⟨⟨u6, rfl, O6, A6⟩, b6⟩ := hA6
            obtain ⟨q6, rfl, I6⟩ := ApM.both O6 A6
            simp only at I6 F6
            replace Dc := Dc.below b6
            try replace NZ := NZ.below b6
            rw [el6] at I6
            try rw [el6] at hN7
            have hs6 := b6.size
            have hl6 : bt + 1 ≤ lo6 := by omega
            replace hsz : w5.heap.size ≤ wd'.heap.size := by omega
            obtain ⟨hi6, eh6⟩ : ∃ l, wd'.heap.size = l := ⟨_, rfl⟩
            rw [eh6] at I6
            have hh6 : hi6 ≤ wd'.heap.size := by omega
            clear b6 O6 A6 hs6 el6 eh6
            try clear S8
            try clear E8
            try clear Z8
            generalize wd' = wd at *
            (try go_wp2_with fail)
            refine hK.out _ _ (by first | with_reducible exact Dc.cells | with_reducible exact pDd | with_reducible exact pD | go_keep) (fun hHeld => ?_)
            clear hK K
            try simp only [Act.put, sA, sB, sC]
            refine wpAnyH_take (i := 15) (oi := ⟨some 64, .move (.tmp 79), 103, "l09_mend.go:144", #[⟨14, .data⟩], none⟩) (v := ?_) rfl (by kernel_rfl) (by kernel_rfl) (by kernel_rfl) (fun _ _ _ h => h) (Or.inl ⟨by rfl, ?_⟩) (by assumption) ?_
            rotate_left 1
            ·intro w hSw
             (try dsimp only at hSw)
             first | (go_simp; done) | (go_simp; with_reducible rfl)
            try simp only [Act.put, sA, sB, sC]
            refine wpAnyH_take (i := 16) (oi := ⟨some 80, .extract (.tmp 64) 0, 30, "l09_mend.go:144", #[⟨15, .data⟩], none⟩) (v := ?_) rfl (by kernel_rfl) (by kernel_rfl) (by kernel_rfl) (fun _ _ _ h => h) (Or.inl ⟨by rfl, ?_⟩) (by assumption) ?_
            rotate_left 1
            ·intro w hSw
             (try dsimp only at hSw)
             first | (go_simp; done) | (go_simp; with_reducible rfl)
            try simp only [Act.put, sA, sB, sC]
            refine wpAnyH_take (i := 17) (oi := ⟨some 81, .extract (.tmp 64) 1, 4, "l09_mend.go:144", #[⟨15, .data⟩, { on := 19, ground := Ground.gcOnly Departure.lateStores }], none⟩) (v := ?_) rfl (by kernel_rfl) (by kernel_rfl) (by kernel_rfl) (fun _ _ _ h => h) (Or.inl ⟨by rfl, ?_⟩) (by assumption) ?_
            rotate_left 1
            ·intro w hSw
             (try dsimp only at hSw)
             first | (go_simp; done) | (go_simp; with_reducible rfl)
            try simp only [Act.put, sA, sB, sC]
            refine wpAnyH_ready (rs := [19]) (by kernel_rfl) (by simp) ?_
            refine AllReadyH.cons (o := ⟨none, .store 30 (.tmp 13) (.tmp 80), 0, "l09_mend.go:144", #[⟨18, .data⟩, ⟨16, .data⟩, ⟨14, .chain⟩, ⟨0, .phase⟩, ⟨1, .phase⟩, ⟨2, .phase⟩, ⟨3, .phase⟩, ⟨4, .phase⟩, ⟨5, .phase⟩, ⟨6, .phase⟩, ⟨7, .phase⟩, ⟨8, .phase⟩, ⟨9, .phase⟩, ⟨10, .phase⟩, ⟨11, .phase⟩, ⟨12, .phase⟩, ⟨13, .phase⟩, ⟨14, .phase⟩, ⟨15, .phase⟩, ⟨16, .phase⟩, { on := 17, ground := Ground.textOnly Departure.lateStores }, ⟨18, .phase⟩], none⟩) rfl (fun K hK => ?_) AllReadyH.nil
            obtain ⟨⟨z0, f0⟩, ⟨z1, f1⟩, ⟨z2, f2⟩, ⟨z3, f3⟩, ⟨z4, f4⟩, ⟨z5, f5⟩⟩ : (_ ∧ _) ∧ (_ ∧ _) ∧ (_ ∧ _) ∧ (_ ∧ _) ∧ (_ ∧ _) ∧ (_ ∧ _) := ⟨NZ.2 0 _ rfl, NZ.2 1 _ rfl, NZ.2 2 _ rfl, NZ.2 3 _ rfl, NZ.2 4 _ rfl, NZ.2 5 _ rfl⟩
            go_simp
            have N8 : Hid (k6 = true → bt + 1 ≤ lo6 ∧ fitM m6 ∧ DX _ b7 lo6 hi6 m6 q6) := fun h => ⟨hl6, F6 h, DX.put (I6 h) hh6 NZ (by first | exact .inl hN7 | exact .inr hap)⟩
            replace Dc := Dc.set6 hk ht hw hb7 (by omega) (.int .i64 m6.bye) (.int .i64 m6.epoch) (.slice q6.sa m6.sealed.length q6.sc) (.slice q6.ea m6.seen.length q6.ec) (.bool m6.planned) (.slice q6.wa m6.wrote.length q6.wc)
            clear z0 f0 z1 f1 z2 f2 z3 f3 z4 f4 z5 f5 NZ I6
            refine hK.out _ _ (by first | with_reducible exact Dc.cells | with_reducible exact pDd | with_reducible exact pD | go_keep) (fun hHeld => ?_)
            clear hK K
            try simp only [Act.put, sA, sB, sC]
            refine wpAnyH_take (i := 20) (oi := ⟨some 14, .assign (.tmp 81), 4, "l09_mend.go:144", #[⟨17, .data⟩, ⟨19, .chain⟩, ⟨0, .phase⟩, ⟨1, .phase⟩, ⟨2, .phase⟩, ⟨3, .phase⟩, ⟨4, .phase⟩, ⟨5, .phase⟩, ⟨6, .phase⟩, ⟨7, .phase⟩, ⟨8, .phase⟩, ⟨9, .phase⟩, ⟨10, .phase⟩, ⟨11, .phase⟩, ⟨12, .phase⟩, ⟨13, .phase⟩, ⟨14, .phase⟩, ⟨15, .phase⟩, ⟨16, .phase⟩, ⟨17, .phase⟩, ⟨18, .phase⟩, ⟨19, .phase⟩], none⟩) (v := ?_) rfl (by kernel_rfl) (by kernel_rfl) (by kernel_rfl) (fun _ _ _ h => h) (Or.inl ⟨by rfl, ?_⟩) (by assumption) ?_
            rotate_left 1
            ·intro w hSw
             (try dsimp only at hSw)
             first | (go_simp; done) | (go_simp; with_reducible rfl)
            try simp only [Act.put, sA, sB, sC]
            refine wpAnyH_done (by kernel_rfl) ?_ _
            refine NoPanic.normal ?_
            go_wp2_with fail
            go_meet
            case rel => exact ⟨b7, lo6, hi6, m6, k6, q6, rfl, rfl, hb7, N8, Dc⟩
          ·go_simp
           have NZ := BxZ.new (B := 0) wd [.int .i64 0, .int .i64 0, .slice none 0 0, .slice none 0 0, .bool false, .slice none 0 0] 30 (Nat.zero_le _)
           have es7 : (wd.alloc (.cells #[.int .i64 0, .int .i64 0, .slice none 0 0, .slice none 0 0, .bool false, .slice none 0 0] 30)).heap.size = wd.heap.size + 1 := by simp
           replace Dc := Dc.below (ba wd (.cells #[.int .i64 0, .int .i64 0, .slice none 0 0, .slice none 0 0, .bool false, .slice none 0 0] 30))
           try replace S8 := S8.below (ba wd (.cells #[.int .i64 0, .int .i64 0, .slice none 0 0, .slice none 0 0, .bool false, .slice none 0 0] 30))
           try replace E8 := Rw.below E8 (ba wd (.cells #[.int .i64 0, .int .i64 0, .slice none 0 0, .slice none 0 0, .bool false, .slice none 0 0] 30))
           try replace Z8 := Z8.below (ba wd (.cells #[.int .i64 0, .int .i64 0, .slice none 0 0, .slice none 0 0, .bool false, .slice none 0 0] 30))
           try (have hap : hi6 ≤ wd.heap.size := hh6)
           try (replace I6 := fun h => ownBelow (I6 h) hh6 (ba wd (.cells #[.int .i64 0, .int .i64 0, .slice none 0 0, .slice none 0 0, .bool false, .slice none 0 0] 30)))
           try (replace hh6 : hi6 ≤ (wd.alloc (.cells #[.int .i64 0, .int .i64 0, .slice none 0 0, .slice none 0 0, .bool false, .slice none 0 0] 30)).heap.size := by omega)
           have hb7 : w5.heap.size ≤ wd.heap.size := hsz
           replace hsz : w5.heap.size ≤ (wd.alloc (.cells #[.int .i64 0, .int .i64 0, .slice none 0 0, .slice none 0 0, .bool false, .slice none 0 0] 30)).heap.size := by omega
           clear es7
           generalize wd.heap.size = b7 at *
           generalize wd.alloc (.cells #[.int .i64 0, .int .i64 0, .slice none 0 0, .slice none 0 0, .bool false, .slice none 0 0] 30) = wd at *
           refine hK.out _ _ (by first | with_reducible exact Dc.cells | with_reducible exact pDd | with_reducible exact pD | go_keep) (fun hHeld => ?_)
           clear hK K
           try simp only [Act.put, sA, sB, sC]
           refine wpAnyH_ready (rs := [7]) (by kernel_rfl) (by simp) ?_
           refine AllReadyH.cons (o := ⟨some 72, .call ⟨.value (.func 39), #[.tmp 67, .tmp 71], #[52, 3]⟩, 3, "l09_mend.go:144", #[⟨2, .data⟩, ⟨6, .data⟩, ⟨6, .chain⟩], none⟩) rfl (fun K hK => ?_) AllReadyH.nil
           go_simp
           refine (l1Below_any bk (max m.wrote.length 1) (by omega) (by omega) wd Dc.cur).mono ?_
           rintro e wd ⟨⟨y7, hy7, rfl⟩, hc7, hd7⟩
           replace Dc := Dc.move hk ht hne hc7 hd7
           try replace NZ := NZ.drawn hd7 (by omega)
           replace hsz : w5.heap.size ≤ wd.heap.size := Nat.le_trans hsz hd7.size
           have hwy : IntKind.i64.wrap (1 + (y7 : Int)) = 1 + (y7 : Int) := by rw [IntKind.wrap_i64]; omega
           clear hc7 hd7
           (try go_wp2_with fail)
           refine hK.out _ _ (by first | with_reducible exact Dc.cells | with_reducible exact pDd | with_reducible exact pD | go_keep) (fun hHeld => ?_)
           clear hK K
           try simp only [Act.put, sA, sB, sC]
           refine wpAnyH_take (i := 8) (oi := ⟨some 73, .binOp .add 3 (.const (.int .i64 1)) (.tmp 72) 3, 3, "l09_mend.go:144", #[⟨7, .data⟩], none⟩) (v := ?_) rfl (by kernel_rfl) (by kernel_rfl) (by kernel_rfl) (fun _ _ _ h => h) (Or.inl ⟨by rfl, ?_⟩) (by assumption) ?_
           rotate_left 1
           ·intro w hSw
            (try dsimp only at hSw)
            first | (go_simp; done) | (go_simp; with_reducible rfl)
           try simp only [Act.put, sA, sB, sC]
           refine wpAnyH_ready (rs := [13]) (by kernel_rfl) (by simp) ?_
           refine AllReadyH.cons (o := ⟨some 78, .call ⟨.value (.func 39), #[.tmp 74, .tmp 77], #[52, 3]⟩, 3, "l09_mend.go:144", #[⟨9, .data⟩, ⟨12, .data⟩, ⟨7, .chain⟩], none⟩) rfl (fun K hK => ?_) AllReadyH.nil
           go_simp
           refine (l1Below_le bk ds.length (by omega) wd Dc.cur).mono ?_
           rintro e wd ⟨⟨z7, hz7, rfl⟩, hc7, hd7⟩
           replace Dc := Dc.move hk ht hne hc7 hd7
           try replace NZ := NZ.drawn hd7 (by omega)
           replace hsz : w5.heap.size ≤ wd.heap.size := Nat.le_trans hsz hd7.size
           clear hc7 hd7
           (try go_wp2_with fail)
           refine hK.out _ _ (by first | with_reducible exact Dc.cells | with_reducible exact pDd | with_reducible exact pD | go_keep) (fun hHeld => ?_)
           clear hK K
           try simp only [Act.put, sA, sB, sC]
           refine wpAnyH_ready (rs := [14]) (by kernel_rfl) (by simp) ?_
           refine AllReadyH.cons (o := ⟨some 79, .call ⟨.value (.func 83), #[.tmp 65, .tmp 66, .tmp 73, .tmp 78], #[26, 30, 3, 3]⟩, 103, "l09_mend.go:144", #[⟨0, .data⟩, ⟨1, .data⟩, ⟨8, .data⟩, ⟨13, .data⟩, ⟨13, .chain⟩], none⟩) rfl (fun K hK => ?_) AllReadyH.nil
           go_simp
           have C6 := dUnhide CP wd Dc y7 z7 (by omega) (by omega)
           try (have hN7 := NZ.lt)
           refine C6.mono ?_
           clear C6
           obtain ⟨lo6, el6⟩ : ∃ l, wd.heap.size = l := ⟨_, rfl⟩
           have F6 := fun h => fitM.acked9 (ds := ds) (cop := cop) (m := m) (off := 1 + (y7 : Int)) (x := (z7 : Int)) ⟨by omega, by omega⟩ h
           intro e wd' hA6
           generalize hAM : ack9M ds cop m (1 + (y7 : Int)) (z7 : Int) = AM at *
           obtain ⟨m6, k6⟩ := AM
           clear hAM
           obtain ⟨⟨u6, rfl, O6, A6⟩, b6⟩ := hA6
           obtain ⟨q6, rfl, I6⟩ := ApM.both O6 A6
           simp only at I6 F6
           replace Dc := Dc.below b6
           try replace NZ := NZ.below b6
           rw [el6] at I6
           try rw [el6] at hN7
           have hs6 := b6.size
           have hl6 : bt + 1 ≤ lo6 := by omega
           replace hsz : w5.heap.size ≤ wd'.heap.size := by omega
           obtain ⟨hi6, eh6⟩ : ∃ l, wd'.heap.size = l := ⟨_, rfl⟩
           rw [eh6] at I6
           have hh6 : hi6 ≤ wd'.heap.size := by omega
           clear b6 O6 A6 hs6 el6 eh6
           try clear S8
           try clear E8
           try clear Z8
           generalize wd' = wd at *
           (try go_wp2_with fail)
           refine hK.out _ _ (by first | with_reducible exact Dc.cells | with_reducible exact pDd | with_reducible exact pD | go_keep) (fun hHeld => ?_)
           clear hK K
           try simp only [Act.put, sA, sB, sC]
           refine wpAnyH_take (i := 15) (oi := ⟨some 64, .move (.tmp 79), 103, "l09_mend.go:144", #[⟨14, .data⟩], none⟩) (v := ?_) rfl (by kernel_rfl) (by kernel_rfl) (by kernel_rfl) (fun _ _ _ h => h) (Or.inl ⟨by rfl, ?_⟩) (by assumption) ?_
           rotate_left 1
           ·intro w hSw
            (try dsimp only at hSw)
            first | (go_simp; done) | (go_simp; with_reducible rfl)
           try simp only [Act.put, sA, sB, sC]
           refine wpAnyH_take (i := 16) (oi := ⟨some 80, .extract (.tmp 64) 0, 30, "l09_mend.go:144", #[⟨15, .data⟩], none⟩) (v := ?_) rfl (by kernel_rfl) (by kernel_rfl) (by kernel_rfl) (fun _ _ _ h => h) (Or.inl ⟨by rfl, ?_⟩) (by assumption) ?_
           rotate_left 1
           ·intro w hSw
            (try dsimp only at hSw)
            first | (go_simp; done) | (go_simp; with_reducible rfl)
           try simp only [Act.put, sA, sB, sC]
           refine wpAnyH_take (i := 17) (oi := ⟨some 81, .extract (.tmp 64) 1, 4, "l09_mend.go:144", #[⟨15, .data⟩, { on := 19, ground := Ground.gcOnly Departure.lateStores }], none⟩) (v := ?_) rfl (by kernel_rfl) (by kernel_rfl) (by kernel_rfl) (fun _ _ _ h => h) (Or.inl ⟨by rfl, ?_⟩) (by assumption) ?_
           rotate_left 1
           ·intro w hSw
            (try dsimp only at hSw)
            first | (go_simp; done) | (go_simp; with_reducible rfl)
           try simp only [Act.put, sA, sB, sC]
           refine wpAnyH_ready (rs := [19]) (by kernel_rfl) (by simp) ?_
           refine AllReadyH.cons (o := ⟨none, .store 30 (.tmp 13) (.tmp 80), 0, "l09_mend.go:144", #[⟨18, .data⟩, ⟨16, .data⟩, ⟨14, .chain⟩, ⟨0, .phase⟩, ⟨1, .phase⟩, ⟨2, .phase⟩, ⟨3, .phase⟩, ⟨4, .phase⟩, ⟨5, .phase⟩, ⟨6, .phase⟩, ⟨7, .phase⟩, ⟨8, .phase⟩, ⟨9, .phase⟩, ⟨10, .phase⟩, ⟨11, .phase⟩, ⟨12, .phase⟩, ⟨13, .phase⟩, ⟨14, .phase⟩, ⟨15, .phase⟩, ⟨16, .phase⟩, { on := 17, ground := Ground.textOnly Departure.lateStores }, ⟨18, .phase⟩], none⟩) rfl (fun K hK => ?_) AllReadyH.nil
           obtain ⟨⟨z0, f0⟩, ⟨z1, f1⟩, ⟨z2, f2⟩, ⟨z3, f3⟩, ⟨z4, f4⟩, ⟨z5, f5⟩⟩ : (_ ∧ _) ∧ (_ ∧ _) ∧ (_ ∧ _) ∧ (_ ∧ _) ∧ (_ ∧ _) ∧ (_ ∧ _) := ⟨NZ.2 0 _ rfl, NZ.2 1 _ rfl, NZ.2 2 _ rfl, NZ.2 3 _ rfl, NZ.2 4 _ rfl, NZ.2 5 _ rfl⟩
           go_simp
           have N8 : Hid (k6 = true → bt + 1 ≤ lo6 ∧ fitM m6 ∧ DX _ b7 lo6 hi6 m6 q6) := fun h => ⟨hl6, F6 h, DX.put (I6 h) hh6 NZ (by first | exact .inl hN7 | exact .inr hap)⟩
           replace Dc := Dc.set6 hk ht hw hb7 (by omega) (.int .i64 m6.bye) (.int .i64 m6.epoch) (.slice q6.sa m6.sealed.length q6.sc) (.slice q6.ea m6.seen.length q6.ec) (.bool m6.planned) (.slice q6.wa m6.wrote.length q6.wc)
           clear z0 f0 z1 f1 z2 f2 z3 f3 z4 f4 z5 f5 NZ I6
           refine hK.out _ _ (by first | with_reducible exact Dc.cells | with_reducible exact pDd | with_reducible exact pD | go_keep) (fun hHeld => ?_)
           clear hK K
           try simp only [Act.put, sA, sB, sC]
           refine wpAnyH_take (i := 20) (oi := ⟨some 14, .assign (.tmp 81), 4, "l09_mend.go:144", #[⟨17, .data⟩, ⟨19, .chain⟩, ⟨0, .phase⟩, ⟨1, .phase⟩, ⟨2, .phase⟩, ⟨3, .phase⟩, ⟨4, .phase⟩, ⟨5, .phase⟩, ⟨6, .phase⟩, ⟨7, .phase⟩, ⟨8, .phase⟩, ⟨9, .phase⟩, ⟨10, .phase⟩, ⟨11, .phase⟩, ⟨12, .phase⟩, ⟨13, .phase⟩, ⟨14, .phase⟩, ⟨15, .phase⟩, ⟨16, .phase⟩, ⟨17, .phase⟩, ⟨18, .phase⟩, ⟨19, .phase⟩], none⟩) (v := ?_) rfl (by kernel_rfl) (by kernel_rfl) (by kernel_rfl) (fun _ _ _ h => h) (Or.inl ⟨by rfl, ?_⟩) (by assumption) ?_
           rotate_left 1
           ·intro w hSw
            (try dsimp only at hSw)
            first | (go_simp; done) | (go_simp; with_reducible rfl)
           try simp only [Act.put, sA, sB, sC]
           refine wpAnyH_done (by kernel_rfl) ?_ _
           refine NoPanic.normal ?_
           go_wp2_with fail
           go_meet
           case rel => exact ⟨b7, lo6, hi6, m6, k6, q6, rfl, rfl, hb7, N8, Dc⟩
         ·go_simp
          have NZ := BxZ.new (B := 0) wd [.int .i64 0, .int .i64 0, .slice none 0 0, .slice none 0 0, .bool false, .slice none 0 0] 30 (Nat.zero_le _)
          have es7 : (wd.alloc (.cells #[.int .i64 0, .int .i64 0, .slice none 0 0, .slice none 0 0, .bool false, .slice none 0 0] 30)).heap.size = wd.heap.size + 1 := by simp
          replace Dc := Dc.below (ba wd (.cells #[.int .i64 0, .int .i64 0, .slice none 0 0, .slice none 0 0, .bool false, .slice none 0 0] 30))
          try replace S8 := S8.below (ba wd (.cells #[.int .i64 0, .int .i64 0, .slice none 0 0, .slice none 0 0, .bool false, .slice none 0 0] 30))
          try replace E8 := Rw.below E8 (ba wd (.cells #[.int .i64 0, .int .i64 0, .slice none 0 0, .slice none 0 0, .bool false, .slice none 0 0] 30))
          try replace Z8 := Z8.below (ba wd (.cells #[.int .i64 0, .int .i64 0, .slice none 0 0, .slice none 0 0, .bool false, .slice none 0 0] 30))
          try (have hap : hi6 ≤ wd.heap.size := hh6)
          try (replace I6 := fun h => ownBelow (I6 h) hh6 (ba wd (.cells #[.int .i64 0, .int .i64 0, .slice none 0 0, .slice none 0 0, .bool false, .slice none 0 0] 30)))
          try (replace hh6 : hi6 ≤ (wd.alloc (.cells #[.int .i64 0, .int .i64 0, .slice none 0 0, .slice none 0 0, .bool false, .slice none 0 0] 30)).heap.size := by omega)
          have hb7 : w5.heap.size ≤ wd.heap.size := hsz
          replace hsz : w5.heap.size ≤ (wd.alloc (.cells #[.int .i64 0, .int .i64 0, .slice none 0 0, .slice none 0 0, .bool false, .slice none 0 0] 30)).heap.size := by omega
          clear es7
          generalize wd.heap.size = b7 at *
          generalize wd.alloc (.cells #[.int .i64 0, .int .i64 0, .slice none 0 0, .slice none 0 0, .bool false, .slice none 0 0] 30) = wd at *
          refine hK.out _ _ (by first | with_reducible exact Dc.cells | with_reducible exact pDd | with_reducible exact pD | go_keep) (fun hHeld => ?_)
          clear hK K
          try simp only [Act.put, sA, sB, sC]
          refine wpAnyH_ready (rs := [6]) (by kernel_rfl) (by simp) ?_
          refine AllReadyH.cons (o := ⟨some 71, .call ⟨.value (.func 84), #[.tmp 70, .const (.int .i64 1)], #[3, 3]⟩, 3, "l09_mend.go:144", #[⟨5, .data⟩], none⟩) rfl (fun K hK => ?_) AllReadyH.nil
          go_simp
          refine (l1Max_one m.wrote.length wd).mono ?_
          rintro e wd ⟨rfl, rfl⟩
          (try go_wp2_with fail)
          refine hK.out _ _ (by first | with_reducible exact Dc.cells | with_reducible exact pDd | with_reducible exact pD | go_keep) (fun hHeld => ?_)
          clear hK K
          try simp only [Act.put, sA, sB, sC]
          refine wpAnyH_ready (rs := [7]) (by kernel_rfl) (by simp) ?_
          refine AllReadyH.cons (o := ⟨some 72, .call ⟨.value (.func 39), #[.tmp 67, .tmp 71], #[52, 3]⟩, 3, "l09_mend.go:144", #[⟨2, .data⟩, ⟨6, .data⟩, ⟨6, .chain⟩], none⟩) rfl (fun K hK => ?_) AllReadyH.nil
          go_simp
          refine (l1Below_any bk (max m.wrote.length 1) (by omega) (by omega) wd Dc.cur).mono ?_
          rintro e wd ⟨⟨y7, hy7, rfl⟩, hc7, hd7⟩
          replace Dc := Dc.move hk ht hne hc7 hd7
          try replace NZ := NZ.drawn hd7 (by omega)
          replace hsz : w5.heap.size ≤ wd.heap.size := Nat.le_trans hsz hd7.size
          have hwy : IntKind.i64.wrap (1 + (y7 : Int)) = 1 + (y7 : Int) := by rw [IntKind.wrap_i64]; omega
          clear hc7 hd7
          (try go_wp2_with fail)
          refine hK.out _ _ (by first | with_reducible exact Dc.cells | with_reducible exact pDd | with_reducible exact pD | go_keep) (fun hHeld => ?_)
          clear hK K
          try simp only [Act.put, sA, sB, sC]
          refine wpAnyH_take (i := 8) (oi := ⟨some 73, .binOp .add 3 (.const (.int .i64 1)) (.tmp 72) 3, 3, "l09_mend.go:144", #[⟨7, .data⟩], none⟩) (v := ?_) rfl (by kernel_rfl) (by kernel_rfl) (by kernel_rfl) (fun _ _ _ h => h) (Or.inl ⟨by rfl, ?_⟩) (by assumption) ?_
          rotate_left 1
          ·intro w hSw
           (try dsimp only at hSw)
           first | (go_simp; done) | (go_simp; with_reducible rfl)
          try simp only [Act.put, sA, sB, sC]
          refine wpAnyH_ready (rs := [13]) (by kernel_rfl) (by simp) ?_
          refine AllReadyH.cons (o := ⟨some 78, .call ⟨.value (.func 39), #[.tmp 74, .tmp 77], #[52, 3]⟩, 3, "l09_mend.go:144", #[⟨9, .data⟩, ⟨12, .data⟩, ⟨7, .chain⟩], none⟩) rfl (fun K hK => ?_) AllReadyH.nil
          go_simp
          refine (l1Below_le bk ds.length (by omega) wd Dc.cur).mono ?_
          rintro e wd ⟨⟨z7, hz7, rfl⟩, hc7, hd7⟩
          replace Dc := Dc.move hk ht hne hc7 hd7
          try replace NZ := NZ.drawn hd7 (by omega)
          replace hsz : w5.heap.size ≤ wd.heap.size := Nat.le_trans hsz hd7.size
          clear hc7 hd7
          (try go_wp2_with fail)
          refine hK.out _ _ (by first | with_reducible exact Dc.cells | with_reducible exact pDd | with_reducible exact pD | go_keep) (fun hHeld => ?_)
          clear hK K
          try simp only [Act.put, sA, sB, sC]
          refine wpAnyH_ready (rs := [14]) (by kernel_rfl) (by simp) ?_
          refine AllReadyH.cons (o := ⟨some 79, .call ⟨.value (.func 83), #[.tmp 65, .tmp 66, .tmp 73, .tmp 78], #[26, 30, 3, 3]⟩, 103, "l09_mend.go:144", #[⟨0, .data⟩, ⟨1, .data⟩, ⟨8, .data⟩, ⟨13, .data⟩, ⟨13, .chain⟩], none⟩) rfl (fun K hK => ?_) AllReadyH.nil
          go_simp
          have C6 := dUnhide CP wd Dc y7 z7 (by omega) (by omega)
          try (have hN7 := NZ.lt)
          refine C6.mono ?_
          clear C6
          obtain ⟨lo6, el6⟩ : ∃ l, wd.heap.size = l := ⟨_, rfl⟩
          have F6 := fun h => fitM.acked9 (ds := ds) (cop := cop) (m := m) (off := 1 + (y7 : Int)) (x := (z7 : Int)) ⟨by omega, by omega⟩ h
          intro e wd' hA6
          generalize hAM : ack9M ds cop m (1 + (y7 : Int)) (z7 : Int) = AM at *
          obtain ⟨m6, k6⟩ := AM
          clear hAM
          obtain ⟨⟨u6, rfl, O6, A6⟩, b6⟩ := hA6
          obtain ⟨q6, rfl, I6⟩ := ApM.both O6 A6
          simp only at I6 F6
          replace Dc := Dc.below b6
          try replace NZ := NZ.below b6
          rw [el6] at I6
          try rw [el6] at hN7
          have hs6 := b6.size
          have hl6 : bt + 1 ≤ lo6 := by omega
          replace hsz : w5.heap.size ≤ wd'.heap.size := by omega
          obtain ⟨hi6, eh6⟩ : ∃ l, wd'.heap.size = l := ⟨_, rfl⟩
          rw [eh6] at I6
          have hh6 : hi6 ≤ wd'.heap.size := by omega
          clear b6 O6 A6 hs6 el6 eh6
          try clear S8
          try clear E8
          try clear Z8
          generalize wd' = wd at *
          (try go_wp2_with fail)
          refine hK.out _ _ (by first | with_reducible exact Dc.cells | with_reducible exact pDd | with_reducible exact pD | go_keep) (fun hHeld => ?_)
          clear hK K
          try simp only [Act.put, sA, sB, sC]
          refine wpAnyH_take (i := 15) (oi := ⟨some 64, .move (.tmp 79), 103, "l09_mend.go:144", #[⟨14, .data⟩], none⟩) (v := ?_) rfl (by kernel_rfl) (by kernel_rfl) (by kernel_rfl) (fun _ _ _ h => h) (Or.inl ⟨by rfl, ?_⟩) (by assumption) ?_
          rotate_left 1
          ·intro w hSw
           (try dsimp only at hSw)
           first | (go_simp; done) | (go_simp; with_reducible rfl)
          try simp only [Act.put, sA, sB, sC]
          refine wpAnyH_take (i := 16) (oi := ⟨some 80, .extract (.tmp 64) 0, 30, "l09_mend.go:144", #[⟨15, .data⟩], none⟩) (v := ?_) rfl (by kernel_rfl) (by kernel_rfl) (by kernel_rfl) (fun _ _ _ h => h) (Or.inl ⟨by rfl, ?_⟩) (by assumption) ?_
          rotate_left 1
          ·intro w hSw
           (try dsimp only at hSw)
           first | (go_simp; done) | (go_simp; with_reducible rfl)
          try simp only [Act.put, sA, sB, sC]
          refine wpAnyH_take (i := 17) (oi := ⟨some 81, .extract (.tmp 64) 1, 4, "l09_mend.go:144", #[⟨15, .data⟩, { on := 19, ground := Ground.gcOnly Departure.lateStores }], none⟩) (v := ?_) rfl (by kernel_rfl) (by kernel_rfl) (by kernel_rfl) (fun _ _ _ h => h) (Or.inl ⟨by rfl, ?_⟩) (by assumption) ?_
          rotate_left 1
          ·intro w hSw
           (try dsimp only at hSw)
           first | (go_simp; done) | (go_simp; with_reducible rfl)
          try simp only [Act.put, sA, sB, sC]
          refine wpAnyH_ready (rs := [19]) (by kernel_rfl) (by simp) ?_
          refine AllReadyH.cons (o := ⟨none, .store 30 (.tmp 13) (.tmp 80), 0, "l09_mend.go:144", #[⟨18, .data⟩, ⟨16, .data⟩, ⟨14, .chain⟩, ⟨0, .phase⟩, ⟨1, .phase⟩, ⟨2, .phase⟩, ⟨3, .phase⟩, ⟨4, .phase⟩, ⟨5, .phase⟩, ⟨6, .phase⟩, ⟨7, .phase⟩, ⟨8, .phase⟩, ⟨9, .phase⟩, ⟨10, .phase⟩, ⟨11, .phase⟩, ⟨12, .phase⟩, ⟨13, .phase⟩, ⟨14, .phase⟩, ⟨15, .phase⟩, ⟨16, .phase⟩, { on := 17, ground := Ground.textOnly Departure.lateStores }, ⟨18, .phase⟩], none⟩) rfl (fun K hK => ?_) AllReadyH.nil
          obtain ⟨⟨z0, f0⟩, ⟨z1, f1⟩, ⟨z2, f2⟩, ⟨z3, f3⟩, ⟨z4, f4⟩, ⟨z5, f5⟩⟩ : (_ ∧ _) ∧ (_ ∧ _) ∧ (_ ∧ _) ∧ (_ ∧ _) ∧ (_ ∧ _) ∧ (_ ∧ _) := ⟨NZ.2 0 _ rfl, NZ.2 1 _ rfl, NZ.2 2 _ rfl, NZ.2 3 _ rfl, NZ.2 4 _ rfl, NZ.2 5 _ rfl⟩
          go_simp
          have N8 : Hid (k6 = true → bt + 1 ≤ lo6 ∧ fitM m6 ∧ DX _ b7 lo6 hi6 m6 q6) := fun h => ⟨hl6, F6 h, DX.put (I6 h) hh6 NZ (by first | exact .inl hN7 | exact .inr hap)⟩
          replace Dc := Dc.set6 hk ht hw hb7 (by omega) (.int .i64 m6.bye) (.int .i64 m6.epoch) (.slice q6.sa m6.sealed.length q6.sc) (.slice q6.ea m6.seen.length q6.ec) (.bool m6.planned) (.slice q6.wa m6.wrote.length q6.wc)
          clear z0 f0 z1 f1 z2 f2 z3 f3 z4 f4 z5 f5 NZ I6
          refine hK.out _ _ (by first | with_reducible exact Dc.cells | with_reducible exact pDd | with_reducible exact pD | go_keep) (fun hHeld => ?_)
          clear hK K
          try simp only [Act.put, sA, sB, sC]
          refine wpAnyH_take (i := 20) (oi := ⟨some 14, .assign (.tmp 81), 4, "l09_mend.go:144", #[⟨17, .data⟩, ⟨19, .chain⟩, ⟨0, .phase⟩, ⟨1, .phase⟩, ⟨2, .phase⟩, ⟨3, .phase⟩, ⟨4, .phase⟩, ⟨5, .phase⟩, ⟨6, .phase⟩, ⟨7, .phase⟩, ⟨8, .phase⟩, ⟨9, .phase⟩, ⟨10, .phase⟩, ⟨11, .phase⟩, ⟨12, .phase⟩, ⟨13, .phase⟩, ⟨14, .phase⟩, ⟨15, .phase⟩, ⟨16, .phase⟩, ⟨17, .phase⟩, ⟨18, .phase⟩, ⟨19, .phase⟩], none⟩) (v := ?_) rfl (by kernel_rfl) (by kernel_rfl) (by kernel_rfl) (fun _ _ _ h => h) (Or.inl ⟨by rfl, ?_⟩) (by assumption) ?_
          rotate_left 1
          ·intro w hSw
           (try dsimp only at hSw)
           first | (go_simp; done) | (go_simp; with_reducible rfl)
          try simp only [Act.put, sA, sB, sC]
          refine wpAnyH_done (by kernel_rfl) ?_ _
          refine NoPanic.normal ?_
          go_wp2_with fail
          go_meet
          case rel => exact ⟨b7, lo6, hi6, m6, k6, q6, rfl, rfl, hb7, N8, Dc⟩
        case rest =>
         obtain ⟨bo, lo', hi', m', mb, q', rfl, rfl, hbo, N2, D2⟩ := hcut
         clear CP Dc pDd D5 pD
         generalize wc = w6 at *
         cases mb with
         | false =>
          have D6 := dUnhide D2
          have HD := dHide (D6.weak (B' := w6.heap.size) (by have := D6.men.fit; omega) (Nat.le_refl _))
          clear D2 D6 N2
          go_wp2
          go_roundw
          case rel => exact ⟨k + 1, m, q, by go_num, by omega, HD⟩
          case measure => simp [intOf]; omega
         | true =>
          obtain ⟨hl5, hf5, N5⟩ := dUnhide N2 rfl
          have D5 := dUnhide D2
          clear N2 D2
          generalize w6 = w5 at *
          have nb := N5.box
          obtain ⟨⟨y0, -⟩, ⟨y1, -⟩, ⟨y2, -⟩, ⟨y3, -⟩, ⟨y4, -⟩, ⟨y5, -⟩⟩ : (_ ∧ _) ∧ (_ ∧ _) ∧ (_ ∧ _) ∧ (_ ∧ _) ∧ (_ ∧ _) ∧ (_ ∧ _) := ⟨nb.2 0 _ rfl, nb.2 1 _ rfl, nb.2 2 _ rfl, nb.2 3 _ rfl, nb.2 4 _ rfl, nb.2 5 _ rfl⟩
          obtain ⟨⟨z0, f0⟩, ⟨z1, f1⟩, ⟨z2, f2⟩, ⟨z3, f3⟩, ⟨z4, f4⟩, ⟨z5, f5⟩⟩ : (_ ∧ _) ∧ (_ ∧ _) ∧ (_ ∧ _) ∧ (_ ∧ _) ∧ (_ ∧ _) ∧ (_ ∧ _) := ⟨D5.men.box.2 0 _ rfl, D5.men.box.2 1 _ rfl, D5.men.box.2 2 _ rfl, D5.men.box.2 3 _ rfl, D5.men.box.2 4 _ rfl, D5.men.box.2 5 _ rfl⟩
          have HT := (D5.take hk ht hw N5 hl5 hf5)
          replace HT := dHide (HT.weak (B' := ((((((w5.setCell ⟨bt, 0, none⟩ (.int .i64 m'.bye)).setCell ⟨bt, 1, none⟩ (.int .i64 m'.epoch)).setCell ⟨bt, 2, none⟩ (.slice q'.sa m'.sealed.length q'.sc)).setCell ⟨bt, 3, none⟩ (.slice q'.ea m'.seen.length q'.ec)).setCell ⟨bt, 4, none⟩ (.bool m'.planned)).setCell ⟨bt, 5, none⟩ (.slice q'.wa m'.wrote.length q'.wc)).heap.size) (by simp) (Nat.le_refl _))
          clear D5 N5 nb
          go_wp2
          go_roundw
          case rel => exact ⟨k + 1, _, _, by go_num, by omega, HT⟩
          case measure => simp [intOf]; omega
       ·obtain ⟨⟨z0, f0⟩, ⟨z1, f1⟩, ⟨z2, f2⟩, ⟨z3, f3⟩, ⟨z4, f4⟩, ⟨z5, f5⟩⟩ : (_ ∧ _) ∧ (_ ∧ _) ∧ (_ ∧ _) ∧ (_ ∧ _) ∧ (_ ∧ _) ∧ (_ ∧ _) := ⟨D5.res.2 0 _ rfl, D5.res.2 1 _ rfl, D5.res.2 2 _ rfl, D5.res.2 3 _ rfl, D5.res.2 4 _ rfl, D5.res.2 5 _ rfl⟩
        obtain ⟨-, k0, k1, k2, k3, k4, k5⟩ := D5.cells
        have ZZ := dHide ((((((D5.res.put 0 (.int .i64 m.bye)).put 1 (.int .i64 m.epoch)).put 2 (.slice q.sa m.sealed.length q.sc)).put 3 (.slice q.ea m.seen.length q.ec)).put 4 (.bool m.planned)).put 5 (.slice q.wa m.wrote.length q.wc))
        obtain ⟨rs9, e9, M9⟩ := D5.men.own
        have hbt : bt < w5.heap.size := D5.lt
        have OO := dHide ((((((M9.far (b := w.heap.size + 1) (o := 0) (.inl (by omega)) (.int .i64 m.bye)).far (b := w.heap.size + 1) (o := 1) (.inl (by omega)) (.int .i64 m.epoch)).far (b := w.heap.size + 1) (o := 2) (.inl (by omega)) (.slice q.sa m.sealed.length q.sc)).far (b := w.heap.size + 1) (o := 3) (.inl (by omega)) (.slice q.ea m.seen.length q.ec)).far (b := w.heap.size + 1) (o := 4) (.inl (by omega)) (.bool m.planned)).far (b := w.heap.size + 1) (o := 5) (.inl (by omega)) (.slice q.wa m.wrote.length q.wc))
        have CC := dHide ((((((D5.cur.setNew4 (b := w.heap.size + 1) (by omega) 0 (.int .i64 m.bye)).setNew4 (b := w.heap.size + 1) (by omega) 1 (.int .i64 m.epoch)).setNew4 (b := w.heap.size + 1) (by omega) 2 (.slice q.sa m.sealed.length q.sc)).setNew4 (b := w.heap.size + 1) (by omega) 3 (.slice q.ea m.seen.length q.ec)).setNew4 (b := w.heap.size + 1) (by omega) 4 (.bool m.planned)).setNew4 (b := w.heap.size + 1) (by omega) 5 (.slice q.wa m.wrote.length q.wc))
        have DD := dHide ((((((D5.drawn.setNew (b := w.heap.size + 1) (by omega) 0 (.int .i64 m.bye)).setNew (b := w.heap.size + 1) (by omega) 1 (.int .i64 m.epoch)).setNew (b := w.heap.size + 1) (by omega) 2 (.slice q.sa m.sealed.length q.sc)).setNew (b := w.heap.size + 1) (by omega) 3 (.slice q.ea m.seen.length q.ec)).setNew (b := w.heap.size + 1) (by omega) 4 (.bool m.planned)).setNew (b := w.heap.size + 1) (by omega) 5 (.slice q.wa m.wrote.length q.wc))
        have RR := dHide D5.fit
        have E9 := dHide e9
        have hV : w5.heap.size = ((((((w5.setCell ⟨w.heap.size + 1, 0, none⟩ (.int .i64 m.bye)).setCell ⟨w.heap.size + 1, 1, none⟩ (.int .i64 m.epoch)).setCell ⟨w.heap.size + 1, 2, none⟩ (.slice q.sa m.sealed.length q.sc)).setCell ⟨w.heap.size + 1, 3, none⟩ (.slice q.ea m.seen.length q.ec)).setCell ⟨w.heap.size + 1, 4, none⟩ (.bool m.planned)).setCell ⟨w.heap.size + 1, 5, none⟩ (.slice q.wa m.wrote.length q.wc)).heap.size := by simp
        clear D5 M9 e9
        go_wp2_with fail
        generalize ((((((w5.setCell ⟨w.heap.size + 1, 0, none⟩ (.int .i64 m.bye)).setCell ⟨w.heap.size + 1, 1, none⟩ (.int .i64 m.epoch)).setCell ⟨w.heap.size + 1, 2, none⟩ (.slice q.sa m.sealed.length q.sc)).setCell ⟨w.heap.size + 1, 3, none⟩ (.slice q.ea m.seen.length q.ec)).setCell ⟨w.heap.size + 1, 4, none⟩ (.bool m.planned)).setCell ⟨w.heap.size + 1, 5, none⟩ (.slice q.wa m.wrote.length q.wc)) = V at *
        have q0 := ((dUnhide ZZ).2 0 _ rfl).1
        have q1 := ((dUnhide ZZ).2 1 _ rfl).1
        have q2 := ((dUnhide ZZ).2 2 _ rfl).1
        have q3 := ((dUnhide ZZ).2 3 _ rfl).1
        have q4 := ((dUnhide ZZ).2 4 _ rfl).1
        have q5 := ((dUnhide ZZ).2 5 _ rfl).1
        rw [hV] at OO
        refine bodyPost_ret (v := .agg #[.int .i64 m.bye, .int .i64 m.epoch, .slice q.sa m.sealed.length q.sc, .slice q.ea m.seen.length q.ec, .bool m.planned, .slice q.wa m.wrote.length q.wc]) (by simp [results, Try.results66, go_sem, q0, q1, q2, q3, q4, q5]) rfl ⟨⟨m, q, rfl, ⟨rs9, dUnhide E9, (dUnhide OO).wide (by omega) (Nat.le_refl _)⟩, dUnhide RR⟩, dUnhide CC, dUnhide DD⟩
end Go.Proofs.Ytapfdmmfhfkhkaa
