/- Readers: impl's copied and told (printed by tools/mknxh.py). -/
import Derived.Test.YtjkjmapibcfcdaaGreatGn1
import Derived.Test.YtjkjmapibcfcdaaGreatNxS
import Derived.Deep.RegionHeld3
import Derived.Deep.DeepCutAuto
namespace Go.Proofs.YtjkjmapibcfcdaaGreat
open Go.ChangeShapes Go.WideShapes Go.ChangeAt Go.RowKit
set_option linter.unusedVariables false
set_option linter.unusedSimpArgs false
set_option maxRecDepth 100000

set_option maxHeartbeats 4000000 in
theorem copied_any (v : Value) (m : Rr) (w : World) (hv : RdReader v m w) (hl : m.out.length ≤ 1048576) :
  Calls Tryz.prog 48 #[v] w (AnsV w m) := by
 have ba : ∀ (w : World) o, Below w.heap.size w (w.alloc o) := fun w o => (Below.refl _ _).alloc (Nat.le_refl _) o
 obtain ⟨sv, rfl, h⟩ := hv
 have CV := dH fun W (hb : Below w.heap.size w W) => cloneV_any sv m.out W (RdEventS.below h hb) hl
 obtain ⟨ra, rc, rfl, -⟩ := formEventS h
 have GO : Hid (∀ (W : World) (a : Option Addr) (c : Nat), ApV W w.heap.size (.slice a m.out.length c) m.out → Below w.heap.size w W → AnsV w m (.returned (.agg #[.int .i64 m.epoch, .int .i64 m.off, .slice a m.out.length c])) W) := fun W a c h1 h2 => ⟨a, c, rfl, h1, h2⟩
 generalize AnsV w m = Q at *
 generalize m.epoch = y0 at *
 generalize m.off = y1 at *
 generalize m.out = ms at *
 clear h
 have X0 := (Bx.new w [.int .i64 y0, .int .i64 y1, .slice ra ms.length rc] 45).below (ba _ (.cells #[.int .i64 0, .int .i64 0, .slice none 0 0] 45))
 have Y0 := BxZ.new (B := w.heap.size) (w.alloc (.cells #[.int .i64 y0, .int .i64 y1, .slice ra ms.length rc] 45)) [.int .i64 0, .int .i64 0, .slice none 0 0] 45 (by simp)
 have B0 := bT (ba w (.cells #[.int .i64 y0, .int .i64 y1, .slice ra ms.length rc] 45)) (ba _ (.cells #[.int .i64 0, .int .i64 0, .slice none 0 0] 45))
 rw [show (w.alloc (.cells #[.int .i64 y0, .int .i64 y1, .slice ra ms.length rc] 45)).heap.size = w.heap.size + 1 from by simp] at Y0
 have e2 : Hid (((w.alloc (.cells #[.int .i64 y0, .int .i64 y1, .slice ra ms.length rc] 45)).alloc (.cells #[.int .i64 0, .int .i64 0, .slice none 0 0] 45)).heap.size = w.heap.size + 2) := by simp [Hid]
 go_enter Tryz.func48, Tryz.ntmps48
 go_upto_region 1 with fail
 generalize (w.alloc (.cells #[.int .i64 y0, .int .i64 y1, .slice ra ms.length rc] 45)).alloc (.cells #[.int .i64 0, .int .i64 0, .slice none 0 0] 45) = w0 at *
 have hs0 := dU e2
 have bd : Below w0.heap.size w0 w0.drew := (Below.refl _ _).drew
 have PX : Hid (∀ W, Below w0.heap.size w0 W → W.cell? ⟨w.heap.size, 0, none⟩ = some (.int .i64 y0) ∧ W.cell? ⟨w.heap.size, 1, none⟩ = some (.int .i64 y1) ∧ W.cell? ⟨w.heap.size, 2, none⟩ = some (.slice ra ms.length rc)) := fun W hW => ⟨X0.below hW 0 _ rfl, X0.below hW 1 _ rfl, X0.below hW 2 _ rfl⟩
 have PZ : Hid (∀ W, Below w0.heap.size w0 W → BxZ W w.heap.size (w.heap.size + 1) [.int .i64 0, .int .i64 0, .slice none 0 0]) := fun W hW => Y0.below hW
 have hne : w.heap.size ≠ w.heap.size + 1 := by omega
 have HNE := dH hne
 have hs1 : Hid (w.heap.size + 2 ≤ w0.drew.heap.size) := by have := bd.size; rw [Hid]; omega
 clear X0 Y0 hne e2 hs0
 go_wp2_with fail
 go_region_held3 (fun W => W.cell? ⟨w.heap.size, 0, none⟩ = some (.int .i64 y0) ∧ W.cell? ⟨w.heap.size, 1, none⟩ = some (.int .i64 y1) ∧ W.cell? ⟨w.heap.size, 2, none⟩ = some (.slice ra ms.length rc)) (first | exact dU PX _ b5' | exact dU PX _ bd | exact ⟨sO (sO (sO (dU PX _ b5').1 (.inl (dU HNE))) (.inl (dU HNE))) (.inl (dU HNE)), sO (sO (sO (dU PX _ b5').2.1 (.inl (dU HNE))) (.inl (dU HNE))) (.inl (dU HNE)), sO (sO (sO (dU PX _ b5').2.2 (.inl (dU HNE))) (.inl (dU HNE))) (.inl (dU HNE))⟩ | go_keep)
  (first
   | (go_at_call 104; refine (dU CV _ (bT B0 bd)).mono ?_; rintro e w5 ⟨⟨u5, rfl, O5⟩, b5⟩; obtain ⟨ua, uc, rfl⟩ := ApR.slice elemEvent O5; have b5' := bT bd b5; obtain ⟨z0, f0⟩ := (dU PZ _ b5').2 0 _ rfl; obtain ⟨z1, f1⟩ := (dU PZ _ b5').2 1 _ rfl; obtain ⟨z2, f2⟩ := (dU PZ _ b5').2 2 _ rfl; have HO5 := dH (O5.mono (dU hs1)); clear b5 O5))
 all_goals
  have YY := dH ((((dU PZ _ b5').put 0 (.int .i64 y0)).put 1 (.int .i64 y1)).put 2 (.slice ua ms.length uc))
  have OO := dH ((((dU HO5).far elemEvent (b := w.heap.size + 1) (o' := 0) (by omega) (.int .i64 y0)).far elemEvent (b := w.heap.size + 1) (o' := 1) (by omega) (.int .i64 y1)).far elemEvent (b := w.heap.size + 1) (o' := 2) (by omega) (.slice ua ms.length uc))
  have BB := dH ((((bT B0 b5').setCell (p := ⟨w.heap.size + 1, 0, none⟩) (by simp) (.int .i64 y0)).setCell (p := ⟨w.heap.size + 1, 1, none⟩) (by simp) (.int .i64 y1)).setCell (p := ⟨w.heap.size + 1, 2, none⟩) (by simp) (.slice ua ms.length uc))
  clear PX PZ HO5 CV
  go_wp2_with fail
  generalize (((w5.setCell ⟨w.heap.size + 1, 0, none⟩ (.int .i64 y0)).setCell ⟨w.heap.size + 1, 1, none⟩ (.int .i64 y1)).setCell ⟨w.heap.size + 1, 2, none⟩ (.slice ua ms.length uc)) = V at *
  have q0 := ((dU YY).2 0 _ rfl).1
  have q1 := ((dU YY).2 1 _ rfl).1
  have q2 := ((dU YY).2 2 _ rfl).1
  exact bodyPost_ret (v := .agg #[.int .i64 y0, .int .i64 y1, .slice ua ms.length uc]) (by simp [results, Tryz.results48, go_sem, q0, q1, q2]) rfl (dU GO V _ _ (ApR.mono (dU OO) (by omega)) (dU BB))
set_option maxHeartbeats 8000000 in
theorem told_data (v : Value) (m : Rr) (e o : Int) (d : ByteArray) (hf : (Hap.data e o d).fits) (w : World) (hv : RdReader v m w) (hl : m.out.length ≤ 1048576) :
  Calls Tryz.prog 49 #[v, (Hap.data e o d).val] w (AnsV w (tellR m (Hap.data e o d).ev (Hap.data e o d).on.1 (Hap.data e o d).on.2)) := by
 have ba : ∀ (w : World) o, Below w.heap.size w (w.alloc o) := fun w o => (Below.refl _ _).alloc (Nat.le_refl _) o
 have CC := dH fun W (hb : Below w.heap.size w W) => copied_any v m W (hv.below hb) hl
 have CE := dH fun W => eventOf_any (Hap.data e o d) hf W
 have CB := dH fun W => behind_passed e o hf.2.1 hf.2.2 W
 obtain ⟨ra, rc, rfl, -⟩ := formReader hv
 generalize hev : (Hap.data e o d).ev = ev at *
 show Calls Tryz.prog 49 #[_, .iface 167 (.agg #[.int .i64 e, .int .i64 o, .string d])] w (AnsV w (tellR m ev e (o + 1)))
 have CE2 : Hid (∀ W, Calls Tryz.prog 105 #[.iface 167 (.agg #[.int .i64 e, .int .i64 o, .string d])] W fun e' w' => e' = .returned ev.val ∧ Below W.heap.size W w') := fun W => dU CE W
 have GO : Hid (∀ (W : World) (a : Option Addr) (c : Nat), ApV W w.heap.size (.slice a (m.out.length + 1) c) (m.out ++ [ev]) → Below w.heap.size w W → AnsV w (tellR m ev e (o + 1)) (.returned (.agg #[.int .i64 e, .int .i64 (o + 1), .slice a (m.out.length + 1) c])) W) := fun W a c h1 h2 => ⟨a, c, by simp [tellR], by simpa [tellR] using h1, h2⟩
 generalize AnsV w (tellR m ev e (o + 1)) = Q at *
 unfold AnsV at CC
 obtain ⟨k0, k1, k2⟩ := ev
 unfold Ev.val at CE2
 simp only at CE2
 have hm : ∀ w, (Go.method 334 167 (.agg #[.int .i64 e, .int .i64 o, .string d]) "loop.example/g00178/impl.behind").run Tryz.prog w = .ok (208, .agg #[.int .i64 e, .int .i64 o]) w := fun w => by kernel_rfl
 generalize m.epoch = y0 at *
 generalize m.off = y1 at *
 generalize m.out = ms at *
 clear hv hf CE hev
 have Y0 := BxZ.new (B := w.heap.size) (w.alloc (.cells #[.int .i64 y0, .int .i64 y1, .slice ra ms.length rc] 45)) [.int .i64 0, .int .i64 0, .slice none 0 0] 45 (by simp)
 rw [show (w.alloc (.cells #[.int .i64 y0, .int .i64 y1, .slice ra ms.length rc] 45)).heap.size = w.heap.size + 1 from by simp] at Y0
 have B0 := bT (ba w (.cells #[.int .i64 y0, .int .i64 y1, .slice ra ms.length rc] 45)) (ba _ (.cells #[.int .i64 0, .int .i64 0, .slice none 0 0] 45))
 have e3 : Hid (((w.alloc (.cells #[.int .i64 y0, .int .i64 y1, .slice ra ms.length rc] 45)).alloc (.cells #[.int .i64 0, .int .i64 0, .slice none 0 0] 45)).heap.size = w.heap.size + 2) := by simp [Hid]
 go_enter Tryz.func49, Tryz.ntmps49
 go_wp2_with fail
 generalize (w.alloc (.cells #[.int .i64 y0, .int .i64 y1, .slice ra ms.length rc] 45)).alloc (.cells #[.int .i64 0, .int .i64 0, .slice none 0 0] 45) = w0 at *
 refine (dU CC _ B0).mono ?_
 rintro e' w1 ⟨a1, c1, rfl, O1, b1⟩
 have s0 := dU e3
 have s1 := b1.size
 have bO := ba w1 (.cells #[.int .i64 y0, .int .i64 y1, .slice a1 ms.length c1] 45)
 have N2 := BxZ.new (B := w.heap.size + 2) w1 [.int .i64 y0, .int .i64 y1, .slice a1 ms.length c1] 45 (by omega)
 have Y2 := Y0.below (bT b1 bO)
 have A2 := ApR.below O1 bO
 have NT : Hid (touch (.slice a1 ms.length c1) ≠ some w1.heap.size) := fun e => by have := (ApR.touched elemEvent O1 e).2; omega
 have NG : Hid (∀ k, touch (.slice a1 ms.length c1) = some k → w0.heap.size ≤ k) := fun k e => (ApR.touched elemEvent O1 e).1
 have B2 := bT (bT B0 b1) bO
 have s2 : (w1.alloc (.cells #[.int .i64 y0, .int .i64 y1, .slice a1 ms.length c1] 45)).heap.size = w1.heap.size + 1 := by simp
 clear CC Y0 O1 b1 bO B0 e3
 go_wp2_with fail
 generalize (w1.alloc (.cells #[.int .i64 y0, .int .i64 y1, .slice a1 ms.length c1] 45)) = w2 at *
 generalize hnb : w1.heap.size = nb at *
 refine (dU CB _).mono ?_
 rintro e' w3 ⟨rfl, b3⟩
 have s3 := b3.size
 have bP := ba w3 (.cells #[.int .i64 e, .int .i64 (o + 1)] 76)
 have P4 := Bx.new w3 [.int .i64 e, .int .i64 (o + 1)] 76
 have N4 := (N2.below b3).below bP
 have Y4 := (Y2.below b3).below bP
 have A4 := ApR.below (ApR.below A2 b3) bP
 have B4 := bT (bT B2 b3) bP
 have s4 : (w3.alloc (.cells #[.int .i64 e, .int .i64 (o + 1)] 76)).heap.size = w3.heap.size + 1 := by simp
 obtain ⟨z0, f0⟩ := N4.2 0 _ rfl
 obtain ⟨z1, f1⟩ := N4.2 1 _ rfl
 obtain ⟨p0, p1⟩ : _ ∧ _ := ⟨P4 0 _ rfl, P4 1 _ rfl⟩
 have hpn : w3.heap.size ≠ nb := by omega
 clear CB N2 Y2 A2 B2 b3 bP hm
 go_upto_region 3 with fail
 generalize w3.alloc (.cells #[.int .i64 e, .int .i64 (o + 1)] 76) = w4 at *
 generalize hpb : w3.heap.size = pb at *
 go_wp2_with fail
 go_region
 all_goals
  have N5 := (N4.put 0 (.int .i64 e)).put 1 (.int .i64 (o + 1))
  have Y5 := (Y4.far (b' := nb) (o := 0) (by omega) (.int .i64 e)).far (b' := nb) (o := 1) (by omega) (.int .i64 (o + 1))
  have A5 := ApR.put elemEvent (ApR.put elemEvent A4 (b := nb) (o' := 0) (dU NT) (.int .i64 e)) (b := nb) (o' := 1) (dU NT) (.int .i64 (o + 1))
  have B5 := (B4.setCell (p := ⟨nb, 0, none⟩) (by simp only; omega) (.int .i64 e)).setCell (p := ⟨nb, 1, none⟩) (by simp only; omega) (.int .i64 (o + 1))
  have s5 : ((w4.setCell ⟨nb, 0, none⟩ (.int .i64 e)).setCell ⟨nb, 1, none⟩ (.int .i64 (o + 1))).heap.size = w4.heap.size := by simp
  clear z0 f0 z1 f1 p0 p1 P4 N4 Y4 A4 B4
  go_upto_region 4 with fail
  generalize ((w4.setCell ⟨nb, 0, none⟩ (.int .i64 e)).setCell ⟨nb, 1, none⟩ (.int .i64 (o + 1))) = w5 at *
  have bdr : Below w5.heap.size w5 w5.drew := (Below.refl _ _).drew
  have Nd := N5.below bdr
  have Yd := Y5.below bdr
  have Ad := ApR.below A5 bdr
  have Bd := bT B5 bdr
  have sd : w5.heap.size ≤ w5.drew.heap.size := bdr.size
  clear N5 Y5 A5 B5 bdr
  go_wp2_with fail
  refine wp_region_noPanic ?_
  refine wp_region_held_drew (S := fun _ => True) (by kernel_rfl) (trivial) (fun hHeld => ?_)
  generalize w5.drew = wd at *
  refine tY 0 (v := ?_) rfl (by kernel_rfl) (.inl ⟨by rfl, ?_⟩) ‹_› ?_
  rotate_left 1
  ·intro w hSw
   (try dsimp only at hSw)
   first | (go_simp; done) | (go_simp; with_reducible rfl)
  try simp only [Act.put, sA, sB, sC]
  refine tY 2 (v := ?_) rfl (by kernel_rfl) (.inl ⟨by rfl, ?_⟩) ‹_› ?_
  rotate_left 1
  ·intro w hSw
   (try dsimp only at hSw)
   first | (go_simp; done) | (go_simp; with_reducible rfl)
  try simp only [Act.put, sA, sB, sC]
  refine wpAnyH_ready (rs := [1, 3]) (by kernel_rfl) (by simp) ?_
  refine rC rfl (fun K hK => ?_) (rC rfl (fun K hK => ?_) AllReadyH.nil)
  ·have hdr : Below wd.heap.size wd wd.drew := (Below.refl _ _).drew
   replace Nd := Nd.below hdr
   replace Yd := Yd.below hdr
   replace Ad := ApR.below Ad hdr
   replace Bd := bT Bd hdr
   replace sd : w5.heap.size ≤ wd.drew.heap.size := Nat.le_trans sd hdr.size
   (try replace RE := dH (Rw.below (dU RE) hdr))
   clear hdr
   generalize wd.drew = wd at *
   have zl := (Nd.2 2 _ rfl).1
   go_simp
   clear zl
   refine hK.out _ _ (trivial) (fun hHeld => ?_)
   clear hK K
   try simp only [Act.put, sA, sB, sC]
   refine wpAnyH_ready (rs := [3]) (by kernel_rfl) (by simp) ?_
   refine rC rfl (fun K hK => ?_) AllReadyH.nil
   go_simp
   refine (dU CE2 _).mono ?_
   rintro e' wd' ⟨rfl, b6⟩
   replace Nd := Nd.below b6
   replace Yd := Yd.below b6
   replace Ad := ApR.below Ad b6
   replace Bd := bT Bd b6
   replace sd : w5.heap.size ≤ wd'.heap.size := Nat.le_trans sd b6.size
   clear b6
   generalize wd' = wd at *
   (try go_wp2_with fail)
   refine hK.out _ _ (trivial) (fun hHeld => ?_)
   clear hK K
   try simp only [Act.put, sA, sB, sC]
   refine wpAnyH_ready (rs := [4]) (by kernel_rfl) (by simp) ?_
   refine rC rfl (fun K hK => ?_) AllReadyH.nil
   go_simp
   have bE := ba wd (.cells #[.int .i64 k0, .int .i64 k1, .string k2] 53)
   have RE := dH (rwV_one wd ⟨k0, k1, k2⟩ 53 1 (by omega))
   have hgE : Hid (w5.heap.size ≤ wd.heap.size) := sd
   replace Nd := Nd.below bE
   replace Yd := Yd.below bE
   replace Ad := ApR.below Ad bE
   replace Bd := bT Bd bE
   replace sd : w5.heap.size ≤ (wd.alloc (.cells #[.int .i64 k0, .int .i64 k1, .string k2] 53)).heap.size := Nat.le_trans sd bE.size
   generalize hgb : wd.heap.size = eb at *
   clear bE
   generalize wd.alloc (.cells #[.int .i64 k0, .int .i64 k1, .string k2] 53) = wd at *
   refine hK.out _ _ (trivial) (fun hHeld => ?_)
   clear hK K
   try simp only [Act.put, sA, sB, sC]
   refine wpAnyH_ready (rs := [5]) (by kernel_rfl) (by simp) ?_
   refine rC rfl (fun K hK => ?_) AllReadyH.nil
   refine step_apR elemEvent rfl _ _ rfl w0.heap.size _ ms rfl Ad _ [⟨k0, k1, k2⟩] rfl (dU RE) (by simp; omega) (by simp; omega) (by omega) ?_
   intro u w6 O6 g6 t6
   obtain ⟨ua, uc, eu⟩ : ∃ a c, u = .slice a (ms.length + 1) c := by
    obtain ⟨a, c, e⟩ := ApR.slice elemEvent O6
    exact ⟨a, c, by rw [e]; simp⟩
   subst eu
   have T6 : Hid (∀ k, touch (.slice ua (ms.length + 1) uc) = some k → w0.heap.size ≤ k ∧ k ≠ nb) := fun k hk => by
    refine ⟨(ApR.touched elemEvent O6 hk).1, ?_⟩
    rcases t6 with t6 | t6
    ·rw [t6] at hk
     intro e
     subst e
     exact dU NT hk
    ·have := t6 k hk
     omega
   replace Nd := Nd.grown g6 (fun e => dU NT e)
   replace Yd := Yd.grown g6 (fun e => by have := dU NG _ e; omega)
   replace Bd := Bd.grown g6 Bd.size (fun j hj => by have := dU NG _ hj; omega)
   replace sd : w5.heap.size ≤ w6.heap.size := Nat.le_trans sd g6.size
   have Od : ApV w6 w0.heap.size (.slice ua (ms.length + 1) uc) (ms ++ [⟨k0, k1, k2⟩]) := O6
   clear Ad O6 g6 t6 RE
   generalize w6 = wd at *
   refine hK.out _ _ (trivial) (fun hHeld => ?_)
   clear hK K
   try simp only [Act.put, sA, sB, sC]
   refine tY 6 (v := ?_) rfl (by kernel_rfl) (.inl ⟨by rfl, ?_⟩) ‹_› ?_
   rotate_left 1
   ·intro w hSw
    (try dsimp only at hSw)
    first | (go_simp; done) | (go_simp; with_reducible rfl)
   try simp only [Act.put, sA, sB, sC]
   refine wpAnyH_ready (rs := [7]) (by kernel_rfl) (by simp) ?_
   refine rC rfl (fun K hK => ?_) AllReadyH.nil
   obtain ⟨z2, f2⟩ := Nd.2 2 _ rfl
   go_simp
   have N7 := Nd.put 2 (.slice ua (ms.length + 1) uc)
   have Y7 := Yd.far (b' := nb) (o := 2) (by omega) (.slice ua (ms.length + 1) uc)
   have O7 := ApR.put elemEvent Od (b := nb) (o' := 2) (fun e => (dU T6 _ e).2 rfl) (.slice ua (ms.length + 1) uc)
   have B7 := Bd.setCell (p := ⟨nb, 2, none⟩) (by simp only; omega) (.slice ua (ms.length + 1) uc)
   clear z2 f2 Nd Yd Od Bd
   generalize wd.setCell ⟨nb, 2, none⟩ (.slice ua (ms.length + 1) uc) = w7 at *
   refine hK.out _ _ (trivial) (fun hHeld => ?_)
   clear hK K
   try simp only [Act.put, sA, sB, sC]
   refine wpAnyH_done (by kernel_rfl) ?_ _
   refine NoPanic.normal ?_
   obtain ⟨x0, x1, x2⟩ : _ ∧ _ ∧ _ := ⟨(N7.2 0 _ rfl).1, (N7.2 1 _ rfl).1, (N7.2 2 _ rfl).1⟩
   obtain ⟨v0, g0⟩ := Y7.2 0 _ rfl
   obtain ⟨v1, g1⟩ := Y7.2 1 _ rfl
   obtain ⟨v2, g2⟩ := Y7.2 2 _ rfl
   have YY := dH (((Y7.put 0 (.int .i64 e)).put 1 (.int .i64 (o + 1))).put 2 (.slice ua (ms.length + 1) uc))
   have OO := dH (ApR.put elemEvent (ApR.put elemEvent (ApR.put elemEvent O7 (b := w.heap.size + 1) (o' := 0) (fun e => by have := (dU T6 _ e).1; omega) (.int .i64 e)) (b := w.heap.size + 1) (o' := 1) (fun e => by have := (dU T6 _ e).1; omega) (.int .i64 (o + 1))) (b := w.heap.size + 1) (o' := 2) (fun e => by have := (dU T6 _ e).1; omega) (.slice ua (ms.length + 1) uc))
   have BB := dH (((B7.setCell (p := ⟨w.heap.size + 1, 0, none⟩) (by simp only; omega) (.int .i64 e)).setCell (p := ⟨w.heap.size + 1, 1, none⟩) (by simp only; omega) (.int .i64 (o + 1))).setCell (p := ⟨w.heap.size + 1, 2, none⟩) (by simp only; omega) (.slice ua (ms.length + 1) uc))
   clear N7 Y7 O7 B7 CE2
   go_wp2_with fail
   generalize (((w7.setCell ⟨w.heap.size + 1, 0, none⟩ (.int .i64 e)).setCell ⟨w.heap.size + 1, 1, none⟩ (.int .i64 (o + 1))).setCell ⟨w.heap.size + 1, 2, none⟩ (.slice ua (ms.length + 1) uc)) = V at *
   have q0 := ((dU YY).2 0 _ rfl).1
   have q1 := ((dU YY).2 1 _ rfl).1
   have q2 := ((dU YY).2 2 _ rfl).1
   exact bodyPost_ret (v := .agg #[.int .i64 e, .int .i64 (o + 1), .slice ua (ms.length + 1) uc]) (by simp [results, Tryz.results49, go_sem, q0, q1, q2]) rfl (dU GO V _ _ (ApR.mono (dU OO) (by omega)) (dU BB))
  ·have hdr : Below wd.heap.size wd wd.drew := (Below.refl _ _).drew
   replace Nd := Nd.below hdr
   replace Yd := Yd.below hdr
   replace Ad := ApR.below Ad hdr
   replace Bd := bT Bd hdr
   replace sd : w5.heap.size ≤ wd.drew.heap.size := Nat.le_trans sd hdr.size
   (try replace RE := dH (Rw.below (dU RE) hdr))
   clear hdr
   generalize wd.drew = wd at *
   go_simp
   refine (dU CE2 _).mono ?_
   rintro e' wd' ⟨rfl, b6⟩
   replace Nd := Nd.below b6
   replace Yd := Yd.below b6
   replace Ad := ApR.below Ad b6
   replace Bd := bT Bd b6
   replace sd : w5.heap.size ≤ wd'.heap.size := Nat.le_trans sd b6.size
   clear b6
   generalize wd' = wd at *
   (try go_wp2_with fail)
   refine hK.out _ _ (trivial) (fun hHeld => ?_)
   clear hK K
   try simp only [Act.put, sA, sB, sC]
   refine wpAnyH_ready (rs := [1, 4]) (by kernel_rfl) (by simp) ?_
   refine rC rfl (fun K hK => ?_) (rC rfl (fun K hK => ?_) AllReadyH.nil)
   ·have zl := (Nd.2 2 _ rfl).1
    go_simp
    clear zl
    refine hK.out _ _ (trivial) (fun hHeld => ?_)
    clear hK K
    try simp only [Act.put, sA, sB, sC]
    refine wpAnyH_ready (rs := [4]) (by kernel_rfl) (by simp) ?_
    refine rC rfl (fun K hK => ?_) AllReadyH.nil
    go_simp
    have bE := ba wd (.cells #[.int .i64 k0, .int .i64 k1, .string k2] 53)
    have RE := dH (rwV_one wd ⟨k0, k1, k2⟩ 53 1 (by omega))
    have hgE : Hid (w5.heap.size ≤ wd.heap.size) := sd
    replace Nd := Nd.below bE
    replace Yd := Yd.below bE
    replace Ad := ApR.below Ad bE
    replace Bd := bT Bd bE
    replace sd : w5.heap.size ≤ (wd.alloc (.cells #[.int .i64 k0, .int .i64 k1, .string k2] 53)).heap.size := Nat.le_trans sd bE.size
    generalize hgb : wd.heap.size = eb at *
    clear bE
    generalize wd.alloc (.cells #[.int .i64 k0, .int .i64 k1, .string k2] 53) = wd at *
    refine hK.out _ _ (trivial) (fun hHeld => ?_)
    clear hK K
    try simp only [Act.put, sA, sB, sC]
    refine wpAnyH_ready (rs := [5]) (by kernel_rfl) (by simp) ?_
    refine rC rfl (fun K hK => ?_) AllReadyH.nil
    refine step_apR elemEvent rfl _ _ rfl w0.heap.size _ ms rfl Ad _ [⟨k0, k1, k2⟩] rfl (dU RE) (by simp; omega) (by simp; omega) (by omega) ?_
    intro u w6 O6 g6 t6
    obtain ⟨ua, uc, eu⟩ : ∃ a c, u = .slice a (ms.length + 1) c := by
     obtain ⟨a, c, e⟩ := ApR.slice elemEvent O6
     exact ⟨a, c, by rw [e]; simp⟩
    subst eu
    have T6 : Hid (∀ k, touch (.slice ua (ms.length + 1) uc) = some k → w0.heap.size ≤ k ∧ k ≠ nb) := fun k hk => by
     refine ⟨(ApR.touched elemEvent O6 hk).1, ?_⟩
     rcases t6 with t6 | t6
     ·rw [t6] at hk
      intro e
      subst e
      exact dU NT hk
     ·have := t6 k hk
      omega
    replace Nd := Nd.grown g6 (fun e => dU NT e)
    replace Yd := Yd.grown g6 (fun e => by have := dU NG _ e; omega)
    replace Bd := Bd.grown g6 Bd.size (fun j hj => by have := dU NG _ hj; omega)
    replace sd : w5.heap.size ≤ w6.heap.size := Nat.le_trans sd g6.size
    have Od : ApV w6 w0.heap.size (.slice ua (ms.length + 1) uc) (ms ++ [⟨k0, k1, k2⟩]) := O6
    clear Ad O6 g6 t6 RE
    generalize w6 = wd at *
    refine hK.out _ _ (trivial) (fun hHeld => ?_)
    clear hK K
    try simp only [Act.put, sA, sB, sC]
    refine tY 6 (v := ?_) rfl (by kernel_rfl) (.inl ⟨by rfl, ?_⟩) ‹_› ?_
    rotate_left 1
    ·intro w hSw
     (try dsimp only at hSw)
     first | (go_simp; done) | (go_simp; with_reducible rfl)
    try simp only [Act.put, sA, sB, sC]
    refine wpAnyH_ready (rs := [7]) (by kernel_rfl) (by simp) ?_
    refine rC rfl (fun K hK => ?_) AllReadyH.nil
    obtain ⟨z2, f2⟩ := Nd.2 2 _ rfl
    go_simp
    have N7 := Nd.put 2 (.slice ua (ms.length + 1) uc)
    have Y7 := Yd.far (b' := nb) (o := 2) (by omega) (.slice ua (ms.length + 1) uc)
    have O7 := ApR.put elemEvent Od (b := nb) (o' := 2) (fun e => (dU T6 _ e).2 rfl) (.slice ua (ms.length + 1) uc)
    have B7 := Bd.setCell (p := ⟨nb, 2, none⟩) (by simp only; omega) (.slice ua (ms.length + 1) uc)
    clear z2 f2 Nd Yd Od Bd
    generalize wd.setCell ⟨nb, 2, none⟩ (.slice ua (ms.length + 1) uc) = w7 at *
    refine hK.out _ _ (trivial) (fun hHeld => ?_)
    clear hK K
    try simp only [Act.put, sA, sB, sC]
    refine wpAnyH_done (by kernel_rfl) ?_ _
    refine NoPanic.normal ?_
    obtain ⟨x0, x1, x2⟩ : _ ∧ _ ∧ _ := ⟨(N7.2 0 _ rfl).1, (N7.2 1 _ rfl).1, (N7.2 2 _ rfl).1⟩
    obtain ⟨v0, g0⟩ := Y7.2 0 _ rfl
    obtain ⟨v1, g1⟩ := Y7.2 1 _ rfl
    obtain ⟨v2, g2⟩ := Y7.2 2 _ rfl
    have YY := dH (((Y7.put 0 (.int .i64 e)).put 1 (.int .i64 (o + 1))).put 2 (.slice ua (ms.length + 1) uc))
    have OO := dH (ApR.put elemEvent (ApR.put elemEvent (ApR.put elemEvent O7 (b := w.heap.size + 1) (o' := 0) (fun e => by have := (dU T6 _ e).1; omega) (.int .i64 e)) (b := w.heap.size + 1) (o' := 1) (fun e => by have := (dU T6 _ e).1; omega) (.int .i64 (o + 1))) (b := w.heap.size + 1) (o' := 2) (fun e => by have := (dU T6 _ e).1; omega) (.slice ua (ms.length + 1) uc))
    have BB := dH (((B7.setCell (p := ⟨w.heap.size + 1, 0, none⟩) (by simp only; omega) (.int .i64 e)).setCell (p := ⟨w.heap.size + 1, 1, none⟩) (by simp only; omega) (.int .i64 (o + 1))).setCell (p := ⟨w.heap.size + 1, 2, none⟩) (by simp only; omega) (.slice ua (ms.length + 1) uc))
    clear N7 Y7 O7 B7 CE2
    go_wp2_with fail
    generalize (((w7.setCell ⟨w.heap.size + 1, 0, none⟩ (.int .i64 e)).setCell ⟨w.heap.size + 1, 1, none⟩ (.int .i64 (o + 1))).setCell ⟨w.heap.size + 1, 2, none⟩ (.slice ua (ms.length + 1) uc)) = V at *
    have q0 := ((dU YY).2 0 _ rfl).1
    have q1 := ((dU YY).2 1 _ rfl).1
    have q2 := ((dU YY).2 2 _ rfl).1
    exact bodyPost_ret (v := .agg #[.int .i64 e, .int .i64 (o + 1), .slice ua (ms.length + 1) uc]) (by simp [results, Tryz.results49, go_sem, q0, q1, q2]) rfl (dU GO V _ _ (ApR.mono (dU OO) (by omega)) (dU BB))
   ·go_simp
    have bE := ba wd (.cells #[.int .i64 k0, .int .i64 k1, .string k2] 53)
    have RE := dH (rwV_one wd ⟨k0, k1, k2⟩ 53 1 (by omega))
    have hgE : Hid (w5.heap.size ≤ wd.heap.size) := sd
    replace Nd := Nd.below bE
    replace Yd := Yd.below bE
    replace Ad := ApR.below Ad bE
    replace Bd := bT Bd bE
    replace sd : w5.heap.size ≤ (wd.alloc (.cells #[.int .i64 k0, .int .i64 k1, .string k2] 53)).heap.size := Nat.le_trans sd bE.size
    generalize hgb : wd.heap.size = eb at *
    clear bE
    generalize wd.alloc (.cells #[.int .i64 k0, .int .i64 k1, .string k2] 53) = wd at *
    refine hK.out _ _ (trivial) (fun hHeld => ?_)
    clear hK K
    try simp only [Act.put, sA, sB, sC]
    refine wpAnyH_ready (rs := [1]) (by kernel_rfl) (by simp) ?_
    refine rC rfl (fun K hK => ?_) AllReadyH.nil
    have zl := (Nd.2 2 _ rfl).1
    go_simp
    clear zl
    refine hK.out _ _ (trivial) (fun hHeld => ?_)
    clear hK K
    try simp only [Act.put, sA, sB, sC]
    refine wpAnyH_ready (rs := [5]) (by kernel_rfl) (by simp) ?_
    refine rC rfl (fun K hK => ?_) AllReadyH.nil
    refine step_apR elemEvent rfl _ _ rfl w0.heap.size _ ms rfl Ad _ [⟨k0, k1, k2⟩] rfl (dU RE) (by simp; omega) (by simp; omega) (by omega) ?_
    intro u w6 O6 g6 t6
    obtain ⟨ua, uc, eu⟩ : ∃ a c, u = .slice a (ms.length + 1) c := by
     obtain ⟨a, c, e⟩ := ApR.slice elemEvent O6
     exact ⟨a, c, by rw [e]; simp⟩
    subst eu
    have T6 : Hid (∀ k, touch (.slice ua (ms.length + 1) uc) = some k → w0.heap.size ≤ k ∧ k ≠ nb) := fun k hk => by
     refine ⟨(ApR.touched elemEvent O6 hk).1, ?_⟩
     rcases t6 with t6 | t6
     ·rw [t6] at hk
      intro e
      subst e
      exact dU NT hk
     ·have := t6 k hk
      omega
    replace Nd := Nd.grown g6 (fun e => dU NT e)
    replace Yd := Yd.grown g6 (fun e => by have := dU NG _ e; omega)
    replace Bd := Bd.grown g6 Bd.size (fun j hj => by have := dU NG _ hj; omega)
    replace sd : w5.heap.size ≤ w6.heap.size := Nat.le_trans sd g6.size
    have Od : ApV w6 w0.heap.size (.slice ua (ms.length + 1) uc) (ms ++ [⟨k0, k1, k2⟩]) := O6
    clear Ad O6 g6 t6 RE
    generalize w6 = wd at *
    refine hK.out _ _ (trivial) (fun hHeld => ?_)
    clear hK K
    try simp only [Act.put, sA, sB, sC]
    refine tY 6 (v := ?_) rfl (by kernel_rfl) (.inl ⟨by rfl, ?_⟩) ‹_› ?_
    rotate_left 1
    ·intro w hSw
     (try dsimp only at hSw)
     first | (go_simp; done) | (go_simp; with_reducible rfl)
    try simp only [Act.put, sA, sB, sC]
    refine wpAnyH_ready (rs := [7]) (by kernel_rfl) (by simp) ?_
    refine rC rfl (fun K hK => ?_) AllReadyH.nil
    obtain ⟨z2, f2⟩ := Nd.2 2 _ rfl
    go_simp
    have N7 := Nd.put 2 (.slice ua (ms.length + 1) uc)
    have Y7 := Yd.far (b' := nb) (o := 2) (by omega) (.slice ua (ms.length + 1) uc)
    have O7 := ApR.put elemEvent Od (b := nb) (o' := 2) (fun e => (dU T6 _ e).2 rfl) (.slice ua (ms.length + 1) uc)
    have B7 := Bd.setCell (p := ⟨nb, 2, none⟩) (by simp only; omega) (.slice ua (ms.length + 1) uc)
    clear z2 f2 Nd Yd Od Bd
    generalize wd.setCell ⟨nb, 2, none⟩ (.slice ua (ms.length + 1) uc) = w7 at *
    refine hK.out _ _ (trivial) (fun hHeld => ?_)
    clear hK K
    try simp only [Act.put, sA, sB, sC]
    refine wpAnyH_done (by kernel_rfl) ?_ _
    refine NoPanic.normal ?_
    obtain ⟨x0, x1, x2⟩ : _ ∧ _ ∧ _ := ⟨(N7.2 0 _ rfl).1, (N7.2 1 _ rfl).1, (N7.2 2 _ rfl).1⟩
    obtain ⟨v0, g0⟩ := Y7.2 0 _ rfl
    obtain ⟨v1, g1⟩ := Y7.2 1 _ rfl
    obtain ⟨v2, g2⟩ := Y7.2 2 _ rfl
    have YY := dH (((Y7.put 0 (.int .i64 e)).put 1 (.int .i64 (o + 1))).put 2 (.slice ua (ms.length + 1) uc))
    have OO := dH (ApR.put elemEvent (ApR.put elemEvent (ApR.put elemEvent O7 (b := w.heap.size + 1) (o' := 0) (fun e => by have := (dU T6 _ e).1; omega) (.int .i64 e)) (b := w.heap.size + 1) (o' := 1) (fun e => by have := (dU T6 _ e).1; omega) (.int .i64 (o + 1))) (b := w.heap.size + 1) (o' := 2) (fun e => by have := (dU T6 _ e).1; omega) (.slice ua (ms.length + 1) uc))
    have BB := dH (((B7.setCell (p := ⟨w.heap.size + 1, 0, none⟩) (by simp only; omega) (.int .i64 e)).setCell (p := ⟨w.heap.size + 1, 1, none⟩) (by simp only; omega) (.int .i64 (o + 1))).setCell (p := ⟨w.heap.size + 1, 2, none⟩) (by simp only; omega) (.slice ua (ms.length + 1) uc))
    clear N7 Y7 O7 B7 CE2
    go_wp2_with fail
    generalize (((w7.setCell ⟨w.heap.size + 1, 0, none⟩ (.int .i64 e)).setCell ⟨w.heap.size + 1, 1, none⟩ (.int .i64 (o + 1))).setCell ⟨w.heap.size + 1, 2, none⟩ (.slice ua (ms.length + 1) uc)) = V at *
    have q0 := ((dU YY).2 0 _ rfl).1
    have q1 := ((dU YY).2 1 _ rfl).1
    have q2 := ((dU YY).2 2 _ rfl).1
    exact bodyPost_ret (v := .agg #[.int .i64 e, .int .i64 (o + 1), .slice ua (ms.length + 1) uc]) (by simp [results, Tryz.results49, go_sem, q0, q1, q2]) rfl (dU GO V _ _ (ApR.mono (dU OO) (by omega)) (dU BB))
set_option maxHeartbeats 8000000 in
theorem told_hole (v : Value) (m : Rr) (e o : Int) (hf : (Hap.hole e o).fits) (w : World) (hv : RdReader v m w) (hl : m.out.length ≤ 1048576) :
  Calls Tryz.prog 49 #[v, (Hap.hole e o).val] w (AnsV w (tellR m (Hap.hole e o).ev (Hap.hole e o).on.1 (Hap.hole e o).on.2)) := by
 have ba : ∀ (w : World) o, Below w.heap.size w (w.alloc o) := fun w o => (Below.refl _ _).alloc (Nat.le_refl _) o
 have CC := dH fun W (hb : Below w.heap.size w W) => copied_any v m W (hv.below hb) hl
 have CE := dH fun W => eventOf_any (Hap.hole e o) hf W
 have CB := dH fun W => behind_passed e o hf.2.1 hf.2.2 W
 obtain ⟨ra, rc, rfl, -⟩ := formReader hv
 generalize hev : (Hap.hole e o).ev = ev at *
 show Calls Tryz.prog 49 #[_, .iface 165 (.agg #[.int .i64 e, .int .i64 o])] w (AnsV w (tellR m ev e (o + 1)))
 have CE2 : Hid (∀ W, Calls Tryz.prog 105 #[.iface 165 (.agg #[.int .i64 e, .int .i64 o])] W fun e' w' => e' = .returned ev.val ∧ Below W.heap.size W w') := fun W => dU CE W
 have GO : Hid (∀ (W : World) (a : Option Addr) (c : Nat), ApV W w.heap.size (.slice a (m.out.length + 1) c) (m.out ++ [ev]) → Below w.heap.size w W → AnsV w (tellR m ev e (o + 1)) (.returned (.agg #[.int .i64 e, .int .i64 (o + 1), .slice a (m.out.length + 1) c])) W) := fun W a c h1 h2 => ⟨a, c, by simp [tellR], by simpa [tellR] using h1, h2⟩
 generalize AnsV w (tellR m ev e (o + 1)) = Q at *
 unfold AnsV at CC
 obtain ⟨k0, k1, k2⟩ := ev
 unfold Ev.val at CE2
 simp only at CE2
 have hm : ∀ w, (Go.method 334 165 (.agg #[.int .i64 e, .int .i64 o]) "loop.example/g00178/impl.behind").run Tryz.prog w = .ok (208, .agg #[.int .i64 e, .int .i64 o]) w := fun w => by kernel_rfl
 generalize m.epoch = y0 at *
 generalize m.off = y1 at *
 generalize m.out = ms at *
 clear hv hf CE hev
 have Y0 := BxZ.new (B := w.heap.size) (w.alloc (.cells #[.int .i64 y0, .int .i64 y1, .slice ra ms.length rc] 45)) [.int .i64 0, .int .i64 0, .slice none 0 0] 45 (by simp)
 rw [show (w.alloc (.cells #[.int .i64 y0, .int .i64 y1, .slice ra ms.length rc] 45)).heap.size = w.heap.size + 1 from by simp] at Y0
 have B0 := bT (ba w (.cells #[.int .i64 y0, .int .i64 y1, .slice ra ms.length rc] 45)) (ba _ (.cells #[.int .i64 0, .int .i64 0, .slice none 0 0] 45))
 have e3 : Hid (((w.alloc (.cells #[.int .i64 y0, .int .i64 y1, .slice ra ms.length rc] 45)).alloc (.cells #[.int .i64 0, .int .i64 0, .slice none 0 0] 45)).heap.size = w.heap.size + 2) := by simp [Hid]
 go_enter Tryz.func49, Tryz.ntmps49
 go_wp2_with fail
 generalize (w.alloc (.cells #[.int .i64 y0, .int .i64 y1, .slice ra ms.length rc] 45)).alloc (.cells #[.int .i64 0, .int .i64 0, .slice none 0 0] 45) = w0 at *
 refine (dU CC _ B0).mono ?_
 rintro e' w1 ⟨a1, c1, rfl, O1, b1⟩
 have s0 := dU e3
 have s1 := b1.size
 have bO := ba w1 (.cells #[.int .i64 y0, .int .i64 y1, .slice a1 ms.length c1] 45)
 have N2 := BxZ.new (B := w.heap.size + 2) w1 [.int .i64 y0, .int .i64 y1, .slice a1 ms.length c1] 45 (by omega)
 have Y2 := Y0.below (bT b1 bO)
 have A2 := ApR.below O1 bO
 have NT : Hid (touch (.slice a1 ms.length c1) ≠ some w1.heap.size) := fun e => by have := (ApR.touched elemEvent O1 e).2; omega
 have NG : Hid (∀ k, touch (.slice a1 ms.length c1) = some k → w0.heap.size ≤ k) := fun k e => (ApR.touched elemEvent O1 e).1
 have B2 := bT (bT B0 b1) bO
 have s2 : (w1.alloc (.cells #[.int .i64 y0, .int .i64 y1, .slice a1 ms.length c1] 45)).heap.size = w1.heap.size + 1 := by simp
 clear CC Y0 O1 b1 bO B0 e3
 go_wp2_with fail
 generalize (w1.alloc (.cells #[.int .i64 y0, .int .i64 y1, .slice a1 ms.length c1] 45)) = w2 at *
 generalize hnb : w1.heap.size = nb at *
 refine (dU CB _).mono ?_
 rintro e' w3 ⟨rfl, b3⟩
 have s3 := b3.size
 have bP := ba w3 (.cells #[.int .i64 e, .int .i64 (o + 1)] 76)
 have P4 := Bx.new w3 [.int .i64 e, .int .i64 (o + 1)] 76
 have N4 := (N2.below b3).below bP
 have Y4 := (Y2.below b3).below bP
 have A4 := ApR.below (ApR.below A2 b3) bP
 have B4 := bT (bT B2 b3) bP
 have s4 : (w3.alloc (.cells #[.int .i64 e, .int .i64 (o + 1)] 76)).heap.size = w3.heap.size + 1 := by simp
 obtain ⟨z0, f0⟩ := N4.2 0 _ rfl
 obtain ⟨z1, f1⟩ := N4.2 1 _ rfl
 obtain ⟨p0, p1⟩ : _ ∧ _ := ⟨P4 0 _ rfl, P4 1 _ rfl⟩
 have hpn : w3.heap.size ≠ nb := by omega
 clear CB N2 Y2 A2 B2 b3 bP hm
 go_upto_region 3 with fail
 generalize w3.alloc (.cells #[.int .i64 e, .int .i64 (o + 1)] 76) = w4 at *
 generalize hpb : w3.heap.size = pb at *
 go_wp2_with fail
 go_region
 all_goals
  have N5 := (N4.put 0 (.int .i64 e)).put 1 (.int .i64 (o + 1))
  have Y5 := (Y4.far (b' := nb) (o := 0) (by omega) (.int .i64 e)).far (b' := nb) (o := 1) (by omega) (.int .i64 (o + 1))
  have A5 := ApR.put elemEvent (ApR.put elemEvent A4 (b := nb) (o' := 0) (dU NT) (.int .i64 e)) (b := nb) (o' := 1) (dU NT) (.int .i64 (o + 1))
  have B5 := (B4.setCell (p := ⟨nb, 0, none⟩) (by simp only; omega) (.int .i64 e)).setCell (p := ⟨nb, 1, none⟩) (by simp only; omega) (.int .i64 (o + 1))
  have s5 : ((w4.setCell ⟨nb, 0, none⟩ (.int .i64 e)).setCell ⟨nb, 1, none⟩ (.int .i64 (o + 1))).heap.size = w4.heap.size := by simp
  clear z0 f0 z1 f1 p0 p1 P4 N4 Y4 A4 B4
  go_upto_region 4 with fail
  generalize ((w4.setCell ⟨nb, 0, none⟩ (.int .i64 e)).setCell ⟨nb, 1, none⟩ (.int .i64 (o + 1))) = w5 at *
  have bdr : Below w5.heap.size w5 w5.drew := (Below.refl _ _).drew
  have Nd := N5.below bdr
  have Yd := Y5.below bdr
  have Ad := ApR.below A5 bdr
  have Bd := bT B5 bdr
  have sd : w5.heap.size ≤ w5.drew.heap.size := bdr.size
  clear N5 Y5 A5 B5 bdr
  go_wp2_with fail
  refine wp_region_noPanic ?_
  refine wp_region_held_drew (S := fun _ => True) (by kernel_rfl) (trivial) (fun hHeld => ?_)
  generalize w5.drew = wd at *
  refine tY 0 (v := ?_) rfl (by kernel_rfl) (.inl ⟨by rfl, ?_⟩) ‹_› ?_
  rotate_left 1
  ·intro w hSw
   (try dsimp only at hSw)
   first | (go_simp; done) | (go_simp; with_reducible rfl)
  try simp only [Act.put, sA, sB, sC]
  refine tY 2 (v := ?_) rfl (by kernel_rfl) (.inl ⟨by rfl, ?_⟩) ‹_› ?_
  rotate_left 1
  ·intro w hSw
   (try dsimp only at hSw)
   first | (go_simp; done) | (go_simp; with_reducible rfl)
  try simp only [Act.put, sA, sB, sC]
  refine wpAnyH_ready (rs := [1, 3]) (by kernel_rfl) (by simp) ?_
  refine rC rfl (fun K hK => ?_) (rC rfl (fun K hK => ?_) AllReadyH.nil)
  ·have hdr : Below wd.heap.size wd wd.drew := (Below.refl _ _).drew
   replace Nd := Nd.below hdr
   replace Yd := Yd.below hdr
   replace Ad := ApR.below Ad hdr
   replace Bd := bT Bd hdr
   replace sd : w5.heap.size ≤ wd.drew.heap.size := Nat.le_trans sd hdr.size
   (try replace RE := dH (Rw.below (dU RE) hdr))
   clear hdr
   generalize wd.drew = wd at *
   have zl := (Nd.2 2 _ rfl).1
   go_simp
   clear zl
   refine hK.out _ _ (trivial) (fun hHeld => ?_)
   clear hK K
   try simp only [Act.put, sA, sB, sC]
   refine wpAnyH_ready (rs := [3]) (by kernel_rfl) (by simp) ?_
   refine rC rfl (fun K hK => ?_) AllReadyH.nil
   go_simp
   refine (dU CE2 _).mono ?_
   rintro e' wd' ⟨rfl, b6⟩
   replace Nd := Nd.below b6
   replace Yd := Yd.below b6
   replace Ad := ApR.below Ad b6
   replace Bd := bT Bd b6
   replace sd : w5.heap.size ≤ wd'.heap.size := Nat.le_trans sd b6.size
   clear b6
   generalize wd' = wd at *
   (try go_wp2_with fail)
   refine hK.out _ _ (trivial) (fun hHeld => ?_)
   clear hK K
   try simp only [Act.put, sA, sB, sC]
   refine wpAnyH_ready (rs := [4]) (by kernel_rfl) (by simp) ?_
   refine rC rfl (fun K hK => ?_) AllReadyH.nil
   go_simp
   have bE := ba wd (.cells #[.int .i64 k0, .int .i64 k1, .string k2] 53)
   have RE := dH (rwV_one wd ⟨k0, k1, k2⟩ 53 1 (by omega))
   have hgE : Hid (w5.heap.size ≤ wd.heap.size) := sd
   replace Nd := Nd.below bE
   replace Yd := Yd.below bE
   replace Ad := ApR.below Ad bE
   replace Bd := bT Bd bE
   replace sd : w5.heap.size ≤ (wd.alloc (.cells #[.int .i64 k0, .int .i64 k1, .string k2] 53)).heap.size := Nat.le_trans sd bE.size
   generalize hgb : wd.heap.size = eb at *
   clear bE
   generalize wd.alloc (.cells #[.int .i64 k0, .int .i64 k1, .string k2] 53) = wd at *
   refine hK.out _ _ (trivial) (fun hHeld => ?_)
   clear hK K
   try simp only [Act.put, sA, sB, sC]
   refine wpAnyH_ready (rs := [5]) (by kernel_rfl) (by simp) ?_
   refine rC rfl (fun K hK => ?_) AllReadyH.nil
   refine step_apR elemEvent rfl _ _ rfl w0.heap.size _ ms rfl Ad _ [⟨k0, k1, k2⟩] rfl (dU RE) (by simp; omega) (by simp; omega) (by omega) ?_
   intro u w6 O6 g6 t6
   obtain ⟨ua, uc, eu⟩ : ∃ a c, u = .slice a (ms.length + 1) c := by
    obtain ⟨a, c, e⟩ := ApR.slice elemEvent O6
    exact ⟨a, c, by rw [e]; simp⟩
   subst eu
   have T6 : Hid (∀ k, touch (.slice ua (ms.length + 1) uc) = some k → w0.heap.size ≤ k ∧ k ≠ nb) := fun k hk => by
    refine ⟨(ApR.touched elemEvent O6 hk).1, ?_⟩
    rcases t6 with t6 | t6
    ·rw [t6] at hk
     intro e
     subst e
     exact dU NT hk
    ·have := t6 k hk
     omega
   replace Nd := Nd.grown g6 (fun e => dU NT e)
   replace Yd := Yd.grown g6 (fun e => by have := dU NG _ e; omega)
   replace Bd := Bd.grown g6 Bd.size (fun j hj => by have := dU NG _ hj; omega)
   replace sd : w5.heap.size ≤ w6.heap.size := Nat.le_trans sd g6.size
   have Od : ApV w6 w0.heap.size (.slice ua (ms.length + 1) uc) (ms ++ [⟨k0, k1, k2⟩]) := O6
   clear Ad O6 g6 t6 RE
   generalize w6 = wd at *
   refine hK.out _ _ (trivial) (fun hHeld => ?_)
   clear hK K
   try simp only [Act.put, sA, sB, sC]
   refine tY 6 (v := ?_) rfl (by kernel_rfl) (.inl ⟨by rfl, ?_⟩) ‹_› ?_
   rotate_left 1
   ·intro w hSw
    (try dsimp only at hSw)
    first | (go_simp; done) | (go_simp; with_reducible rfl)
   try simp only [Act.put, sA, sB, sC]
   refine wpAnyH_ready (rs := [7]) (by kernel_rfl) (by simp) ?_
   refine rC rfl (fun K hK => ?_) AllReadyH.nil
   obtain ⟨z2, f2⟩ := Nd.2 2 _ rfl
   go_simp
   have N7 := Nd.put 2 (.slice ua (ms.length + 1) uc)
   have Y7 := Yd.far (b' := nb) (o := 2) (by omega) (.slice ua (ms.length + 1) uc)
   have O7 := ApR.put elemEvent Od (b := nb) (o' := 2) (fun e => (dU T6 _ e).2 rfl) (.slice ua (ms.length + 1) uc)
   have B7 := Bd.setCell (p := ⟨nb, 2, none⟩) (by simp only; omega) (.slice ua (ms.length + 1) uc)
   clear z2 f2 Nd Yd Od Bd
   generalize wd.setCell ⟨nb, 2, none⟩ (.slice ua (ms.length + 1) uc) = w7 at *
   refine hK.out _ _ (trivial) (fun hHeld => ?_)
   clear hK K
   try simp only [Act.put, sA, sB, sC]
   refine wpAnyH_done (by kernel_rfl) ?_ _
   refine NoPanic.normal ?_
   obtain ⟨x0, x1, x2⟩ : _ ∧ _ ∧ _ := ⟨(N7.2 0 _ rfl).1, (N7.2 1 _ rfl).1, (N7.2 2 _ rfl).1⟩
   obtain ⟨v0, g0⟩ := Y7.2 0 _ rfl
   obtain ⟨v1, g1⟩ := Y7.2 1 _ rfl
   obtain ⟨v2, g2⟩ := Y7.2 2 _ rfl
   have YY := dH (((Y7.put 0 (.int .i64 e)).put 1 (.int .i64 (o + 1))).put 2 (.slice ua (ms.length + 1) uc))
   have OO := dH (ApR.put elemEvent (ApR.put elemEvent (ApR.put elemEvent O7 (b := w.heap.size + 1) (o' := 0) (fun e => by have := (dU T6 _ e).1; omega) (.int .i64 e)) (b := w.heap.size + 1) (o' := 1) (fun e => by have := (dU T6 _ e).1; omega) (.int .i64 (o + 1))) (b := w.heap.size + 1) (o' := 2) (fun e => by have := (dU T6 _ e).1; omega) (.slice ua (ms.length + 1) uc))
   have BB := dH (((B7.setCell (p := ⟨w.heap.size + 1, 0, none⟩) (by simp only; omega) (.int .i64 e)).setCell (p := ⟨w.heap.size + 1, 1, none⟩) (by simp only; omega) (.int .i64 (o + 1))).setCell (p := ⟨w.heap.size + 1, 2, none⟩) (by simp only; omega) (.slice ua (ms.length + 1) uc))
   clear N7 Y7 O7 B7 CE2
   go_wp2_with fail
   generalize (((w7.setCell ⟨w.heap.size + 1, 0, none⟩ (.int .i64 e)).setCell ⟨w.heap.size + 1, 1, none⟩ (.int .i64 (o + 1))).setCell ⟨w.heap.size + 1, 2, none⟩ (.slice ua (ms.length + 1) uc)) = V at *
   have q0 := ((dU YY).2 0 _ rfl).1
   have q1 := ((dU YY).2 1 _ rfl).1
   have q2 := ((dU YY).2 2 _ rfl).1
   exact bodyPost_ret (v := .agg #[.int .i64 e, .int .i64 (o + 1), .slice ua (ms.length + 1) uc]) (by simp [results, Tryz.results49, go_sem, q0, q1, q2]) rfl (dU GO V _ _ (ApR.mono (dU OO) (by omega)) (dU BB))
  ·have hdr : Below wd.heap.size wd wd.drew := (Below.refl _ _).drew
   replace Nd := Nd.below hdr
   replace Yd := Yd.below hdr
   replace Ad := ApR.below Ad hdr
   replace Bd := bT Bd hdr
   replace sd : w5.heap.size ≤ wd.drew.heap.size := Nat.le_trans sd hdr.size
   (try replace RE := dH (Rw.below (dU RE) hdr))
   clear hdr
   generalize wd.drew = wd at *
   go_simp
   refine (dU CE2 _).mono ?_
   rintro e' wd' ⟨rfl, b6⟩
   replace Nd := Nd.below b6
   replace Yd := Yd.below b6
   replace Ad := ApR.below Ad b6
   replace Bd := bT Bd b6
   replace sd : w5.heap.size ≤ wd'.heap.size := Nat.le_trans sd b6.size
   clear b6
   generalize wd' = wd at *
   (try go_wp2_with fail)
   refine hK.out _ _ (trivial) (fun hHeld => ?_)
   clear hK K
   try simp only [Act.put, sA, sB, sC]
   refine wpAnyH_ready (rs := [1, 4]) (by kernel_rfl) (by simp) ?_
   refine rC rfl (fun K hK => ?_) (rC rfl (fun K hK => ?_) AllReadyH.nil)
   ·have zl := (Nd.2 2 _ rfl).1
    go_simp
    clear zl
    refine hK.out _ _ (trivial) (fun hHeld => ?_)
    clear hK K
    try simp only [Act.put, sA, sB, sC]
    refine wpAnyH_ready (rs := [4]) (by kernel_rfl) (by simp) ?_
    refine rC rfl (fun K hK => ?_) AllReadyH.nil
    go_simp
    have bE := ba wd (.cells #[.int .i64 k0, .int .i64 k1, .string k2] 53)
    have RE := dH (rwV_one wd ⟨k0, k1, k2⟩ 53 1 (by omega))
    have hgE : Hid (w5.heap.size ≤ wd.heap.size) := sd
    replace Nd := Nd.below bE
    replace Yd := Yd.below bE
    replace Ad := ApR.below Ad bE
    replace Bd := bT Bd bE
    replace sd : w5.heap.size ≤ (wd.alloc (.cells #[.int .i64 k0, .int .i64 k1, .string k2] 53)).heap.size := Nat.le_trans sd bE.size
    generalize hgb : wd.heap.size = eb at *
    clear bE
    generalize wd.alloc (.cells #[.int .i64 k0, .int .i64 k1, .string k2] 53) = wd at *
    refine hK.out _ _ (trivial) (fun hHeld => ?_)
    clear hK K
    try simp only [Act.put, sA, sB, sC]
    refine wpAnyH_ready (rs := [5]) (by kernel_rfl) (by simp) ?_
    refine rC rfl (fun K hK => ?_) AllReadyH.nil
    refine step_apR elemEvent rfl _ _ rfl w0.heap.size _ ms rfl Ad _ [⟨k0, k1, k2⟩] rfl (dU RE) (by simp; omega) (by simp; omega) (by omega) ?_
    intro u w6 O6 g6 t6
    obtain ⟨ua, uc, eu⟩ : ∃ a c, u = .slice a (ms.length + 1) c := by
     obtain ⟨a, c, e⟩ := ApR.slice elemEvent O6
     exact ⟨a, c, by rw [e]; simp⟩
    subst eu
    have T6 : Hid (∀ k, touch (.slice ua (ms.length + 1) uc) = some k → w0.heap.size ≤ k ∧ k ≠ nb) := fun k hk => by
     refine ⟨(ApR.touched elemEvent O6 hk).1, ?_⟩
     rcases t6 with t6 | t6
     ·rw [t6] at hk
      intro e
      subst e
      exact dU NT hk
     ·have := t6 k hk
      omega
    replace Nd := Nd.grown g6 (fun e => dU NT e)
    replace Yd := Yd.grown g6 (fun e => by have := dU NG _ e; omega)
    replace Bd := Bd.grown g6 Bd.size (fun j hj => by have := dU NG _ hj; omega)
    replace sd : w5.heap.size ≤ w6.heap.size := Nat.le_trans sd g6.size
    have Od : ApV w6 w0.heap.size (.slice ua (ms.length + 1) uc) (ms ++ [⟨k0, k1, k2⟩]) := O6
    clear Ad O6 g6 t6 RE
    generalize w6 = wd at *
    refine hK.out _ _ (trivial) (fun hHeld => ?_)
    clear hK K
    try simp only [Act.put, sA, sB, sC]
    refine tY 6 (v := ?_) rfl (by kernel_rfl) (.inl ⟨by rfl, ?_⟩) ‹_› ?_
    rotate_left 1
    ·intro w hSw
     (try dsimp only at hSw)
     first | (go_simp; done) | (go_simp; with_reducible rfl)
    try simp only [Act.put, sA, sB, sC]
    refine wpAnyH_ready (rs := [7]) (by kernel_rfl) (by simp) ?_
    refine rC rfl (fun K hK => ?_) AllReadyH.nil
    obtain ⟨z2, f2⟩ := Nd.2 2 _ rfl
    go_simp
    have N7 := Nd.put 2 (.slice ua (ms.length + 1) uc)
    have Y7 := Yd.far (b' := nb) (o := 2) (by omega) (.slice ua (ms.length + 1) uc)
    have O7 := ApR.put elemEvent Od (b := nb) (o' := 2) (fun e => (dU T6 _ e).2 rfl) (.slice ua (ms.length + 1) uc)
    have B7 := Bd.setCell (p := ⟨nb, 2, none⟩) (by simp only; omega) (.slice ua (ms.length + 1) uc)
    clear z2 f2 Nd Yd Od Bd
    generalize wd.setCell ⟨nb, 2, none⟩ (.slice ua (ms.length + 1) uc) = w7 at *
    refine hK.out _ _ (trivial) (fun hHeld => ?_)
    clear hK K
    try simp only [Act.put, sA, sB, sC]
    refine wpAnyH_done (by kernel_rfl) ?_ _
    refine NoPanic.normal ?_
    obtain ⟨x0, x1, x2⟩ : _ ∧ _ ∧ _ := ⟨(N7.2 0 _ rfl).1, (N7.2 1 _ rfl).1, (N7.2 2 _ rfl).1⟩
    obtain ⟨v0, g0⟩ := Y7.2 0 _ rfl
    obtain ⟨v1, g1⟩ := Y7.2 1 _ rfl
    obtain ⟨v2, g2⟩ := Y7.2 2 _ rfl
    have YY := dH (((Y7.put 0 (.int .i64 e)).put 1 (.int .i64 (o + 1))).put 2 (.slice ua (ms.length + 1) uc))
    have OO := dH (ApR.put elemEvent (ApR.put elemEvent (ApR.put elemEvent O7 (b := w.heap.size + 1) (o' := 0) (fun e => by have := (dU T6 _ e).1; omega) (.int .i64 e)) (b := w.heap.size + 1) (o' := 1) (fun e => by have := (dU T6 _ e).1; omega) (.int .i64 (o + 1))) (b := w.heap.size + 1) (o' := 2) (fun e => by have := (dU T6 _ e).1; omega) (.slice ua (ms.length + 1) uc))
    have BB := dH (((B7.setCell (p := ⟨w.heap.size + 1, 0, none⟩) (by simp only; omega) (.int .i64 e)).setCell (p := ⟨w.heap.size + 1, 1, none⟩) (by simp only; omega) (.int .i64 (o + 1))).setCell (p := ⟨w.heap.size + 1, 2, none⟩) (by simp only; omega) (.slice ua (ms.length + 1) uc))
    clear N7 Y7 O7 B7 CE2
    go_wp2_with fail
    generalize (((w7.setCell ⟨w.heap.size + 1, 0, none⟩ (.int .i64 e)).setCell ⟨w.heap.size + 1, 1, none⟩ (.int .i64 (o + 1))).setCell ⟨w.heap.size + 1, 2, none⟩ (.slice ua (ms.length + 1) uc)) = V at *
    have q0 := ((dU YY).2 0 _ rfl).1
    have q1 := ((dU YY).2 1 _ rfl).1
    have q2 := ((dU YY).2 2 _ rfl).1
    exact bodyPost_ret (v := .agg #[.int .i64 e, .int .i64 (o + 1), .slice ua (ms.length + 1) uc]) (by simp [results, Tryz.results49, go_sem, q0, q1, q2]) rfl (dU GO V _ _ (ApR.mono (dU OO) (by omega)) (dU BB))
   ·go_simp
    have bE := ba wd (.cells #[.int .i64 k0, .int .i64 k1, .string k2] 53)
    have RE := dH (rwV_one wd ⟨k0, k1, k2⟩ 53 1 (by omega))
    have hgE : Hid (w5.heap.size ≤ wd.heap.size) := sd
    replace Nd := Nd.below bE
    replace Yd := Yd.below bE
    replace Ad := ApR.below Ad bE
    replace Bd := bT Bd bE
    replace sd : w5.heap.size ≤ (wd.alloc (.cells #[.int .i64 k0, .int .i64 k1, .string k2] 53)).heap.size := Nat.le_trans sd bE.size
    generalize hgb : wd.heap.size = eb at *
    clear bE
    generalize wd.alloc (.cells #[.int .i64 k0, .int .i64 k1, .string k2] 53) = wd at *
    refine hK.out _ _ (trivial) (fun hHeld => ?_)
    clear hK K
    try simp only [Act.put, sA, sB, sC]
    refine wpAnyH_ready (rs := [1]) (by kernel_rfl) (by simp) ?_
    refine rC rfl (fun K hK => ?_) AllReadyH.nil
    have zl := (Nd.2 2 _ rfl).1
    go_simp
    clear zl
    refine hK.out _ _ (trivial) (fun hHeld => ?_)
    clear hK K
    try simp only [Act.put, sA, sB, sC]
    refine wpAnyH_ready (rs := [5]) (by kernel_rfl) (by simp) ?_
    refine rC rfl (fun K hK => ?_) AllReadyH.nil
    refine step_apR elemEvent rfl _ _ rfl w0.heap.size _ ms rfl Ad _ [⟨k0, k1, k2⟩] rfl (dU RE) (by simp; omega) (by simp; omega) (by omega) ?_
    intro u w6 O6 g6 t6
    obtain ⟨ua, uc, eu⟩ : ∃ a c, u = .slice a (ms.length + 1) c := by
     obtain ⟨a, c, e⟩ := ApR.slice elemEvent O6
     exact ⟨a, c, by rw [e]; simp⟩
    subst eu
    have T6 : Hid (∀ k, touch (.slice ua (ms.length + 1) uc) = some k → w0.heap.size ≤ k ∧ k ≠ nb) := fun k hk => by
     refine ⟨(ApR.touched elemEvent O6 hk).1, ?_⟩
     rcases t6 with t6 | t6
     ·rw [t6] at hk
      intro e
      subst e
      exact dU NT hk
     ·have := t6 k hk
      omega
    replace Nd := Nd.grown g6 (fun e => dU NT e)
    replace Yd := Yd.grown g6 (fun e => by have := dU NG _ e; omega)
    replace Bd := Bd.grown g6 Bd.size (fun j hj => by have := dU NG _ hj; omega)
    replace sd : w5.heap.size ≤ w6.heap.size := Nat.le_trans sd g6.size
    have Od : ApV w6 w0.heap.size (.slice ua (ms.length + 1) uc) (ms ++ [⟨k0, k1, k2⟩]) := O6
    clear Ad O6 g6 t6 RE
    generalize w6 = wd at *
    refine hK.out _ _ (trivial) (fun hHeld => ?_)
    clear hK K
    try simp only [Act.put, sA, sB, sC]
    refine tY 6 (v := ?_) rfl (by kernel_rfl) (.inl ⟨by rfl, ?_⟩) ‹_› ?_
    rotate_left 1
    ·intro w hSw
     (try dsimp only at hSw)
     first | (go_simp; done) | (go_simp; with_reducible rfl)
    try simp only [Act.put, sA, sB, sC]
    refine wpAnyH_ready (rs := [7]) (by kernel_rfl) (by simp) ?_
    refine rC rfl (fun K hK => ?_) AllReadyH.nil
    obtain ⟨z2, f2⟩ := Nd.2 2 _ rfl
    go_simp
    have N7 := Nd.put 2 (.slice ua (ms.length + 1) uc)
    have Y7 := Yd.far (b' := nb) (o := 2) (by omega) (.slice ua (ms.length + 1) uc)
    have O7 := ApR.put elemEvent Od (b := nb) (o' := 2) (fun e => (dU T6 _ e).2 rfl) (.slice ua (ms.length + 1) uc)
    have B7 := Bd.setCell (p := ⟨nb, 2, none⟩) (by simp only; omega) (.slice ua (ms.length + 1) uc)
    clear z2 f2 Nd Yd Od Bd
    generalize wd.setCell ⟨nb, 2, none⟩ (.slice ua (ms.length + 1) uc) = w7 at *
    refine hK.out _ _ (trivial) (fun hHeld => ?_)
    clear hK K
    try simp only [Act.put, sA, sB, sC]
    refine wpAnyH_done (by kernel_rfl) ?_ _
    refine NoPanic.normal ?_
    obtain ⟨x0, x1, x2⟩ : _ ∧ _ ∧ _ := ⟨(N7.2 0 _ rfl).1, (N7.2 1 _ rfl).1, (N7.2 2 _ rfl).1⟩
    obtain ⟨v0, g0⟩ := Y7.2 0 _ rfl
    obtain ⟨v1, g1⟩ := Y7.2 1 _ rfl
    obtain ⟨v2, g2⟩ := Y7.2 2 _ rfl
    have YY := dH (((Y7.put 0 (.int .i64 e)).put 1 (.int .i64 (o + 1))).put 2 (.slice ua (ms.length + 1) uc))
    have OO := dH (ApR.put elemEvent (ApR.put elemEvent (ApR.put elemEvent O7 (b := w.heap.size + 1) (o' := 0) (fun e => by have := (dU T6 _ e).1; omega) (.int .i64 e)) (b := w.heap.size + 1) (o' := 1) (fun e => by have := (dU T6 _ e).1; omega) (.int .i64 (o + 1))) (b := w.heap.size + 1) (o' := 2) (fun e => by have := (dU T6 _ e).1; omega) (.slice ua (ms.length + 1) uc))
    have BB := dH (((B7.setCell (p := ⟨w.heap.size + 1, 0, none⟩) (by simp only; omega) (.int .i64 e)).setCell (p := ⟨w.heap.size + 1, 1, none⟩) (by simp only; omega) (.int .i64 (o + 1))).setCell (p := ⟨w.heap.size + 1, 2, none⟩) (by simp only; omega) (.slice ua (ms.length + 1) uc))
    clear N7 Y7 O7 B7 CE2
    go_wp2_with fail
    generalize (((w7.setCell ⟨w.heap.size + 1, 0, none⟩ (.int .i64 e)).setCell ⟨w.heap.size + 1, 1, none⟩ (.int .i64 (o + 1))).setCell ⟨w.heap.size + 1, 2, none⟩ (.slice ua (ms.length + 1) uc)) = V at *
    have q0 := ((dU YY).2 0 _ rfl).1
    have q1 := ((dU YY).2 1 _ rfl).1
    have q2 := ((dU YY).2 2 _ rfl).1
    exact bodyPost_ret (v := .agg #[.int .i64 e, .int .i64 (o + 1), .slice ua (ms.length + 1) uc]) (by simp [results, Tryz.results49, go_sem, q0, q1, q2]) rfl (dU GO V _ _ (ApR.mono (dU OO) (by omega)) (dU BB))
set_option maxHeartbeats 8000000 in
theorem told_loss (v : Value) (m : Rr) (e o : Int) (hf : (Hap.loss e o).fits) (w : World) (hv : RdReader v m w) (hl : m.out.length ≤ 1048576) :
  Calls Tryz.prog 49 #[v, (Hap.loss e o).val] w (AnsV w (tellR m (Hap.loss e o).ev (Hap.loss e o).on.1 (Hap.loss e o).on.2)) := by
 have ba : ∀ (w : World) o, Below w.heap.size w (w.alloc o) := fun w o => (Below.refl _ _).alloc (Nat.le_refl _) o
 have CC := dH fun W (hb : Below w.heap.size w W) => copied_any v m W (hv.below hb) hl
 have CE := dH fun W => eventOf_any (Hap.loss e o) hf W
 have CB := dH fun W => behind_passed e o hf.2.1 hf.2.2 W
 obtain ⟨ra, rc, rfl, -⟩ := formReader hv
 generalize hev : (Hap.loss e o).ev = ev at *
 show Calls Tryz.prog 49 #[_, .iface 164 (.agg #[.int .i64 e, .int .i64 o])] w (AnsV w (tellR m ev e (o + 1)))
 have CE2 : Hid (∀ W, Calls Tryz.prog 105 #[.iface 164 (.agg #[.int .i64 e, .int .i64 o])] W fun e' w' => e' = .returned ev.val ∧ Below W.heap.size W w') := fun W => dU CE W
 have GO : Hid (∀ (W : World) (a : Option Addr) (c : Nat), ApV W w.heap.size (.slice a (m.out.length + 1) c) (m.out ++ [ev]) → Below w.heap.size w W → AnsV w (tellR m ev e (o + 1)) (.returned (.agg #[.int .i64 e, .int .i64 (o + 1), .slice a (m.out.length + 1) c])) W) := fun W a c h1 h2 => ⟨a, c, by simp [tellR], by simpa [tellR] using h1, h2⟩
 generalize AnsV w (tellR m ev e (o + 1)) = Q at *
 unfold AnsV at CC
 obtain ⟨k0, k1, k2⟩ := ev
 unfold Ev.val at CE2
 simp only at CE2
 have hm : ∀ w, (Go.method 334 164 (.agg #[.int .i64 e, .int .i64 o]) "loop.example/g00178/impl.behind").run Tryz.prog w = .ok (208, .agg #[.int .i64 e, .int .i64 o]) w := fun w => by kernel_rfl
 generalize m.epoch = y0 at *
 generalize m.off = y1 at *
 generalize m.out = ms at *
 clear hv hf CE hev
 have Y0 := BxZ.new (B := w.heap.size) (w.alloc (.cells #[.int .i64 y0, .int .i64 y1, .slice ra ms.length rc] 45)) [.int .i64 0, .int .i64 0, .slice none 0 0] 45 (by simp)
 rw [show (w.alloc (.cells #[.int .i64 y0, .int .i64 y1, .slice ra ms.length rc] 45)).heap.size = w.heap.size + 1 from by simp] at Y0
 have B0 := bT (ba w (.cells #[.int .i64 y0, .int .i64 y1, .slice ra ms.length rc] 45)) (ba _ (.cells #[.int .i64 0, .int .i64 0, .slice none 0 0] 45))
 have e3 : Hid (((w.alloc (.cells #[.int .i64 y0, .int .i64 y1, .slice ra ms.length rc] 45)).alloc (.cells #[.int .i64 0, .int .i64 0, .slice none 0 0] 45)).heap.size = w.heap.size + 2) := by simp [Hid]
 go_enter Tryz.func49, Tryz.ntmps49
 go_wp2_with fail
 generalize (w.alloc (.cells #[.int .i64 y0, .int .i64 y1, .slice ra ms.length rc] 45)).alloc (.cells #[.int .i64 0, .int .i64 0, .slice none 0 0] 45) = w0 at *
 refine (dU CC _ B0).mono ?_
 rintro e' w1 ⟨a1, c1, rfl, O1, b1⟩
 have s0 := dU e3
 have s1 := b1.size
 have bO := ba w1 (.cells #[.int .i64 y0, .int .i64 y1, .slice a1 ms.length c1] 45)
 have N2 := BxZ.new (B := w.heap.size + 2) w1 [.int .i64 y0, .int .i64 y1, .slice a1 ms.length c1] 45 (by omega)
 have Y2 := Y0.below (bT b1 bO)
 have A2 := ApR.below O1 bO
 have NT : Hid (touch (.slice a1 ms.length c1) ≠ some w1.heap.size) := fun e => by have := (ApR.touched elemEvent O1 e).2; omega
 have NG : Hid (∀ k, touch (.slice a1 ms.length c1) = some k → w0.heap.size ≤ k) := fun k e => (ApR.touched elemEvent O1 e).1
 have B2 := bT (bT B0 b1) bO
 have s2 : (w1.alloc (.cells #[.int .i64 y0, .int .i64 y1, .slice a1 ms.length c1] 45)).heap.size = w1.heap.size + 1 := by simp
 clear CC Y0 O1 b1 bO B0 e3
 go_wp2_with fail
 generalize (w1.alloc (.cells #[.int .i64 y0, .int .i64 y1, .slice a1 ms.length c1] 45)) = w2 at *
 generalize hnb : w1.heap.size = nb at *
 refine (dU CB _).mono ?_
 rintro e' w3 ⟨rfl, b3⟩
 have s3 := b3.size
 have bP := ba w3 (.cells #[.int .i64 e, .int .i64 (o + 1)] 76)
 have P4 := Bx.new w3 [.int .i64 e, .int .i64 (o + 1)] 76
 have N4 := (N2.below b3).below bP
 have Y4 := (Y2.below b3).below bP
 have A4 := ApR.below (ApR.below A2 b3) bP
 have B4 := bT (bT B2 b3) bP
 have s4 : (w3.alloc (.cells #[.int .i64 e, .int .i64 (o + 1)] 76)).heap.size = w3.heap.size + 1 := by simp
 obtain ⟨z0, f0⟩ := N4.2 0 _ rfl
 obtain ⟨z1, f1⟩ := N4.2 1 _ rfl
 obtain ⟨p0, p1⟩ : _ ∧ _ := ⟨P4 0 _ rfl, P4 1 _ rfl⟩
 have hpn : w3.heap.size ≠ nb := by omega
 clear CB N2 Y2 A2 B2 b3 bP hm
 go_upto_region 3 with fail
 generalize w3.alloc (.cells #[.int .i64 e, .int .i64 (o + 1)] 76) = w4 at *
 generalize hpb : w3.heap.size = pb at *
 go_wp2_with fail
 go_region
 all_goals
  have N5 := (N4.put 0 (.int .i64 e)).put 1 (.int .i64 (o + 1))
  have Y5 := (Y4.far (b' := nb) (o := 0) (by omega) (.int .i64 e)).far (b' := nb) (o := 1) (by omega) (.int .i64 (o + 1))
  have A5 := ApR.put elemEvent (ApR.put elemEvent A4 (b := nb) (o' := 0) (dU NT) (.int .i64 e)) (b := nb) (o' := 1) (dU NT) (.int .i64 (o + 1))
  have B5 := (B4.setCell (p := ⟨nb, 0, none⟩) (by simp only; omega) (.int .i64 e)).setCell (p := ⟨nb, 1, none⟩) (by simp only; omega) (.int .i64 (o + 1))
  have s5 : ((w4.setCell ⟨nb, 0, none⟩ (.int .i64 e)).setCell ⟨nb, 1, none⟩ (.int .i64 (o + 1))).heap.size = w4.heap.size := by simp
  clear z0 f0 z1 f1 p0 p1 P4 N4 Y4 A4 B4
  go_upto_region 4 with fail
  generalize ((w4.setCell ⟨nb, 0, none⟩ (.int .i64 e)).setCell ⟨nb, 1, none⟩ (.int .i64 (o + 1))) = w5 at *
  have bdr : Below w5.heap.size w5 w5.drew := (Below.refl _ _).drew
  have Nd := N5.below bdr
  have Yd := Y5.below bdr
  have Ad := ApR.below A5 bdr
  have Bd := bT B5 bdr
  have sd : w5.heap.size ≤ w5.drew.heap.size := bdr.size
  clear N5 Y5 A5 B5 bdr
  go_wp2_with fail
  refine wp_region_noPanic ?_
  refine wp_region_held_drew (S := fun _ => True) (by kernel_rfl) (trivial) (fun hHeld => ?_)
  generalize w5.drew = wd at *
  refine tY 0 (v := ?_) rfl (by kernel_rfl) (.inl ⟨by rfl, ?_⟩) ‹_› ?_
  rotate_left 1
  ·intro w hSw
   (try dsimp only at hSw)
   first | (go_simp; done) | (go_simp; with_reducible rfl)
  try simp only [Act.put, sA, sB, sC]
  refine tY 2 (v := ?_) rfl (by kernel_rfl) (.inl ⟨by rfl, ?_⟩) ‹_› ?_
  rotate_left 1
  ·intro w hSw
   (try dsimp only at hSw)
   first | (go_simp; done) | (go_simp; with_reducible rfl)
  try simp only [Act.put, sA, sB, sC]
  refine wpAnyH_ready (rs := [1, 3]) (by kernel_rfl) (by simp) ?_
  refine rC rfl (fun K hK => ?_) (rC rfl (fun K hK => ?_) AllReadyH.nil)
  ·have hdr : Below wd.heap.size wd wd.drew := (Below.refl _ _).drew
   replace Nd := Nd.below hdr
   replace Yd := Yd.below hdr
   replace Ad := ApR.below Ad hdr
   replace Bd := bT Bd hdr
   replace sd : w5.heap.size ≤ wd.drew.heap.size := Nat.le_trans sd hdr.size
   (try replace RE := dH (Rw.below (dU RE) hdr))
   clear hdr
   generalize wd.drew = wd at *
   have zl := (Nd.2 2 _ rfl).1
   go_simp
   clear zl
   refine hK.out _ _ (trivial) (fun hHeld => ?_)
   clear hK K
   try simp only [Act.put, sA, sB, sC]
   refine wpAnyH_ready (rs := [3]) (by kernel_rfl) (by simp) ?_
   refine rC rfl (fun K hK => ?_) AllReadyH.nil
   go_simp
   refine (dU CE2 _).mono ?_
   rintro e' wd' ⟨rfl, b6⟩
   replace Nd := Nd.below b6
   replace Yd := Yd.below b6
   replace Ad := ApR.below Ad b6
   replace Bd := bT Bd b6
   replace sd : w5.heap.size ≤ wd'.heap.size := Nat.le_trans sd b6.size
   clear b6
   generalize wd' = wd at *
   (try go_wp2_with fail)
   refine hK.out _ _ (trivial) (fun hHeld => ?_)
   clear hK K
   try simp only [Act.put, sA, sB, sC]
   refine wpAnyH_ready (rs := [4]) (by kernel_rfl) (by simp) ?_
   refine rC rfl (fun K hK => ?_) AllReadyH.nil
   go_simp
   have bE := ba wd (.cells #[.int .i64 k0, .int .i64 k1, .string k2] 53)
   have RE := dH (rwV_one wd ⟨k0, k1, k2⟩ 53 1 (by omega))
   have hgE : Hid (w5.heap.size ≤ wd.heap.size) := sd
   replace Nd := Nd.below bE
   replace Yd := Yd.below bE
   replace Ad := ApR.below Ad bE
   replace Bd := bT Bd bE
   replace sd : w5.heap.size ≤ (wd.alloc (.cells #[.int .i64 k0, .int .i64 k1, .string k2] 53)).heap.size := Nat.le_trans sd bE.size
   generalize hgb : wd.heap.size = eb at *
   clear bE
   generalize wd.alloc (.cells #[.int .i64 k0, .int .i64 k1, .string k2] 53) = wd at *
   refine hK.out _ _ (trivial) (fun hHeld => ?_)
   clear hK K
   try simp only [Act.put, sA, sB, sC]
   refine wpAnyH_ready (rs := [5]) (by kernel_rfl) (by simp) ?_
   refine rC rfl (fun K hK => ?_) AllReadyH.nil
   refine step_apR elemEvent rfl _ _ rfl w0.heap.size _ ms rfl Ad _ [⟨k0, k1, k2⟩] rfl (dU RE) (by simp; omega) (by simp; omega) (by omega) ?_
   intro u w6 O6 g6 t6
   obtain ⟨ua, uc, eu⟩ : ∃ a c, u = .slice a (ms.length + 1) c := by
    obtain ⟨a, c, e⟩ := ApR.slice elemEvent O6
    exact ⟨a, c, by rw [e]; simp⟩
   subst eu
   have T6 : Hid (∀ k, touch (.slice ua (ms.length + 1) uc) = some k → w0.heap.size ≤ k ∧ k ≠ nb) := fun k hk => by
    refine ⟨(ApR.touched elemEvent O6 hk).1, ?_⟩
    rcases t6 with t6 | t6
    ·rw [t6] at hk
     intro e
     subst e
     exact dU NT hk
    ·have := t6 k hk
     omega
   replace Nd := Nd.grown g6 (fun e => dU NT e)
   replace Yd := Yd.grown g6 (fun e => by have := dU NG _ e; omega)
   replace Bd := Bd.grown g6 Bd.size (fun j hj => by have := dU NG _ hj; omega)
   replace sd : w5.heap.size ≤ w6.heap.size := Nat.le_trans sd g6.size
   have Od : ApV w6 w0.heap.size (.slice ua (ms.length + 1) uc) (ms ++ [⟨k0, k1, k2⟩]) := O6
   clear Ad O6 g6 t6 RE
   generalize w6 = wd at *
   refine hK.out _ _ (trivial) (fun hHeld => ?_)
   clear hK K
   try simp only [Act.put, sA, sB, sC]
   refine tY 6 (v := ?_) rfl (by kernel_rfl) (.inl ⟨by rfl, ?_⟩) ‹_› ?_
   rotate_left 1
   ·intro w hSw
    (try dsimp only at hSw)
    first | (go_simp; done) | (go_simp; with_reducible rfl)
   try simp only [Act.put, sA, sB, sC]
   refine wpAnyH_ready (rs := [7]) (by kernel_rfl) (by simp) ?_
   refine rC rfl (fun K hK => ?_) AllReadyH.nil
   obtain ⟨z2, f2⟩ := Nd.2 2 _ rfl
   go_simp
   have N7 := Nd.put 2 (.slice ua (ms.length + 1) uc)
   have Y7 := Yd.far (b' := nb) (o := 2) (by omega) (.slice ua (ms.length + 1) uc)
   have O7 := ApR.put elemEvent Od (b := nb) (o' := 2) (fun e => (dU T6 _ e).2 rfl) (.slice ua (ms.length + 1) uc)
   have B7 := Bd.setCell (p := ⟨nb, 2, none⟩) (by simp only; omega) (.slice ua (ms.length + 1) uc)
   clear z2 f2 Nd Yd Od Bd
   generalize wd.setCell ⟨nb, 2, none⟩ (.slice ua (ms.length + 1) uc) = w7 at *
   refine hK.out _ _ (trivial) (fun hHeld => ?_)
   clear hK K
   try simp only [Act.put, sA, sB, sC]
   refine wpAnyH_done (by kernel_rfl) ?_ _
   refine NoPanic.normal ?_
   obtain ⟨x0, x1, x2⟩ : _ ∧ _ ∧ _ := ⟨(N7.2 0 _ rfl).1, (N7.2 1 _ rfl).1, (N7.2 2 _ rfl).1⟩
   obtain ⟨v0, g0⟩ := Y7.2 0 _ rfl
   obtain ⟨v1, g1⟩ := Y7.2 1 _ rfl
   obtain ⟨v2, g2⟩ := Y7.2 2 _ rfl
   have YY := dH (((Y7.put 0 (.int .i64 e)).put 1 (.int .i64 (o + 1))).put 2 (.slice ua (ms.length + 1) uc))
   have OO := dH (ApR.put elemEvent (ApR.put elemEvent (ApR.put elemEvent O7 (b := w.heap.size + 1) (o' := 0) (fun e => by have := (dU T6 _ e).1; omega) (.int .i64 e)) (b := w.heap.size + 1) (o' := 1) (fun e => by have := (dU T6 _ e).1; omega) (.int .i64 (o + 1))) (b := w.heap.size + 1) (o' := 2) (fun e => by have := (dU T6 _ e).1; omega) (.slice ua (ms.length + 1) uc))
   have BB := dH (((B7.setCell (p := ⟨w.heap.size + 1, 0, none⟩) (by simp only; omega) (.int .i64 e)).setCell (p := ⟨w.heap.size + 1, 1, none⟩) (by simp only; omega) (.int .i64 (o + 1))).setCell (p := ⟨w.heap.size + 1, 2, none⟩) (by simp only; omega) (.slice ua (ms.length + 1) uc))
   clear N7 Y7 O7 B7 CE2
   go_wp2_with fail
   generalize (((w7.setCell ⟨w.heap.size + 1, 0, none⟩ (.int .i64 e)).setCell ⟨w.heap.size + 1, 1, none⟩ (.int .i64 (o + 1))).setCell ⟨w.heap.size + 1, 2, none⟩ (.slice ua (ms.length + 1) uc)) = V at *
   have q0 := ((dU YY).2 0 _ rfl).1
   have q1 := ((dU YY).2 1 _ rfl).1
   have q2 := ((dU YY).2 2 _ rfl).1
   exact bodyPost_ret (v := .agg #[.int .i64 e, .int .i64 (o + 1), .slice ua (ms.length + 1) uc]) (by simp [results, Tryz.results49, go_sem, q0, q1, q2]) rfl (dU GO V _ _ (ApR.mono (dU OO) (by omega)) (dU BB))
  ·have hdr : Below wd.heap.size wd wd.drew := (Below.refl _ _).drew
   replace Nd := Nd.below hdr
   replace Yd := Yd.below hdr
   replace Ad := ApR.below Ad hdr
   replace Bd := bT Bd hdr
   replace sd : w5.heap.size ≤ wd.drew.heap.size := Nat.le_trans sd hdr.size
   (try replace RE := dH (Rw.below (dU RE) hdr))
   clear hdr
   generalize wd.drew = wd at *
   go_simp
   refine (dU CE2 _).mono ?_
   rintro e' wd' ⟨rfl, b6⟩
   replace Nd := Nd.below b6
   replace Yd := Yd.below b6
   replace Ad := ApR.below Ad b6
   replace Bd := bT Bd b6
   replace sd : w5.heap.size ≤ wd'.heap.size := Nat.le_trans sd b6.size
   clear b6
   generalize wd' = wd at *
   (try go_wp2_with fail)
   refine hK.out _ _ (trivial) (fun hHeld => ?_)
   clear hK K
   try simp only [Act.put, sA, sB, sC]
   refine wpAnyH_ready (rs := [1, 4]) (by kernel_rfl) (by simp) ?_
   refine rC rfl (fun K hK => ?_) (rC rfl (fun K hK => ?_) AllReadyH.nil)
   ·have zl := (Nd.2 2 _ rfl).1
    go_simp
    clear zl
    refine hK.out _ _ (trivial) (fun hHeld => ?_)
    clear hK K
    try simp only [Act.put, sA, sB, sC]
    refine wpAnyH_ready (rs := [4]) (by kernel_rfl) (by simp) ?_
    refine rC rfl (fun K hK => ?_) AllReadyH.nil
    go_simp
    have bE := ba wd (.cells #[.int .i64 k0, .int .i64 k1, .string k2] 53)
    have RE := dH (rwV_one wd ⟨k0, k1, k2⟩ 53 1 (by omega))
    have hgE : Hid (w5.heap.size ≤ wd.heap.size) := sd
    replace Nd := Nd.below bE
    replace Yd := Yd.below bE
    replace Ad := ApR.below Ad bE
    replace Bd := bT Bd bE
    replace sd : w5.heap.size ≤ (wd.alloc (.cells #[.int .i64 k0, .int .i64 k1, .string k2] 53)).heap.size := Nat.le_trans sd bE.size
    generalize hgb : wd.heap.size = eb at *
    clear bE
    generalize wd.alloc (.cells #[.int .i64 k0, .int .i64 k1, .string k2] 53) = wd at *
    refine hK.out _ _ (trivial) (fun hHeld => ?_)
    clear hK K
    try simp only [Act.put, sA, sB, sC]
    refine wpAnyH_ready (rs := [5]) (by kernel_rfl) (by simp) ?_
    refine rC rfl (fun K hK => ?_) AllReadyH.nil
    refine step_apR elemEvent rfl _ _ rfl w0.heap.size _ ms rfl Ad _ [⟨k0, k1, k2⟩] rfl (dU RE) (by simp; omega) (by simp; omega) (by omega) ?_
    intro u w6 O6 g6 t6
    obtain ⟨ua, uc, eu⟩ : ∃ a c, u = .slice a (ms.length + 1) c := by
     obtain ⟨a, c, e⟩ := ApR.slice elemEvent O6
     exact ⟨a, c, by rw [e]; simp⟩
    subst eu
    have T6 : Hid (∀ k, touch (.slice ua (ms.length + 1) uc) = some k → w0.heap.size ≤ k ∧ k ≠ nb) := fun k hk => by
     refine ⟨(ApR.touched elemEvent O6 hk).1, ?_⟩
     rcases t6 with t6 | t6
     ·rw [t6] at hk
      intro e
      subst e
      exact dU NT hk
     ·have := t6 k hk
      omega
    replace Nd := Nd.grown g6 (fun e => dU NT e)
    replace Yd := Yd.grown g6 (fun e => by have := dU NG _ e; omega)
    replace Bd := Bd.grown g6 Bd.size (fun j hj => by have := dU NG _ hj; omega)
    replace sd : w5.heap.size ≤ w6.heap.size := Nat.le_trans sd g6.size
    have Od : ApV w6 w0.heap.size (.slice ua (ms.length + 1) uc) (ms ++ [⟨k0, k1, k2⟩]) := O6
    clear Ad O6 g6 t6 RE
    generalize w6 = wd at *
    refine hK.out _ _ (trivial) (fun hHeld => ?_)
    clear hK K
    try simp only [Act.put, sA, sB, sC]
    refine tY 6 (v := ?_) rfl (by kernel_rfl) (.inl ⟨by rfl, ?_⟩) ‹_› ?_
    rotate_left 1
    ·intro w hSw
     (try dsimp only at hSw)
     first | (go_simp; done) | (go_simp; with_reducible rfl)
    try simp only [Act.put, sA, sB, sC]
    refine wpAnyH_ready (rs := [7]) (by kernel_rfl) (by simp) ?_
    refine rC rfl (fun K hK => ?_) AllReadyH.nil
    obtain ⟨z2, f2⟩ := Nd.2 2 _ rfl
    go_simp
    have N7 := Nd.put 2 (.slice ua (ms.length + 1) uc)
    have Y7 := Yd.far (b' := nb) (o := 2) (by omega) (.slice ua (ms.length + 1) uc)
    have O7 := ApR.put elemEvent Od (b := nb) (o' := 2) (fun e => (dU T6 _ e).2 rfl) (.slice ua (ms.length + 1) uc)
    have B7 := Bd.setCell (p := ⟨nb, 2, none⟩) (by simp only; omega) (.slice ua (ms.length + 1) uc)
    clear z2 f2 Nd Yd Od Bd
    generalize wd.setCell ⟨nb, 2, none⟩ (.slice ua (ms.length + 1) uc) = w7 at *
    refine hK.out _ _ (trivial) (fun hHeld => ?_)
    clear hK K
    try simp only [Act.put, sA, sB, sC]
    refine wpAnyH_done (by kernel_rfl) ?_ _
    refine NoPanic.normal ?_
    obtain ⟨x0, x1, x2⟩ : _ ∧ _ ∧ _ := ⟨(N7.2 0 _ rfl).1, (N7.2 1 _ rfl).1, (N7.2 2 _ rfl).1⟩
    obtain ⟨v0, g0⟩ := Y7.2 0 _ rfl
    obtain ⟨v1, g1⟩ := Y7.2 1 _ rfl
    obtain ⟨v2, g2⟩ := Y7.2 2 _ rfl
    have YY := dH (((Y7.put 0 (.int .i64 e)).put 1 (.int .i64 (o + 1))).put 2 (.slice ua (ms.length + 1) uc))
    have OO := dH (ApR.put elemEvent (ApR.put elemEvent (ApR.put elemEvent O7 (b := w.heap.size + 1) (o' := 0) (fun e => by have := (dU T6 _ e).1; omega) (.int .i64 e)) (b := w.heap.size + 1) (o' := 1) (fun e => by have := (dU T6 _ e).1; omega) (.int .i64 (o + 1))) (b := w.heap.size + 1) (o' := 2) (fun e => by have := (dU T6 _ e).1; omega) (.slice ua (ms.length + 1) uc))
    have BB := dH (((B7.setCell (p := ⟨w.heap.size + 1, 0, none⟩) (by simp only; omega) (.int .i64 e)).setCell (p := ⟨w.heap.size + 1, 1, none⟩) (by simp only; omega) (.int .i64 (o + 1))).setCell (p := ⟨w.heap.size + 1, 2, none⟩) (by simp only; omega) (.slice ua (ms.length + 1) uc))
    clear N7 Y7 O7 B7 CE2
    go_wp2_with fail
    generalize (((w7.setCell ⟨w.heap.size + 1, 0, none⟩ (.int .i64 e)).setCell ⟨w.heap.size + 1, 1, none⟩ (.int .i64 (o + 1))).setCell ⟨w.heap.size + 1, 2, none⟩ (.slice ua (ms.length + 1) uc)) = V at *
    have q0 := ((dU YY).2 0 _ rfl).1
    have q1 := ((dU YY).2 1 _ rfl).1
    have q2 := ((dU YY).2 2 _ rfl).1
    exact bodyPost_ret (v := .agg #[.int .i64 e, .int .i64 (o + 1), .slice ua (ms.length + 1) uc]) (by simp [results, Tryz.results49, go_sem, q0, q1, q2]) rfl (dU GO V _ _ (ApR.mono (dU OO) (by omega)) (dU BB))
   ·go_simp
    have bE := ba wd (.cells #[.int .i64 k0, .int .i64 k1, .string k2] 53)
    have RE := dH (rwV_one wd ⟨k0, k1, k2⟩ 53 1 (by omega))
    have hgE : Hid (w5.heap.size ≤ wd.heap.size) := sd
    replace Nd := Nd.below bE
    replace Yd := Yd.below bE
    replace Ad := ApR.below Ad bE
    replace Bd := bT Bd bE
    replace sd : w5.heap.size ≤ (wd.alloc (.cells #[.int .i64 k0, .int .i64 k1, .string k2] 53)).heap.size := Nat.le_trans sd bE.size
    generalize hgb : wd.heap.size = eb at *
    clear bE
    generalize wd.alloc (.cells #[.int .i64 k0, .int .i64 k1, .string k2] 53) = wd at *
    refine hK.out _ _ (trivial) (fun hHeld => ?_)
    clear hK K
    try simp only [Act.put, sA, sB, sC]
    refine wpAnyH_ready (rs := [1]) (by kernel_rfl) (by simp) ?_
    refine rC rfl (fun K hK => ?_) AllReadyH.nil
    have zl := (Nd.2 2 _ rfl).1
    go_simp
    clear zl
    refine hK.out _ _ (trivial) (fun hHeld => ?_)
    clear hK K
    try simp only [Act.put, sA, sB, sC]
    refine wpAnyH_ready (rs := [5]) (by kernel_rfl) (by simp) ?_
    refine rC rfl (fun K hK => ?_) AllReadyH.nil
    refine step_apR elemEvent rfl _ _ rfl w0.heap.size _ ms rfl Ad _ [⟨k0, k1, k2⟩] rfl (dU RE) (by simp; omega) (by simp; omega) (by omega) ?_
    intro u w6 O6 g6 t6
    obtain ⟨ua, uc, eu⟩ : ∃ a c, u = .slice a (ms.length + 1) c := by
     obtain ⟨a, c, e⟩ := ApR.slice elemEvent O6
     exact ⟨a, c, by rw [e]; simp⟩
    subst eu
    have T6 : Hid (∀ k, touch (.slice ua (ms.length + 1) uc) = some k → w0.heap.size ≤ k ∧ k ≠ nb) := fun k hk => by
     refine ⟨(ApR.touched elemEvent O6 hk).1, ?_⟩
     rcases t6 with t6 | t6
     ·rw [t6] at hk
      intro e
      subst e
      exact dU NT hk
     ·have := t6 k hk
      omega
    replace Nd := Nd.grown g6 (fun e => dU NT e)
    replace Yd := Yd.grown g6 (fun e => by have := dU NG _ e; omega)
    replace Bd := Bd.grown g6 Bd.size (fun j hj => by have := dU NG _ hj; omega)
    replace sd : w5.heap.size ≤ w6.heap.size := Nat.le_trans sd g6.size
    have Od : ApV w6 w0.heap.size (.slice ua (ms.length + 1) uc) (ms ++ [⟨k0, k1, k2⟩]) := O6
    clear Ad O6 g6 t6 RE
    generalize w6 = wd at *
    refine hK.out _ _ (trivial) (fun hHeld => ?_)
    clear hK K
    try simp only [Act.put, sA, sB, sC]
    refine tY 6 (v := ?_) rfl (by kernel_rfl) (.inl ⟨by rfl, ?_⟩) ‹_› ?_
    rotate_left 1
    ·intro w hSw
     (try dsimp only at hSw)
     first | (go_simp; done) | (go_simp; with_reducible rfl)
    try simp only [Act.put, sA, sB, sC]
    refine wpAnyH_ready (rs := [7]) (by kernel_rfl) (by simp) ?_
    refine rC rfl (fun K hK => ?_) AllReadyH.nil
    obtain ⟨z2, f2⟩ := Nd.2 2 _ rfl
    go_simp
    have N7 := Nd.put 2 (.slice ua (ms.length + 1) uc)
    have Y7 := Yd.far (b' := nb) (o := 2) (by omega) (.slice ua (ms.length + 1) uc)
    have O7 := ApR.put elemEvent Od (b := nb) (o' := 2) (fun e => (dU T6 _ e).2 rfl) (.slice ua (ms.length + 1) uc)
    have B7 := Bd.setCell (p := ⟨nb, 2, none⟩) (by simp only; omega) (.slice ua (ms.length + 1) uc)
    clear z2 f2 Nd Yd Od Bd
    generalize wd.setCell ⟨nb, 2, none⟩ (.slice ua (ms.length + 1) uc) = w7 at *
    refine hK.out _ _ (trivial) (fun hHeld => ?_)
    clear hK K
    try simp only [Act.put, sA, sB, sC]
    refine wpAnyH_done (by kernel_rfl) ?_ _
    refine NoPanic.normal ?_
    obtain ⟨x0, x1, x2⟩ : _ ∧ _ ∧ _ := ⟨(N7.2 0 _ rfl).1, (N7.2 1 _ rfl).1, (N7.2 2 _ rfl).1⟩
    obtain ⟨v0, g0⟩ := Y7.2 0 _ rfl
    obtain ⟨v1, g1⟩ := Y7.2 1 _ rfl
    obtain ⟨v2, g2⟩ := Y7.2 2 _ rfl
    have YY := dH (((Y7.put 0 (.int .i64 e)).put 1 (.int .i64 (o + 1))).put 2 (.slice ua (ms.length + 1) uc))
    have OO := dH (ApR.put elemEvent (ApR.put elemEvent (ApR.put elemEvent O7 (b := w.heap.size + 1) (o' := 0) (fun e => by have := (dU T6 _ e).1; omega) (.int .i64 e)) (b := w.heap.size + 1) (o' := 1) (fun e => by have := (dU T6 _ e).1; omega) (.int .i64 (o + 1))) (b := w.heap.size + 1) (o' := 2) (fun e => by have := (dU T6 _ e).1; omega) (.slice ua (ms.length + 1) uc))
    have BB := dH (((B7.setCell (p := ⟨w.heap.size + 1, 0, none⟩) (by simp only; omega) (.int .i64 e)).setCell (p := ⟨w.heap.size + 1, 1, none⟩) (by simp only; omega) (.int .i64 (o + 1))).setCell (p := ⟨w.heap.size + 1, 2, none⟩) (by simp only; omega) (.slice ua (ms.length + 1) uc))
    clear N7 Y7 O7 B7 CE2
    go_wp2_with fail
    generalize (((w7.setCell ⟨w.heap.size + 1, 0, none⟩ (.int .i64 e)).setCell ⟨w.heap.size + 1, 1, none⟩ (.int .i64 (o + 1))).setCell ⟨w.heap.size + 1, 2, none⟩ (.slice ua (ms.length + 1) uc)) = V at *
    have q0 := ((dU YY).2 0 _ rfl).1
    have q1 := ((dU YY).2 1 _ rfl).1
    have q2 := ((dU YY).2 2 _ rfl).1
    exact bodyPost_ret (v := .agg #[.int .i64 e, .int .i64 (o + 1), .slice ua (ms.length + 1) uc]) (by simp [results, Tryz.results49, go_sem, q0, q1, q2]) rfl (dU GO V _ _ (ApR.mono (dU OO) (by omega)) (dU BB))
set_option maxHeartbeats 8000000 in
theorem told_era (v : Value) (m : Rr) (n : Int) (hf : (Hap.era n).fits) (w : World) (hv : RdReader v m w) (hl : m.out.length ≤ 1048576) :
  Calls Tryz.prog 49 #[v, (Hap.era n).val] w (AnsV w (tellR m (Hap.era n).ev (Hap.era n).on.1 (Hap.era n).on.2)) := by
 have ba : ∀ (w : World) o, Below w.heap.size w (w.alloc o) := fun w o => (Below.refl _ _).alloc (Nat.le_refl _) o
 have CC := dH fun W (hb : Below w.heap.size w W) => copied_any v m W (hv.below hb) hl
 have CE := dH fun W => eventOf_any (Hap.era n) hf W
 have CB := dH fun W => behind_era n W
 obtain ⟨ra, rc, rfl, -⟩ := formReader hv
 generalize hev : (Hap.era n).ev = ev at *
 show Calls Tryz.prog 49 #[_, .iface 132 (.agg #[.int .i64 n])] w (AnsV w (tellR m ev n 1))
 have CE2 : Hid (∀ W, Calls Tryz.prog 105 #[.iface 132 (.agg #[.int .i64 n])] W fun e' w' => e' = .returned ev.val ∧ Below W.heap.size W w') := fun W => dU CE W
 have GO : Hid (∀ (W : World) (a : Option Addr) (c : Nat), ApV W w.heap.size (.slice a (m.out.length + 1) c) (m.out ++ [ev]) → Below w.heap.size w W → AnsV w (tellR m ev n 1) (.returned (.agg #[.int .i64 n, .int .i64 1, .slice a (m.out.length + 1) c])) W) := fun W a c h1 h2 => ⟨a, c, by simp [tellR], by simpa [tellR] using h1, h2⟩
 generalize AnsV w (tellR m ev n 1) = Q at *
 unfold AnsV at CC
 obtain ⟨k0, k1, k2⟩ := ev
 unfold Ev.val at CE2
 simp only at CE2
 have hm : ∀ w, (Go.method 334 132 (.agg #[.int .i64 n]) "loop.example/g00178/impl.behind").run Tryz.prog w = .ok (209, .agg #[.int .i64 n]) w := fun w => by kernel_rfl
 generalize m.epoch = y0 at *
 generalize m.off = y1 at *
 generalize m.out = ms at *
 clear hv hf CE hev
 have Y0 := BxZ.new (B := w.heap.size) (w.alloc (.cells #[.int .i64 y0, .int .i64 y1, .slice ra ms.length rc] 45)) [.int .i64 0, .int .i64 0, .slice none 0 0] 45 (by simp)
 rw [show (w.alloc (.cells #[.int .i64 y0, .int .i64 y1, .slice ra ms.length rc] 45)).heap.size = w.heap.size + 1 from by simp] at Y0
 have B0 := bT (ba w (.cells #[.int .i64 y0, .int .i64 y1, .slice ra ms.length rc] 45)) (ba _ (.cells #[.int .i64 0, .int .i64 0, .slice none 0 0] 45))
 have e3 : Hid (((w.alloc (.cells #[.int .i64 y0, .int .i64 y1, .slice ra ms.length rc] 45)).alloc (.cells #[.int .i64 0, .int .i64 0, .slice none 0 0] 45)).heap.size = w.heap.size + 2) := by simp [Hid]
 go_enter Tryz.func49, Tryz.ntmps49
 go_wp2_with fail
 generalize (w.alloc (.cells #[.int .i64 y0, .int .i64 y1, .slice ra ms.length rc] 45)).alloc (.cells #[.int .i64 0, .int .i64 0, .slice none 0 0] 45) = w0 at *
 refine (dU CC _ B0).mono ?_
 rintro e' w1 ⟨a1, c1, rfl, O1, b1⟩
 have s0 := dU e3
 have s1 := b1.size
 have bO := ba w1 (.cells #[.int .i64 y0, .int .i64 y1, .slice a1 ms.length c1] 45)
 have N2 := BxZ.new (B := w.heap.size + 2) w1 [.int .i64 y0, .int .i64 y1, .slice a1 ms.length c1] 45 (by omega)
 have Y2 := Y0.below (bT b1 bO)
 have A2 := ApR.below O1 bO
 have NT : Hid (touch (.slice a1 ms.length c1) ≠ some w1.heap.size) := fun e => by have := (ApR.touched elemEvent O1 e).2; omega
 have NG : Hid (∀ k, touch (.slice a1 ms.length c1) = some k → w0.heap.size ≤ k) := fun k e => (ApR.touched elemEvent O1 e).1
 have B2 := bT (bT B0 b1) bO
 have s2 : (w1.alloc (.cells #[.int .i64 y0, .int .i64 y1, .slice a1 ms.length c1] 45)).heap.size = w1.heap.size + 1 := by simp
 clear CC Y0 O1 b1 bO B0 e3
 go_wp2_with fail
 generalize (w1.alloc (.cells #[.int .i64 y0, .int .i64 y1, .slice a1 ms.length c1] 45)) = w2 at *
 generalize hnb : w1.heap.size = nb at *
 refine (dU CB _).mono ?_
 rintro e' w3 ⟨rfl, b3⟩
 have s3 := b3.size
 have bP := ba w3 (.cells #[.int .i64 n, .int .i64 1] 76)
 have P4 := Bx.new w3 [.int .i64 n, .int .i64 1] 76
 have N4 := (N2.below b3).below bP
 have Y4 := (Y2.below b3).below bP
 have A4 := ApR.below (ApR.below A2 b3) bP
 have B4 := bT (bT B2 b3) bP
 have s4 : (w3.alloc (.cells #[.int .i64 n, .int .i64 1] 76)).heap.size = w3.heap.size + 1 := by simp
 obtain ⟨z0, f0⟩ := N4.2 0 _ rfl
 obtain ⟨z1, f1⟩ := N4.2 1 _ rfl
 obtain ⟨p0, p1⟩ : _ ∧ _ := ⟨P4 0 _ rfl, P4 1 _ rfl⟩
 have hpn : w3.heap.size ≠ nb := by omega
 clear CB N2 Y2 A2 B2 b3 bP hm
 go_upto_region 3 with fail
 generalize w3.alloc (.cells #[.int .i64 n, .int .i64 1] 76) = w4 at *
 generalize hpb : w3.heap.size = pb at *
 go_wp2_with fail
 go_region
 all_goals
  have N5 := (N4.put 0 (.int .i64 n)).put 1 (.int .i64 1)
  have Y5 := (Y4.far (b' := nb) (o := 0) (by omega) (.int .i64 n)).far (b' := nb) (o := 1) (by omega) (.int .i64 1)
  have A5 := ApR.put elemEvent (ApR.put elemEvent A4 (b := nb) (o' := 0) (dU NT) (.int .i64 n)) (b := nb) (o' := 1) (dU NT) (.int .i64 1)
  have B5 := (B4.setCell (p := ⟨nb, 0, none⟩) (by simp only; omega) (.int .i64 n)).setCell (p := ⟨nb, 1, none⟩) (by simp only; omega) (.int .i64 1)
  have s5 : ((w4.setCell ⟨nb, 0, none⟩ (.int .i64 n)).setCell ⟨nb, 1, none⟩ (.int .i64 1)).heap.size = w4.heap.size := by simp
  clear z0 f0 z1 f1 p0 p1 P4 N4 Y4 A4 B4
  go_upto_region 4 with fail
  generalize ((w4.setCell ⟨nb, 0, none⟩ (.int .i64 n)).setCell ⟨nb, 1, none⟩ (.int .i64 1)) = w5 at *
  have bdr : Below w5.heap.size w5 w5.drew := (Below.refl _ _).drew
  have Nd := N5.below bdr
  have Yd := Y5.below bdr
  have Ad := ApR.below A5 bdr
  have Bd := bT B5 bdr
  have sd : w5.heap.size ≤ w5.drew.heap.size := bdr.size
  clear N5 Y5 A5 B5 bdr
  go_wp2_with fail
  refine wp_region_noPanic ?_
  refine wp_region_held_drew (S := fun _ => True) (by kernel_rfl) (trivial) (fun hHeld => ?_)
  generalize w5.drew = wd at *
  refine tY 0 (v := ?_) rfl (by kernel_rfl) (.inl ⟨by rfl, ?_⟩) ‹_› ?_
  rotate_left 1
  ·intro w hSw
   (try dsimp only at hSw)
   first | (go_simp; done) | (go_simp; with_reducible rfl)
  try simp only [Act.put, sA, sB, sC]
  refine tY 2 (v := ?_) rfl (by kernel_rfl) (.inl ⟨by rfl, ?_⟩) ‹_› ?_
  rotate_left 1
  ·intro w hSw
   (try dsimp only at hSw)
   first | (go_simp; done) | (go_simp; with_reducible rfl)
  try simp only [Act.put, sA, sB, sC]
  refine wpAnyH_ready (rs := [1, 3]) (by kernel_rfl) (by simp) ?_
  refine rC rfl (fun K hK => ?_) (rC rfl (fun K hK => ?_) AllReadyH.nil)
  ·have hdr : Below wd.heap.size wd wd.drew := (Below.refl _ _).drew
   replace Nd := Nd.below hdr
   replace Yd := Yd.below hdr
   replace Ad := ApR.below Ad hdr
   replace Bd := bT Bd hdr
   replace sd : w5.heap.size ≤ wd.drew.heap.size := Nat.le_trans sd hdr.size
   (try replace RE := dH (Rw.below (dU RE) hdr))
   clear hdr
   generalize wd.drew = wd at *
   have zl := (Nd.2 2 _ rfl).1
   go_simp
   clear zl
   refine hK.out _ _ (trivial) (fun hHeld => ?_)
   clear hK K
   try simp only [Act.put, sA, sB, sC]
   refine wpAnyH_ready (rs := [3]) (by kernel_rfl) (by simp) ?_
   refine rC rfl (fun K hK => ?_) AllReadyH.nil
   go_simp
   refine (dU CE2 _).mono ?_
   rintro e' wd' ⟨rfl, b6⟩
   replace Nd := Nd.below b6
   replace Yd := Yd.below b6
   replace Ad := ApR.below Ad b6
   replace Bd := bT Bd b6
   replace sd : w5.heap.size ≤ wd'.heap.size := Nat.le_trans sd b6.size
   clear b6
   generalize wd' = wd at *
   (try go_wp2_with fail)
   refine hK.out _ _ (trivial) (fun hHeld => ?_)
   clear hK K
   try simp only [Act.put, sA, sB, sC]
   refine wpAnyH_ready (rs := [4]) (by kernel_rfl) (by simp) ?_
   refine rC rfl (fun K hK => ?_) AllReadyH.nil
   go_simp
   have bE := ba wd (.cells #[.int .i64 k0, .int .i64 k1, .string k2] 53)
   have RE := dH (rwV_one wd ⟨k0, k1, k2⟩ 53 1 (by omega))
   have hgE : Hid (w5.heap.size ≤ wd.heap.size) := sd
   replace Nd := Nd.below bE
   replace Yd := Yd.below bE
   replace Ad := ApR.below Ad bE
   replace Bd := bT Bd bE
   replace sd : w5.heap.size ≤ (wd.alloc (.cells #[.int .i64 k0, .int .i64 k1, .string k2] 53)).heap.size := Nat.le_trans sd bE.size
   generalize hgb : wd.heap.size = eb at *
   clear bE
   generalize wd.alloc (.cells #[.int .i64 k0, .int .i64 k1, .string k2] 53) = wd at *
   refine hK.out _ _ (trivial) (fun hHeld => ?_)
   clear hK K
   try simp only [Act.put, sA, sB, sC]
   refine wpAnyH_ready (rs := [5]) (by kernel_rfl) (by simp) ?_
   refine rC rfl (fun K hK => ?_) AllReadyH.nil
   refine step_apR elemEvent rfl _ _ rfl w0.heap.size _ ms rfl Ad _ [⟨k0, k1, k2⟩] rfl (dU RE) (by simp; omega) (by simp; omega) (by omega) ?_
   intro u w6 O6 g6 t6
   obtain ⟨ua, uc, eu⟩ : ∃ a c, u = .slice a (ms.length + 1) c := by
    obtain ⟨a, c, e⟩ := ApR.slice elemEvent O6
    exact ⟨a, c, by rw [e]; simp⟩
   subst eu
   have T6 : Hid (∀ k, touch (.slice ua (ms.length + 1) uc) = some k → w0.heap.size ≤ k ∧ k ≠ nb) := fun k hk => by
    refine ⟨(ApR.touched elemEvent O6 hk).1, ?_⟩
    rcases t6 with t6 | t6
    ·rw [t6] at hk
     intro e
     subst e
     exact dU NT hk
    ·have := t6 k hk
     omega
   replace Nd := Nd.grown g6 (fun e => dU NT e)
   replace Yd := Yd.grown g6 (fun e => by have := dU NG _ e; omega)
   replace Bd := Bd.grown g6 Bd.size (fun j hj => by have := dU NG _ hj; omega)
   replace sd : w5.heap.size ≤ w6.heap.size := Nat.le_trans sd g6.size
   have Od : ApV w6 w0.heap.size (.slice ua (ms.length + 1) uc) (ms ++ [⟨k0, k1, k2⟩]) := O6
   clear Ad O6 g6 t6 RE
   generalize w6 = wd at *
   refine hK.out _ _ (trivial) (fun hHeld => ?_)
   clear hK K
   try simp only [Act.put, sA, sB, sC]
   refine tY 6 (v := ?_) rfl (by kernel_rfl) (.inl ⟨by rfl, ?_⟩) ‹_› ?_
   rotate_left 1
   ·intro w hSw
    (try dsimp only at hSw)
    first | (go_simp; done) | (go_simp; with_reducible rfl)
   try simp only [Act.put, sA, sB, sC]
   refine wpAnyH_ready (rs := [7]) (by kernel_rfl) (by simp) ?_
   refine rC rfl (fun K hK => ?_) AllReadyH.nil
   obtain ⟨z2, f2⟩ := Nd.2 2 _ rfl
   go_simp
   have N7 := Nd.put 2 (.slice ua (ms.length + 1) uc)
   have Y7 := Yd.far (b' := nb) (o := 2) (by omega) (.slice ua (ms.length + 1) uc)
   have O7 := ApR.put elemEvent Od (b := nb) (o' := 2) (fun e => (dU T6 _ e).2 rfl) (.slice ua (ms.length + 1) uc)
   have B7 := Bd.setCell (p := ⟨nb, 2, none⟩) (by simp only; omega) (.slice ua (ms.length + 1) uc)
   clear z2 f2 Nd Yd Od Bd
   generalize wd.setCell ⟨nb, 2, none⟩ (.slice ua (ms.length + 1) uc) = w7 at *
   refine hK.out _ _ (trivial) (fun hHeld => ?_)
   clear hK K
   try simp only [Act.put, sA, sB, sC]
   refine wpAnyH_done (by kernel_rfl) ?_ _
   refine NoPanic.normal ?_
   obtain ⟨x0, x1, x2⟩ : _ ∧ _ ∧ _ := ⟨(N7.2 0 _ rfl).1, (N7.2 1 _ rfl).1, (N7.2 2 _ rfl).1⟩
   obtain ⟨v0, g0⟩ := Y7.2 0 _ rfl
   obtain ⟨v1, g1⟩ := Y7.2 1 _ rfl
   obtain ⟨v2, g2⟩ := Y7.2 2 _ rfl
   have YY := dH (((Y7.put 0 (.int .i64 n)).put 1 (.int .i64 1)).put 2 (.slice ua (ms.length + 1) uc))
   have OO := dH (ApR.put elemEvent (ApR.put elemEvent (ApR.put elemEvent O7 (b := w.heap.size + 1) (o' := 0) (fun e => by have := (dU T6 _ e).1; omega) (.int .i64 n)) (b := w.heap.size + 1) (o' := 1) (fun e => by have := (dU T6 _ e).1; omega) (.int .i64 1)) (b := w.heap.size + 1) (o' := 2) (fun e => by have := (dU T6 _ e).1; omega) (.slice ua (ms.length + 1) uc))
   have BB := dH (((B7.setCell (p := ⟨w.heap.size + 1, 0, none⟩) (by simp only; omega) (.int .i64 n)).setCell (p := ⟨w.heap.size + 1, 1, none⟩) (by simp only; omega) (.int .i64 1)).setCell (p := ⟨w.heap.size + 1, 2, none⟩) (by simp only; omega) (.slice ua (ms.length + 1) uc))
   clear N7 Y7 O7 B7 CE2
   go_wp2_with fail
   generalize (((w7.setCell ⟨w.heap.size + 1, 0, none⟩ (.int .i64 n)).setCell ⟨w.heap.size + 1, 1, none⟩ (.int .i64 1)).setCell ⟨w.heap.size + 1, 2, none⟩ (.slice ua (ms.length + 1) uc)) = V at *
   have q0 := ((dU YY).2 0 _ rfl).1
   have q1 := ((dU YY).2 1 _ rfl).1
   have q2 := ((dU YY).2 2 _ rfl).1
   exact bodyPost_ret (v := .agg #[.int .i64 n, .int .i64 1, .slice ua (ms.length + 1) uc]) (by simp [results, Tryz.results49, go_sem, q0, q1, q2]) rfl (dU GO V _ _ (ApR.mono (dU OO) (by omega)) (dU BB))
  ·have hdr : Below wd.heap.size wd wd.drew := (Below.refl _ _).drew
   replace Nd := Nd.below hdr
   replace Yd := Yd.below hdr
   replace Ad := ApR.below Ad hdr
   replace Bd := bT Bd hdr
   replace sd : w5.heap.size ≤ wd.drew.heap.size := Nat.le_trans sd hdr.size
   (try replace RE := dH (Rw.below (dU RE) hdr))
   clear hdr
   generalize wd.drew = wd at *
   go_simp
   refine (dU CE2 _).mono ?_
   rintro e' wd' ⟨rfl, b6⟩
   replace Nd := Nd.below b6
   replace Yd := Yd.below b6
   replace Ad := ApR.below Ad b6
   replace Bd := bT Bd b6
   replace sd : w5.heap.size ≤ wd'.heap.size := Nat.le_trans sd b6.size
   clear b6
   generalize wd' = wd at *
   (try go_wp2_with fail)
   refine hK.out _ _ (trivial) (fun hHeld => ?_)
   clear hK K
   try simp only [Act.put, sA, sB, sC]
   refine wpAnyH_ready (rs := [1, 4]) (by kernel_rfl) (by simp) ?_
   refine rC rfl (fun K hK => ?_) (rC rfl (fun K hK => ?_) AllReadyH.nil)
   ·have zl := (Nd.2 2 _ rfl).1
    go_simp
    clear zl
    refine hK.out _ _ (trivial) (fun hHeld => ?_)
    clear hK K
    try simp only [Act.put, sA, sB, sC]
    refine wpAnyH_ready (rs := [4]) (by kernel_rfl) (by simp) ?_
    refine rC rfl (fun K hK => ?_) AllReadyH.nil
    go_simp
    have bE := ba wd (.cells #[.int .i64 k0, .int .i64 k1, .string k2] 53)
    have RE := dH (rwV_one wd ⟨k0, k1, k2⟩ 53 1 (by omega))
    have hgE : Hid (w5.heap.size ≤ wd.heap.size) := sd
    replace Nd := Nd.below bE
    replace Yd := Yd.below bE
    replace Ad := ApR.below Ad bE
    replace Bd := bT Bd bE
    replace sd : w5.heap.size ≤ (wd.alloc (.cells #[.int .i64 k0, .int .i64 k1, .string k2] 53)).heap.size := Nat.le_trans sd bE.size
    generalize hgb : wd.heap.size = eb at *
    clear bE
    generalize wd.alloc (.cells #[.int .i64 k0, .int .i64 k1, .string k2] 53) = wd at *
    refine hK.out _ _ (trivial) (fun hHeld => ?_)
    clear hK K
    try simp only [Act.put, sA, sB, sC]
    refine wpAnyH_ready (rs := [5]) (by kernel_rfl) (by simp) ?_
    refine rC rfl (fun K hK => ?_) AllReadyH.nil
    refine step_apR elemEvent rfl _ _ rfl w0.heap.size _ ms rfl Ad _ [⟨k0, k1, k2⟩] rfl (dU RE) (by simp; omega) (by simp; omega) (by omega) ?_
    intro u w6 O6 g6 t6
    obtain ⟨ua, uc, eu⟩ : ∃ a c, u = .slice a (ms.length + 1) c := by
     obtain ⟨a, c, e⟩ := ApR.slice elemEvent O6
     exact ⟨a, c, by rw [e]; simp⟩
    subst eu
    have T6 : Hid (∀ k, touch (.slice ua (ms.length + 1) uc) = some k → w0.heap.size ≤ k ∧ k ≠ nb) := fun k hk => by
     refine ⟨(ApR.touched elemEvent O6 hk).1, ?_⟩
     rcases t6 with t6 | t6
     ·rw [t6] at hk
      intro e
      subst e
      exact dU NT hk
     ·have := t6 k hk
      omega
    replace Nd := Nd.grown g6 (fun e => dU NT e)
    replace Yd := Yd.grown g6 (fun e => by have := dU NG _ e; omega)
    replace Bd := Bd.grown g6 Bd.size (fun j hj => by have := dU NG _ hj; omega)
    replace sd : w5.heap.size ≤ w6.heap.size := Nat.le_trans sd g6.size
    have Od : ApV w6 w0.heap.size (.slice ua (ms.length + 1) uc) (ms ++ [⟨k0, k1, k2⟩]) := O6
    clear Ad O6 g6 t6 RE
    generalize w6 = wd at *
    refine hK.out _ _ (trivial) (fun hHeld => ?_)
    clear hK K
    try simp only [Act.put, sA, sB, sC]
    refine tY 6 (v := ?_) rfl (by kernel_rfl) (.inl ⟨by rfl, ?_⟩) ‹_› ?_
    rotate_left 1
    ·intro w hSw
     (try dsimp only at hSw)
     first | (go_simp; done) | (go_simp; with_reducible rfl)
    try simp only [Act.put, sA, sB, sC]
    refine wpAnyH_ready (rs := [7]) (by kernel_rfl) (by simp) ?_
    refine rC rfl (fun K hK => ?_) AllReadyH.nil
    obtain ⟨z2, f2⟩ := Nd.2 2 _ rfl
    go_simp
    have N7 := Nd.put 2 (.slice ua (ms.length + 1) uc)
    have Y7 := Yd.far (b' := nb) (o := 2) (by omega) (.slice ua (ms.length + 1) uc)
    have O7 := ApR.put elemEvent Od (b := nb) (o' := 2) (fun e => (dU T6 _ e).2 rfl) (.slice ua (ms.length + 1) uc)
    have B7 := Bd.setCell (p := ⟨nb, 2, none⟩) (by simp only; omega) (.slice ua (ms.length + 1) uc)
    clear z2 f2 Nd Yd Od Bd
    generalize wd.setCell ⟨nb, 2, none⟩ (.slice ua (ms.length + 1) uc) = w7 at *
    refine hK.out _ _ (trivial) (fun hHeld => ?_)
    clear hK K
    try simp only [Act.put, sA, sB, sC]
    refine wpAnyH_done (by kernel_rfl) ?_ _
    refine NoPanic.normal ?_
    obtain ⟨x0, x1, x2⟩ : _ ∧ _ ∧ _ := ⟨(N7.2 0 _ rfl).1, (N7.2 1 _ rfl).1, (N7.2 2 _ rfl).1⟩
    obtain ⟨v0, g0⟩ := Y7.2 0 _ rfl
    obtain ⟨v1, g1⟩ := Y7.2 1 _ rfl
    obtain ⟨v2, g2⟩ := Y7.2 2 _ rfl
    have YY := dH (((Y7.put 0 (.int .i64 n)).put 1 (.int .i64 1)).put 2 (.slice ua (ms.length + 1) uc))
    have OO := dH (ApR.put elemEvent (ApR.put elemEvent (ApR.put elemEvent O7 (b := w.heap.size + 1) (o' := 0) (fun e => by have := (dU T6 _ e).1; omega) (.int .i64 n)) (b := w.heap.size + 1) (o' := 1) (fun e => by have := (dU T6 _ e).1; omega) (.int .i64 1)) (b := w.heap.size + 1) (o' := 2) (fun e => by have := (dU T6 _ e).1; omega) (.slice ua (ms.length + 1) uc))
    have BB := dH (((B7.setCell (p := ⟨w.heap.size + 1, 0, none⟩) (by simp only; omega) (.int .i64 n)).setCell (p := ⟨w.heap.size + 1, 1, none⟩) (by simp only; omega) (.int .i64 1)).setCell (p := ⟨w.heap.size + 1, 2, none⟩) (by simp only; omega) (.slice ua (ms.length + 1) uc))
    clear N7 Y7 O7 B7 CE2
    go_wp2_with fail
    generalize (((w7.setCell ⟨w.heap.size + 1, 0, none⟩ (.int .i64 n)).setCell ⟨w.heap.size + 1, 1, none⟩ (.int .i64 1)).setCell ⟨w.heap.size + 1, 2, none⟩ (.slice ua (ms.length + 1) uc)) = V at *
    have q0 := ((dU YY).2 0 _ rfl).1
    have q1 := ((dU YY).2 1 _ rfl).1
    have q2 := ((dU YY).2 2 _ rfl).1
    exact bodyPost_ret (v := .agg #[.int .i64 n, .int .i64 1, .slice ua (ms.length + 1) uc]) (by simp [results, Tryz.results49, go_sem, q0, q1, q2]) rfl (dU GO V _ _ (ApR.mono (dU OO) (by omega)) (dU BB))
   ·go_simp
    have bE := ba wd (.cells #[.int .i64 k0, .int .i64 k1, .string k2] 53)
    have RE := dH (rwV_one wd ⟨k0, k1, k2⟩ 53 1 (by omega))
    have hgE : Hid (w5.heap.size ≤ wd.heap.size) := sd
    replace Nd := Nd.below bE
    replace Yd := Yd.below bE
    replace Ad := ApR.below Ad bE
    replace Bd := bT Bd bE
    replace sd : w5.heap.size ≤ (wd.alloc (.cells #[.int .i64 k0, .int .i64 k1, .string k2] 53)).heap.size := Nat.le_trans sd bE.size
    generalize hgb : wd.heap.size = eb at *
    clear bE
    generalize wd.alloc (.cells #[.int .i64 k0, .int .i64 k1, .string k2] 53) = wd at *
    refine hK.out _ _ (trivial) (fun hHeld => ?_)
    clear hK K
    try simp only [Act.put, sA, sB, sC]
    refine wpAnyH_ready (rs := [1]) (by kernel_rfl) (by simp) ?_
    refine rC rfl (fun K hK => ?_) AllReadyH.nil
    have zl := (Nd.2 2 _ rfl).1
    go_simp
    clear zl
    refine hK.out _ _ (trivial) (fun hHeld => ?_)
    clear hK K
    try simp only [Act.put, sA, sB, sC]
    refine wpAnyH_ready (rs := [5]) (by kernel_rfl) (by simp) ?_
    refine rC rfl (fun K hK => ?_) AllReadyH.nil
    refine step_apR elemEvent rfl _ _ rfl w0.heap.size _ ms rfl Ad _ [⟨k0, k1, k2⟩] rfl (dU RE) (by simp; omega) (by simp; omega) (by omega) ?_
    intro u w6 O6 g6 t6
    obtain ⟨ua, uc, eu⟩ : ∃ a c, u = .slice a (ms.length + 1) c := by
     obtain ⟨a, c, e⟩ := ApR.slice elemEvent O6
     exact ⟨a, c, by rw [e]; simp⟩
    subst eu
    have T6 : Hid (∀ k, touch (.slice ua (ms.length + 1) uc) = some k → w0.heap.size ≤ k ∧ k ≠ nb) := fun k hk => by
     refine ⟨(ApR.touched elemEvent O6 hk).1, ?_⟩
     rcases t6 with t6 | t6
     ·rw [t6] at hk
      intro e
      subst e
      exact dU NT hk
     ·have := t6 k hk
      omega
    replace Nd := Nd.grown g6 (fun e => dU NT e)
    replace Yd := Yd.grown g6 (fun e => by have := dU NG _ e; omega)
    replace Bd := Bd.grown g6 Bd.size (fun j hj => by have := dU NG _ hj; omega)
    replace sd : w5.heap.size ≤ w6.heap.size := Nat.le_trans sd g6.size
    have Od : ApV w6 w0.heap.size (.slice ua (ms.length + 1) uc) (ms ++ [⟨k0, k1, k2⟩]) := O6
    clear Ad O6 g6 t6 RE
    generalize w6 = wd at *
    refine hK.out _ _ (trivial) (fun hHeld => ?_)
    clear hK K
    try simp only [Act.put, sA, sB, sC]
    refine tY 6 (v := ?_) rfl (by kernel_rfl) (.inl ⟨by rfl, ?_⟩) ‹_› ?_
    rotate_left 1
    ·intro w hSw
     (try dsimp only at hSw)
     first | (go_simp; done) | (go_simp; with_reducible rfl)
    try simp only [Act.put, sA, sB, sC]
    refine wpAnyH_ready (rs := [7]) (by kernel_rfl) (by simp) ?_
    refine rC rfl (fun K hK => ?_) AllReadyH.nil
    obtain ⟨z2, f2⟩ := Nd.2 2 _ rfl
    go_simp
    have N7 := Nd.put 2 (.slice ua (ms.length + 1) uc)
    have Y7 := Yd.far (b' := nb) (o := 2) (by omega) (.slice ua (ms.length + 1) uc)
    have O7 := ApR.put elemEvent Od (b := nb) (o' := 2) (fun e => (dU T6 _ e).2 rfl) (.slice ua (ms.length + 1) uc)
    have B7 := Bd.setCell (p := ⟨nb, 2, none⟩) (by simp only; omega) (.slice ua (ms.length + 1) uc)
    clear z2 f2 Nd Yd Od Bd
    generalize wd.setCell ⟨nb, 2, none⟩ (.slice ua (ms.length + 1) uc) = w7 at *
    refine hK.out _ _ (trivial) (fun hHeld => ?_)
    clear hK K
    try simp only [Act.put, sA, sB, sC]
    refine wpAnyH_done (by kernel_rfl) ?_ _
    refine NoPanic.normal ?_
    obtain ⟨x0, x1, x2⟩ : _ ∧ _ ∧ _ := ⟨(N7.2 0 _ rfl).1, (N7.2 1 _ rfl).1, (N7.2 2 _ rfl).1⟩
    obtain ⟨v0, g0⟩ := Y7.2 0 _ rfl
    obtain ⟨v1, g1⟩ := Y7.2 1 _ rfl
    obtain ⟨v2, g2⟩ := Y7.2 2 _ rfl
    have YY := dH (((Y7.put 0 (.int .i64 n)).put 1 (.int .i64 1)).put 2 (.slice ua (ms.length + 1) uc))
    have OO := dH (ApR.put elemEvent (ApR.put elemEvent (ApR.put elemEvent O7 (b := w.heap.size + 1) (o' := 0) (fun e => by have := (dU T6 _ e).1; omega) (.int .i64 n)) (b := w.heap.size + 1) (o' := 1) (fun e => by have := (dU T6 _ e).1; omega) (.int .i64 1)) (b := w.heap.size + 1) (o' := 2) (fun e => by have := (dU T6 _ e).1; omega) (.slice ua (ms.length + 1) uc))
    have BB := dH (((B7.setCell (p := ⟨w.heap.size + 1, 0, none⟩) (by simp only; omega) (.int .i64 n)).setCell (p := ⟨w.heap.size + 1, 1, none⟩) (by simp only; omega) (.int .i64 1)).setCell (p := ⟨w.heap.size + 1, 2, none⟩) (by simp only; omega) (.slice ua (ms.length + 1) uc))
    clear N7 Y7 O7 B7 CE2
    go_wp2_with fail
    generalize (((w7.setCell ⟨w.heap.size + 1, 0, none⟩ (.int .i64 n)).setCell ⟨w.heap.size + 1, 1, none⟩ (.int .i64 1)).setCell ⟨w.heap.size + 1, 2, none⟩ (.slice ua (ms.length + 1) uc)) = V at *
    have q0 := ((dU YY).2 0 _ rfl).1
    have q1 := ((dU YY).2 1 _ rfl).1
    have q2 := ((dU YY).2 2 _ rfl).1
    exact bodyPost_ret (v := .agg #[.int .i64 n, .int .i64 1, .slice ua (ms.length + 1) uc]) (by simp [results, Tryz.results49, go_sem, q0, q1, q2]) rfl (dU GO V _ _ (ApR.mono (dU OO) (by omega)) (dU BB))
set_option maxHeartbeats 8000000 in
theorem told_trim (v : Value) (m : Rr) (e o : Int) (hf : (Hap.trim e o).fits) (w : World) (hv : RdReader v m w) (hl : m.out.length ≤ 1048576) :
  Calls Tryz.prog 49 #[v, (Hap.trim e o).val] w (AnsV w (tellR m (Hap.trim e o).ev (Hap.trim e o).on.1 (Hap.trim e o).on.2)) := by
 have ba : ∀ (w : World) o, Below w.heap.size w (w.alloc o) := fun w o => (Below.refl _ _).alloc (Nat.le_refl _) o
 have CC := dH fun W (hb : Below w.heap.size w W) => copied_any v m W (hv.below hb) hl
 have CE := dH fun W => eventOf_any (Hap.trim e o) hf W
 have CB := dH fun W => behind_passed e o hf.2.1 hf.2.2 W
 obtain ⟨ra, rc, rfl, -⟩ := formReader hv
 generalize hev : (Hap.trim e o).ev = ev at *
 show Calls Tryz.prog 49 #[_, .iface 130 (.agg #[.int .i64 e, .int .i64 o])] w (AnsV w (tellR m ev e (o + 1)))
 have CE2 : Hid (∀ W, Calls Tryz.prog 105 #[.iface 130 (.agg #[.int .i64 e, .int .i64 o])] W fun e' w' => e' = .returned ev.val ∧ Below W.heap.size W w') := fun W => dU CE W
 have GO : Hid (∀ (W : World) (a : Option Addr) (c : Nat), ApV W w.heap.size (.slice a (m.out.length + 1) c) (m.out ++ [ev]) → Below w.heap.size w W → AnsV w (tellR m ev e (o + 1)) (.returned (.agg #[.int .i64 e, .int .i64 (o + 1), .slice a (m.out.length + 1) c])) W) := fun W a c h1 h2 => ⟨a, c, by simp [tellR], by simpa [tellR] using h1, h2⟩
 generalize AnsV w (tellR m ev e (o + 1)) = Q at *
 unfold AnsV at CC
 obtain ⟨k0, k1, k2⟩ := ev
 unfold Ev.val at CE2
 simp only at CE2
 have hm : ∀ w, (Go.method 334 130 (.agg #[.int .i64 e, .int .i64 o]) "loop.example/g00178/impl.behind").run Tryz.prog w = .ok (208, .agg #[.int .i64 e, .int .i64 o]) w := fun w => by kernel_rfl
 generalize m.epoch = y0 at *
 generalize m.off = y1 at *
 generalize m.out = ms at *
 clear hv hf CE hev
 have Y0 := BxZ.new (B := w.heap.size) (w.alloc (.cells #[.int .i64 y0, .int .i64 y1, .slice ra ms.length rc] 45)) [.int .i64 0, .int .i64 0, .slice none 0 0] 45 (by simp)
 rw [show (w.alloc (.cells #[.int .i64 y0, .int .i64 y1, .slice ra ms.length rc] 45)).heap.size = w.heap.size + 1 from by simp] at Y0
 have B0 := bT (ba w (.cells #[.int .i64 y0, .int .i64 y1, .slice ra ms.length rc] 45)) (ba _ (.cells #[.int .i64 0, .int .i64 0, .slice none 0 0] 45))
 have e3 : Hid (((w.alloc (.cells #[.int .i64 y0, .int .i64 y1, .slice ra ms.length rc] 45)).alloc (.cells #[.int .i64 0, .int .i64 0, .slice none 0 0] 45)).heap.size = w.heap.size + 2) := by simp [Hid]
 go_enter Tryz.func49, Tryz.ntmps49
 go_wp2_with fail
 generalize (w.alloc (.cells #[.int .i64 y0, .int .i64 y1, .slice ra ms.length rc] 45)).alloc (.cells #[.int .i64 0, .int .i64 0, .slice none 0 0] 45) = w0 at *
 refine (dU CC _ B0).mono ?_
 rintro e' w1 ⟨a1, c1, rfl, O1, b1⟩
 have s0 := dU e3
 have s1 := b1.size
 have bO := ba w1 (.cells #[.int .i64 y0, .int .i64 y1, .slice a1 ms.length c1] 45)
 have N2 := BxZ.new (B := w.heap.size + 2) w1 [.int .i64 y0, .int .i64 y1, .slice a1 ms.length c1] 45 (by omega)
 have Y2 := Y0.below (bT b1 bO)
 have A2 := ApR.below O1 bO
 have NT : Hid (touch (.slice a1 ms.length c1) ≠ some w1.heap.size) := fun e => by have := (ApR.touched elemEvent O1 e).2; omega
 have NG : Hid (∀ k, touch (.slice a1 ms.length c1) = some k → w0.heap.size ≤ k) := fun k e => (ApR.touched elemEvent O1 e).1
 have B2 := bT (bT B0 b1) bO
 have s2 : (w1.alloc (.cells #[.int .i64 y0, .int .i64 y1, .slice a1 ms.length c1] 45)).heap.size = w1.heap.size + 1 := by simp
 clear CC Y0 O1 b1 bO B0 e3
 go_wp2_with fail
 generalize (w1.alloc (.cells #[.int .i64 y0, .int .i64 y1, .slice a1 ms.length c1] 45)) = w2 at *
 generalize hnb : w1.heap.size = nb at *
 refine (dU CB _).mono ?_
 rintro e' w3 ⟨rfl, b3⟩
 have s3 := b3.size
 have bP := ba w3 (.cells #[.int .i64 e, .int .i64 (o + 1)] 76)
 have P4 := Bx.new w3 [.int .i64 e, .int .i64 (o + 1)] 76
 have N4 := (N2.below b3).below bP
 have Y4 := (Y2.below b3).below bP
 have A4 := ApR.below (ApR.below A2 b3) bP
 have B4 := bT (bT B2 b3) bP
 have s4 : (w3.alloc (.cells #[.int .i64 e, .int .i64 (o + 1)] 76)).heap.size = w3.heap.size + 1 := by simp
 obtain ⟨z0, f0⟩ := N4.2 0 _ rfl
 obtain ⟨z1, f1⟩ := N4.2 1 _ rfl
 obtain ⟨p0, p1⟩ : _ ∧ _ := ⟨P4 0 _ rfl, P4 1 _ rfl⟩
 have hpn : w3.heap.size ≠ nb := by omega
 clear CB N2 Y2 A2 B2 b3 bP hm
 go_upto_region 3 with fail
 generalize w3.alloc (.cells #[.int .i64 e, .int .i64 (o + 1)] 76) = w4 at *
 generalize hpb : w3.heap.size = pb at *
 go_wp2_with fail
 go_region
 all_goals
  have N5 := (N4.put 0 (.int .i64 e)).put 1 (.int .i64 (o + 1))
  have Y5 := (Y4.far (b' := nb) (o := 0) (by omega) (.int .i64 e)).far (b' := nb) (o := 1) (by omega) (.int .i64 (o + 1))
  have A5 := ApR.put elemEvent (ApR.put elemEvent A4 (b := nb) (o' := 0) (dU NT) (.int .i64 e)) (b := nb) (o' := 1) (dU NT) (.int .i64 (o + 1))
  have B5 := (B4.setCell (p := ⟨nb, 0, none⟩) (by simp only; omega) (.int .i64 e)).setCell (p := ⟨nb, 1, none⟩) (by simp only; omega) (.int .i64 (o + 1))
  have s5 : ((w4.setCell ⟨nb, 0, none⟩ (.int .i64 e)).setCell ⟨nb, 1, none⟩ (.int .i64 (o + 1))).heap.size = w4.heap.size := by simp
  clear z0 f0 z1 f1 p0 p1 P4 N4 Y4 A4 B4
  go_upto_region 4 with fail
  generalize ((w4.setCell ⟨nb, 0, none⟩ (.int .i64 e)).setCell ⟨nb, 1, none⟩ (.int .i64 (o + 1))) = w5 at *
  have bdr : Below w5.heap.size w5 w5.drew := (Below.refl _ _).drew
  have Nd := N5.below bdr
  have Yd := Y5.below bdr
  have Ad := ApR.below A5 bdr
  have Bd := bT B5 bdr
  have sd : w5.heap.size ≤ w5.drew.heap.size := bdr.size
  clear N5 Y5 A5 B5 bdr
  go_wp2_with fail
  refine wp_region_noPanic ?_
  refine wp_region_held_drew (S := fun _ => True) (by kernel_rfl) (trivial) (fun hHeld => ?_)
  generalize w5.drew = wd at *
  refine tY 0 (v := ?_) rfl (by kernel_rfl) (.inl ⟨by rfl, ?_⟩) ‹_› ?_
  rotate_left 1
  ·intro w hSw
   (try dsimp only at hSw)
   first | (go_simp; done) | (go_simp; with_reducible rfl)
  try simp only [Act.put, sA, sB, sC]
  refine tY 2 (v := ?_) rfl (by kernel_rfl) (.inl ⟨by rfl, ?_⟩) ‹_› ?_
  rotate_left 1
  ·intro w hSw
   (try dsimp only at hSw)
   first | (go_simp; done) | (go_simp; with_reducible rfl)
  try simp only [Act.put, sA, sB, sC]
  refine wpAnyH_ready (rs := [1, 3]) (by kernel_rfl) (by simp) ?_
  refine rC rfl (fun K hK => ?_) (rC rfl (fun K hK => ?_) AllReadyH.nil)
  ·have hdr : Below wd.heap.size wd wd.drew := (Below.refl _ _).drew
   replace Nd := Nd.below hdr
   replace Yd := Yd.below hdr
   replace Ad := ApR.below Ad hdr
   replace Bd := bT Bd hdr
   replace sd : w5.heap.size ≤ wd.drew.heap.size := Nat.le_trans sd hdr.size
   (try replace RE := dH (Rw.below (dU RE) hdr))
   clear hdr
   generalize wd.drew = wd at *
   have zl := (Nd.2 2 _ rfl).1
   go_simp
   clear zl
   refine hK.out _ _ (trivial) (fun hHeld => ?_)
   clear hK K
   try simp only [Act.put, sA, sB, sC]
   refine wpAnyH_ready (rs := [3]) (by kernel_rfl) (by simp) ?_
   refine rC rfl (fun K hK => ?_) AllReadyH.nil
   go_simp
   refine (dU CE2 _).mono ?_
   rintro e' wd' ⟨rfl, b6⟩
   replace Nd := Nd.below b6
   replace Yd := Yd.below b6
   replace Ad := ApR.below Ad b6
   replace Bd := bT Bd b6
   replace sd : w5.heap.size ≤ wd'.heap.size := Nat.le_trans sd b6.size
   clear b6
   generalize wd' = wd at *
   (try go_wp2_with fail)
   refine hK.out _ _ (trivial) (fun hHeld => ?_)
   clear hK K
   try simp only [Act.put, sA, sB, sC]
   refine wpAnyH_ready (rs := [4]) (by kernel_rfl) (by simp) ?_
   refine rC rfl (fun K hK => ?_) AllReadyH.nil
   go_simp
   have bE := ba wd (.cells #[.int .i64 k0, .int .i64 k1, .string k2] 53)
   have RE := dH (rwV_one wd ⟨k0, k1, k2⟩ 53 1 (by omega))
   have hgE : Hid (w5.heap.size ≤ wd.heap.size) := sd
   replace Nd := Nd.below bE
   replace Yd := Yd.below bE
   replace Ad := ApR.below Ad bE
   replace Bd := bT Bd bE
   replace sd : w5.heap.size ≤ (wd.alloc (.cells #[.int .i64 k0, .int .i64 k1, .string k2] 53)).heap.size := Nat.le_trans sd bE.size
   generalize hgb : wd.heap.size = eb at *
   clear bE
   generalize wd.alloc (.cells #[.int .i64 k0, .int .i64 k1, .string k2] 53) = wd at *
   refine hK.out _ _ (trivial) (fun hHeld => ?_)
   clear hK K
   try simp only [Act.put, sA, sB, sC]
   refine wpAnyH_ready (rs := [5]) (by kernel_rfl) (by simp) ?_
   refine rC rfl (fun K hK => ?_) AllReadyH.nil
   refine step_apR elemEvent rfl _ _ rfl w0.heap.size _ ms rfl Ad _ [⟨k0, k1, k2⟩] rfl (dU RE) (by simp; omega) (by simp; omega) (by omega) ?_
   intro u w6 O6 g6 t6
   obtain ⟨ua, uc, eu⟩ : ∃ a c, u = .slice a (ms.length + 1) c := by
    obtain ⟨a, c, e⟩ := ApR.slice elemEvent O6
    exact ⟨a, c, by rw [e]; simp⟩
   subst eu
   have T6 : Hid (∀ k, touch (.slice ua (ms.length + 1) uc) = some k → w0.heap.size ≤ k ∧ k ≠ nb) := fun k hk => by
    refine ⟨(ApR.touched elemEvent O6 hk).1, ?_⟩
    rcases t6 with t6 | t6
    ·rw [t6] at hk
     intro e
     subst e
     exact dU NT hk
    ·have := t6 k hk
     omega
   replace Nd := Nd.grown g6 (fun e => dU NT e)
   replace Yd := Yd.grown g6 (fun e => by have := dU NG _ e; omega)
   replace Bd := Bd.grown g6 Bd.size (fun j hj => by have := dU NG _ hj; omega)
   replace sd : w5.heap.size ≤ w6.heap.size := Nat.le_trans sd g6.size
   have Od : ApV w6 w0.heap.size (.slice ua (ms.length + 1) uc) (ms ++ [⟨k0, k1, k2⟩]) := O6
   clear Ad O6 g6 t6 RE
   generalize w6 = wd at *
   refine hK.out _ _ (trivial) (fun hHeld => ?_)
   clear hK K
   try simp only [Act.put, sA, sB, sC]
   refine tY 6 (v := ?_) rfl (by kernel_rfl) (.inl ⟨by rfl, ?_⟩) ‹_› ?_
   rotate_left 1
   ·intro w hSw
    (try dsimp only at hSw)
    first | (go_simp; done) | (go_simp; with_reducible rfl)
   try simp only [Act.put, sA, sB, sC]
   refine wpAnyH_ready (rs := [7]) (by kernel_rfl) (by simp) ?_
   refine rC rfl (fun K hK => ?_) AllReadyH.nil
   obtain ⟨z2, f2⟩ := Nd.2 2 _ rfl
   go_simp
   have N7 := Nd.put 2 (.slice ua (ms.length + 1) uc)
   have Y7 := Yd.far (b' := nb) (o := 2) (by omega) (.slice ua (ms.length + 1) uc)
   have O7 := ApR.put elemEvent Od (b := nb) (o' := 2) (fun e => (dU T6 _ e).2 rfl) (.slice ua (ms.length + 1) uc)
   have B7 := Bd.setCell (p := ⟨nb, 2, none⟩) (by simp only; omega) (.slice ua (ms.length + 1) uc)
   clear z2 f2 Nd Yd Od Bd
   generalize wd.setCell ⟨nb, 2, none⟩ (.slice ua (ms.length + 1) uc) = w7 at *
   refine hK.out _ _ (trivial) (fun hHeld => ?_)
   clear hK K
   try simp only [Act.put, sA, sB, sC]
   refine wpAnyH_done (by kernel_rfl) ?_ _
   refine NoPanic.normal ?_
   obtain ⟨x0, x1, x2⟩ : _ ∧ _ ∧ _ := ⟨(N7.2 0 _ rfl).1, (N7.2 1 _ rfl).1, (N7.2 2 _ rfl).1⟩
   obtain ⟨v0, g0⟩ := Y7.2 0 _ rfl
   obtain ⟨v1, g1⟩ := Y7.2 1 _ rfl
   obtain ⟨v2, g2⟩ := Y7.2 2 _ rfl
   have YY := dH (((Y7.put 0 (.int .i64 e)).put 1 (.int .i64 (o + 1))).put 2 (.slice ua (ms.length + 1) uc))
   have OO := dH (ApR.put elemEvent (ApR.put elemEvent (ApR.put elemEvent O7 (b := w.heap.size + 1) (o' := 0) (fun e => by have := (dU T6 _ e).1; omega) (.int .i64 e)) (b := w.heap.size + 1) (o' := 1) (fun e => by have := (dU T6 _ e).1; omega) (.int .i64 (o + 1))) (b := w.heap.size + 1) (o' := 2) (fun e => by have := (dU T6 _ e).1; omega) (.slice ua (ms.length + 1) uc))
   have BB := dH (((B7.setCell (p := ⟨w.heap.size + 1, 0, none⟩) (by simp only; omega) (.int .i64 e)).setCell (p := ⟨w.heap.size + 1, 1, none⟩) (by simp only; omega) (.int .i64 (o + 1))).setCell (p := ⟨w.heap.size + 1, 2, none⟩) (by simp only; omega) (.slice ua (ms.length + 1) uc))
   clear N7 Y7 O7 B7 CE2
   go_wp2_with fail
   generalize (((w7.setCell ⟨w.heap.size + 1, 0, none⟩ (.int .i64 e)).setCell ⟨w.heap.size + 1, 1, none⟩ (.int .i64 (o + 1))).setCell ⟨w.heap.size + 1, 2, none⟩ (.slice ua (ms.length + 1) uc)) = V at *
   have q0 := ((dU YY).2 0 _ rfl).1
   have q1 := ((dU YY).2 1 _ rfl).1
   have q2 := ((dU YY).2 2 _ rfl).1
   exact bodyPost_ret (v := .agg #[.int .i64 e, .int .i64 (o + 1), .slice ua (ms.length + 1) uc]) (by simp [results, Tryz.results49, go_sem, q0, q1, q2]) rfl (dU GO V _ _ (ApR.mono (dU OO) (by omega)) (dU BB))
  ·have hdr : Below wd.heap.size wd wd.drew := (Below.refl _ _).drew
   replace Nd := Nd.below hdr
   replace Yd := Yd.below hdr
   replace Ad := ApR.below Ad hdr
   replace Bd := bT Bd hdr
   replace sd : w5.heap.size ≤ wd.drew.heap.size := Nat.le_trans sd hdr.size
   (try replace RE := dH (Rw.below (dU RE) hdr))
   clear hdr
   generalize wd.drew = wd at *
   go_simp
   refine (dU CE2 _).mono ?_
   rintro e' wd' ⟨rfl, b6⟩
   replace Nd := Nd.below b6
   replace Yd := Yd.below b6
   replace Ad := ApR.below Ad b6
   replace Bd := bT Bd b6
   replace sd : w5.heap.size ≤ wd'.heap.size := Nat.le_trans sd b6.size
   clear b6
   generalize wd' = wd at *
   (try go_wp2_with fail)
   refine hK.out _ _ (trivial) (fun hHeld => ?_)
   clear hK K
   try simp only [Act.put, sA, sB, sC]
   refine wpAnyH_ready (rs := [1, 4]) (by kernel_rfl) (by simp) ?_
   refine rC rfl (fun K hK => ?_) (rC rfl (fun K hK => ?_) AllReadyH.nil)
   ·have zl := (Nd.2 2 _ rfl).1
    go_simp
    clear zl
    refine hK.out _ _ (trivial) (fun hHeld => ?_)
    clear hK K
    try simp only [Act.put, sA, sB, sC]
    refine wpAnyH_ready (rs := [4]) (by kernel_rfl) (by simp) ?_
    refine rC rfl (fun K hK => ?_) AllReadyH.nil
    go_simp
    have bE := ba wd (.cells #[.int .i64 k0, .int .i64 k1, .string k2] 53)
    have RE := dH (rwV_one wd ⟨k0, k1, k2⟩ 53 1 (by omega))
    have hgE : Hid (w5.heap.size ≤ wd.heap.size) := sd
    replace Nd := Nd.below bE
    replace Yd := Yd.below bE
    replace Ad := ApR.below Ad bE
    replace Bd := bT Bd bE
    replace sd : w5.heap.size ≤ (wd.alloc (.cells #[.int .i64 k0, .int .i64 k1, .string k2] 53)).heap.size := Nat.le_trans sd bE.size
    generalize hgb : wd.heap.size = eb at *
    clear bE
    generalize wd.alloc (.cells #[.int .i64 k0, .int .i64 k1, .string k2] 53) = wd at *
    refine hK.out _ _ (trivial) (fun hHeld => ?_)
    clear hK K
    try simp only [Act.put, sA, sB, sC]
    refine wpAnyH_ready (rs := [5]) (by kernel_rfl) (by simp) ?_
    refine rC rfl (fun K hK => ?_) AllReadyH.nil
    refine step_apR elemEvent rfl _ _ rfl w0.heap.size _ ms rfl Ad _ [⟨k0, k1, k2⟩] rfl (dU RE) (by simp; omega) (by simp; omega) (by omega) ?_
    intro u w6 O6 g6 t6
    obtain ⟨ua, uc, eu⟩ : ∃ a c, u = .slice a (ms.length + 1) c := by
     obtain ⟨a, c, e⟩ := ApR.slice elemEvent O6
     exact ⟨a, c, by rw [e]; simp⟩
    subst eu
    have T6 : Hid (∀ k, touch (.slice ua (ms.length + 1) uc) = some k → w0.heap.size ≤ k ∧ k ≠ nb) := fun k hk => by
     refine ⟨(ApR.touched elemEvent O6 hk).1, ?_⟩
     rcases t6 with t6 | t6
     ·rw [t6] at hk
      intro e
      subst e
      exact dU NT hk
     ·have := t6 k hk
      omega
    replace Nd := Nd.grown g6 (fun e => dU NT e)
    replace Yd := Yd.grown g6 (fun e => by have := dU NG _ e; omega)
    replace Bd := Bd.grown g6 Bd.size (fun j hj => by have := dU NG _ hj; omega)
    replace sd : w5.heap.size ≤ w6.heap.size := Nat.le_trans sd g6.size
    have Od : ApV w6 w0.heap.size (.slice ua (ms.length + 1) uc) (ms ++ [⟨k0, k1, k2⟩]) := O6
    clear Ad O6 g6 t6 RE
    generalize w6 = wd at *
    refine hK.out _ _ (trivial) (fun hHeld => ?_)
    clear hK K
    try simp only [Act.put, sA, sB, sC]
    refine tY 6 (v := ?_) rfl (by kernel_rfl) (.inl ⟨by rfl, ?_⟩) ‹_› ?_
    rotate_left 1
    ·intro w hSw
     (try dsimp only at hSw)
     first | (go_simp; done) | (go_simp; with_reducible rfl)
    try simp only [Act.put, sA, sB, sC]
    refine wpAnyH_ready (rs := [7]) (by kernel_rfl) (by simp) ?_
    refine rC rfl (fun K hK => ?_) AllReadyH.nil
    obtain ⟨z2, f2⟩ := Nd.2 2 _ rfl
    go_simp
    have N7 := Nd.put 2 (.slice ua (ms.length + 1) uc)
    have Y7 := Yd.far (b' := nb) (o := 2) (by omega) (.slice ua (ms.length + 1) uc)
    have O7 := ApR.put elemEvent Od (b := nb) (o' := 2) (fun e => (dU T6 _ e).2 rfl) (.slice ua (ms.length + 1) uc)
    have B7 := Bd.setCell (p := ⟨nb, 2, none⟩) (by simp only; omega) (.slice ua (ms.length + 1) uc)
    clear z2 f2 Nd Yd Od Bd
    generalize wd.setCell ⟨nb, 2, none⟩ (.slice ua (ms.length + 1) uc) = w7 at *
    refine hK.out _ _ (trivial) (fun hHeld => ?_)
    clear hK K
    try simp only [Act.put, sA, sB, sC]
    refine wpAnyH_done (by kernel_rfl) ?_ _
    refine NoPanic.normal ?_
    obtain ⟨x0, x1, x2⟩ : _ ∧ _ ∧ _ := ⟨(N7.2 0 _ rfl).1, (N7.2 1 _ rfl).1, (N7.2 2 _ rfl).1⟩
    obtain ⟨v0, g0⟩ := Y7.2 0 _ rfl
    obtain ⟨v1, g1⟩ := Y7.2 1 _ rfl
    obtain ⟨v2, g2⟩ := Y7.2 2 _ rfl
    have YY := dH (((Y7.put 0 (.int .i64 e)).put 1 (.int .i64 (o + 1))).put 2 (.slice ua (ms.length + 1) uc))
    have OO := dH (ApR.put elemEvent (ApR.put elemEvent (ApR.put elemEvent O7 (b := w.heap.size + 1) (o' := 0) (fun e => by have := (dU T6 _ e).1; omega) (.int .i64 e)) (b := w.heap.size + 1) (o' := 1) (fun e => by have := (dU T6 _ e).1; omega) (.int .i64 (o + 1))) (b := w.heap.size + 1) (o' := 2) (fun e => by have := (dU T6 _ e).1; omega) (.slice ua (ms.length + 1) uc))
    have BB := dH (((B7.setCell (p := ⟨w.heap.size + 1, 0, none⟩) (by simp only; omega) (.int .i64 e)).setCell (p := ⟨w.heap.size + 1, 1, none⟩) (by simp only; omega) (.int .i64 (o + 1))).setCell (p := ⟨w.heap.size + 1, 2, none⟩) (by simp only; omega) (.slice ua (ms.length + 1) uc))
    clear N7 Y7 O7 B7 CE2
    go_wp2_with fail
    generalize (((w7.setCell ⟨w.heap.size + 1, 0, none⟩ (.int .i64 e)).setCell ⟨w.heap.size + 1, 1, none⟩ (.int .i64 (o + 1))).setCell ⟨w.heap.size + 1, 2, none⟩ (.slice ua (ms.length + 1) uc)) = V at *
    have q0 := ((dU YY).2 0 _ rfl).1
    have q1 := ((dU YY).2 1 _ rfl).1
    have q2 := ((dU YY).2 2 _ rfl).1
    exact bodyPost_ret (v := .agg #[.int .i64 e, .int .i64 (o + 1), .slice ua (ms.length + 1) uc]) (by simp [results, Tryz.results49, go_sem, q0, q1, q2]) rfl (dU GO V _ _ (ApR.mono (dU OO) (by omega)) (dU BB))
   ·go_simp
    have bE := ba wd (.cells #[.int .i64 k0, .int .i64 k1, .string k2] 53)
    have RE := dH (rwV_one wd ⟨k0, k1, k2⟩ 53 1 (by omega))
    have hgE : Hid (w5.heap.size ≤ wd.heap.size) := sd
    replace Nd := Nd.below bE
    replace Yd := Yd.below bE
    replace Ad := ApR.below Ad bE
    replace Bd := bT Bd bE
    replace sd : w5.heap.size ≤ (wd.alloc (.cells #[.int .i64 k0, .int .i64 k1, .string k2] 53)).heap.size := Nat.le_trans sd bE.size
    generalize hgb : wd.heap.size = eb at *
    clear bE
    generalize wd.alloc (.cells #[.int .i64 k0, .int .i64 k1, .string k2] 53) = wd at *
    refine hK.out _ _ (trivial) (fun hHeld => ?_)
    clear hK K
    try simp only [Act.put, sA, sB, sC]
    refine wpAnyH_ready (rs := [1]) (by kernel_rfl) (by simp) ?_
    refine rC rfl (fun K hK => ?_) AllReadyH.nil
    have zl := (Nd.2 2 _ rfl).1
    go_simp
    clear zl
    refine hK.out _ _ (trivial) (fun hHeld => ?_)
    clear hK K
    try simp only [Act.put, sA, sB, sC]
    refine wpAnyH_ready (rs := [5]) (by kernel_rfl) (by simp) ?_
    refine rC rfl (fun K hK => ?_) AllReadyH.nil
    refine step_apR elemEvent rfl _ _ rfl w0.heap.size _ ms rfl Ad _ [⟨k0, k1, k2⟩] rfl (dU RE) (by simp; omega) (by simp; omega) (by omega) ?_
    intro u w6 O6 g6 t6
    obtain ⟨ua, uc, eu⟩ : ∃ a c, u = .slice a (ms.length + 1) c := by
     obtain ⟨a, c, e⟩ := ApR.slice elemEvent O6
     exact ⟨a, c, by rw [e]; simp⟩
    subst eu
    have T6 : Hid (∀ k, touch (.slice ua (ms.length + 1) uc) = some k → w0.heap.size ≤ k ∧ k ≠ nb) := fun k hk => by
     refine ⟨(ApR.touched elemEvent O6 hk).1, ?_⟩
     rcases t6 with t6 | t6
     ·rw [t6] at hk
      intro e
      subst e
      exact dU NT hk
     ·have := t6 k hk
      omega
    replace Nd := Nd.grown g6 (fun e => dU NT e)
    replace Yd := Yd.grown g6 (fun e => by have := dU NG _ e; omega)
    replace Bd := Bd.grown g6 Bd.size (fun j hj => by have := dU NG _ hj; omega)
    replace sd : w5.heap.size ≤ w6.heap.size := Nat.le_trans sd g6.size
    have Od : ApV w6 w0.heap.size (.slice ua (ms.length + 1) uc) (ms ++ [⟨k0, k1, k2⟩]) := O6
    clear Ad O6 g6 t6 RE
    generalize w6 = wd at *
    refine hK.out _ _ (trivial) (fun hHeld => ?_)
    clear hK K
    try simp only [Act.put, sA, sB, sC]
    refine tY 6 (v := ?_) rfl (by kernel_rfl) (.inl ⟨by rfl, ?_⟩) ‹_› ?_
    rotate_left 1
    ·intro w hSw
     (try dsimp only at hSw)
     first | (go_simp; done) | (go_simp; with_reducible rfl)
    try simp only [Act.put, sA, sB, sC]
    refine wpAnyH_ready (rs := [7]) (by kernel_rfl) (by simp) ?_
    refine rC rfl (fun K hK => ?_) AllReadyH.nil
    obtain ⟨z2, f2⟩ := Nd.2 2 _ rfl
    go_simp
    have N7 := Nd.put 2 (.slice ua (ms.length + 1) uc)
    have Y7 := Yd.far (b' := nb) (o := 2) (by omega) (.slice ua (ms.length + 1) uc)
    have O7 := ApR.put elemEvent Od (b := nb) (o' := 2) (fun e => (dU T6 _ e).2 rfl) (.slice ua (ms.length + 1) uc)
    have B7 := Bd.setCell (p := ⟨nb, 2, none⟩) (by simp only; omega) (.slice ua (ms.length + 1) uc)
    clear z2 f2 Nd Yd Od Bd
    generalize wd.setCell ⟨nb, 2, none⟩ (.slice ua (ms.length + 1) uc) = w7 at *
    refine hK.out _ _ (trivial) (fun hHeld => ?_)
    clear hK K
    try simp only [Act.put, sA, sB, sC]
    refine wpAnyH_done (by kernel_rfl) ?_ _
    refine NoPanic.normal ?_
    obtain ⟨x0, x1, x2⟩ : _ ∧ _ ∧ _ := ⟨(N7.2 0 _ rfl).1, (N7.2 1 _ rfl).1, (N7.2 2 _ rfl).1⟩
    obtain ⟨v0, g0⟩ := Y7.2 0 _ rfl
    obtain ⟨v1, g1⟩ := Y7.2 1 _ rfl
    obtain ⟨v2, g2⟩ := Y7.2 2 _ rfl
    have YY := dH (((Y7.put 0 (.int .i64 e)).put 1 (.int .i64 (o + 1))).put 2 (.slice ua (ms.length + 1) uc))
    have OO := dH (ApR.put elemEvent (ApR.put elemEvent (ApR.put elemEvent O7 (b := w.heap.size + 1) (o' := 0) (fun e => by have := (dU T6 _ e).1; omega) (.int .i64 e)) (b := w.heap.size + 1) (o' := 1) (fun e => by have := (dU T6 _ e).1; omega) (.int .i64 (o + 1))) (b := w.heap.size + 1) (o' := 2) (fun e => by have := (dU T6 _ e).1; omega) (.slice ua (ms.length + 1) uc))
    have BB := dH (((B7.setCell (p := ⟨w.heap.size + 1, 0, none⟩) (by simp only; omega) (.int .i64 e)).setCell (p := ⟨w.heap.size + 1, 1, none⟩) (by simp only; omega) (.int .i64 (o + 1))).setCell (p := ⟨w.heap.size + 1, 2, none⟩) (by simp only; omega) (.slice ua (ms.length + 1) uc))
    clear N7 Y7 O7 B7 CE2
    go_wp2_with fail
    generalize (((w7.setCell ⟨w.heap.size + 1, 0, none⟩ (.int .i64 e)).setCell ⟨w.heap.size + 1, 1, none⟩ (.int .i64 (o + 1))).setCell ⟨w.heap.size + 1, 2, none⟩ (.slice ua (ms.length + 1) uc)) = V at *
    have q0 := ((dU YY).2 0 _ rfl).1
    have q1 := ((dU YY).2 1 _ rfl).1
    have q2 := ((dU YY).2 2 _ rfl).1
    exact bodyPost_ret (v := .agg #[.int .i64 e, .int .i64 (o + 1), .slice ua (ms.length + 1) uc]) (by simp [results, Tryz.results49, go_sem, q0, q1, q2]) rfl (dU GO V _ _ (ApR.mono (dU OO) (by omega)) (dU BB))
theorem told_any (v : Value) (m : Rr) (h : Hap) (hf : h.fits) (w : World) (hv : RdReader v m w) (hl : m.out.length ≤ 1048576) :
  Calls Tryz.prog 49 #[v, h.val] w (AnsV w (tellR m h.ev h.on.1 h.on.2)) := by
 cases h with
 | data e o d => exact told_data v m e o d hf w hv hl
 | hole e o => exact told_hole v m e o hf w hv hl
 | loss e o => exact told_loss v m e o hf w hv hl
 | era n => exact told_era v m n hf w hv hl
 | trim e o => exact told_trim v m e o hf w hv hl
end Go.Proofs.YtjkjmapibcfcdaaGreat
