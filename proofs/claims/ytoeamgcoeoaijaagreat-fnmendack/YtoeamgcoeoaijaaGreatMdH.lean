/- Mends drawn: DrawMendAck (printed by tools/mkmdh.py). -/
import Derived.Test.YtoeamgcoeoaijaaGreatMdE
import Derived.Deep.RegionLaw
import Derived.Deep.RegionHeld3
import Derived.Deep.DeepCutAuto
namespace Go.Proofs.YtoeamgcoeoaijaaGreat
open Go.ChangeShapes Go.WideShapes Go.ChangeAt Go.RowKit
set_option linter.unusedVariables false
set_option linter.unusedSimpArgs false
set_option maxRecDepth 100000

def DrawAk (w : World) (e : Ending) (w' : World) : Prop := ∃ (m : Mn) (q : Pm) (ca : Option Addr) (cc : Nat) (ds : List Int) (cop off node : Int), e = .returned (.tuple #[.agg #[.slice ca ds.length cc, .int .i64 cop], .agg #[.int .i64 m.bye, .int .i64 m.epoch, .slice q.sa m.sealed.length q.sc, .slice q.ea m.seen.length q.ec, .bool m.planned, .slice q.wa m.wrote.length q.wc], .int .i64 off, .int .i64 node]) ∧ Ns w' (.slice ca ds.length cc) ds ∧ RdMend (.agg #[.int .i64 m.bye, .int .i64 m.epoch, .slice q.sa m.sealed.length q.sc, .slice q.ea m.seen.length q.ec, .bool m.planned, .slice q.wa m.wrote.length q.wc]) m w' ∧ fitN m ∧ (ds.length ≤ 9 ∧ allInt ds ∧ 0 ≤ cop ∧ cop ≤ 5) ∧ (0 ≤ off ∧ off ≤ 64) ∧ (-1 ≤ node ∧ node ≤ 64) ∧ Below w.heap.size w w'
set_option maxHeartbeats 16000000 in
theorem drawMendAck_any (a : Option Addr) (len cap : Nat) (w : World) (hr : Row8 w a len) :
  Calls Tryz.prog 21 #[.slice a len cap] w (DrawAk w) := by
 have ba : ∀ (w : World) o, Below w.heap.size w (w.alloc o) := fun w o => (Below.refl _ _).alloc (Nat.le_refl _) o
 have b0 := bT (ba w (.cells #[.slice none 0 0, .int .i64 0] 26)) (ba _ (.cells #[.int .i64 0, .int .i64 0, .slice none 0 0, .slice none 0 0, .bool false, .slice none 0 0] 30))
 have Z0 := (BxZ.new (B := w.heap.size) w [.slice none 0 0, .int .i64 0] 26 (Nat.le_refl _)).below (ba _ (.cells #[.int .i64 0, .int .i64 0, .slice none 0 0, .slice none 0 0, .bool false, .slice none 0 0] 30))
 have Y0 := BxZ.new (B := w.heap.size) (w.alloc (.cells #[.slice none 0 0, .int .i64 0] 26)) [.int .i64 0, .int .i64 0, .slice none 0 0, .slice none 0 0, .bool false, .slice none 0 0] 30 (by simp)
 rw [show (w.alloc (.cells #[.slice none 0 0, .int .i64 0] 26)).heap.size = w.heap.size + 1 from by simp] at Y0
 have e0 : Hid (((w.alloc (.cells #[.slice none 0 0, .int .i64 0] 26)).alloc (.cells #[.int .i64 0, .int .i64 0, .slice none 0 0, .slice none 0 0, .bool false, .slice none 0 0] 30)).heap.size = w.heap.size + 2) := by simp [Hid]
 have CO := dH (l9DrawOne_any a len cap _ (hr.below b0))
 clear hr
 go_enter Tryz.func21, Tryz.ntmps21
 go_wp2_with fail
 generalize (w.alloc (.cells #[.slice none 0 0, .int .i64 0] 26)).alloc (.cells #[.int .i64 0, .int .i64 0, .slice none 0 0, .slice none 0 0, .bool false, .slice none 0 0] 30) = w0 at *
 have h0 := dU e0
 refine (dU CO).mono ?_
 rintro e w1 ⟨bk, lo, ca, cc, ds, cop, m, q, rfl, O⟩
 have k1 := O.bkw
 have k2 := O.bkl
 have k3 := O.low
 have bel := O.bel
 have s1 := bel.size
 have hdl := O.len
 have M1 := O.men
 have C1 := O.cfg
 have K1 := O.cur
 have F1 := dH O.fitm
 have FD := dH (show ds.length ≤ 9 ∧ allInt ds ∧ 0 ≤ cop ∧ cop ≤ 5 from ⟨hdl, O.fit.1, O.fit.2.1, O.fit.2.2⟩)
 have hwl := O.fitm.2.2.2.1
 have bX := ba w1 (.cells #[.slice ca ds.length cc, .int .i64 cop] 26)
 have bM := ba (w1.alloc (.cells #[.slice ca ds.length cc, .int .i64 cop] 26)) (.cells #[.int .i64 m.bye, .int .i64 m.epoch, .slice q.sa m.sealed.length q.sc, .slice q.ea m.seen.length q.ec, .bool m.planned, .slice q.wa m.wrote.length q.wc] 30)
 have bXM := bT bX bM
 have T2 := (BxZ.new (B := 0) w1 [.slice ca ds.length cc, .int .i64 cop] 26 (Nat.zero_le _)).below bM
 have U2 := BxZ.new (B := 0) (w1.alloc (.cells #[.slice ca ds.length cc, .int .i64 cop] 26)) [.int .i64 m.bye, .int .i64 m.epoch, .slice q.sa m.sealed.length q.sc, .slice q.ea m.seen.length q.ec, .bool m.planned, .slice q.wa m.wrote.length q.wc] 30 (Nat.zero_le _)
 rw [show (w1.alloc (.cells #[.slice ca ds.length cc, .int .i64 cop] 26)).heap.size = w1.heap.size + 1 from by simp] at U2
 have Z2 := (Z0.below bel).below bXM
 have Y2 := (Y0.below bel).below bXM
 have M2 := M1.belowM (Nat.le_refl _) bXM
 have C2 := C1.below bXM
 have K2 := K1.below bXM
 have B2 := bT (bT b0 bel) bXM
 have s2 : ((w1.alloc (.cells #[.slice ca ds.length cc, .int .i64 cop] 26)).alloc (.cells #[.int .i64 m.bye, .int .i64 m.epoch, .slice q.sa m.sealed.length q.sc, .slice q.ea m.seen.length q.ec, .bool m.planned, .slice q.wa m.wrote.length q.wc] 30)).heap.size = w1.heap.size + 2 := by simp
 clear CO Z0 Y0 O M1 C1 K1 bX bM bXM b0 bel e0
 go_upto_region 2 with fail
 generalize ((w1.alloc (.cells #[.slice ca ds.length cc, .int .i64 cop] 26)).alloc (.cells #[.int .i64 m.bye, .int .i64 m.epoch, .slice q.sa m.sealed.length q.sc, .slice q.ea m.seen.length q.ec, .bool m.planned, .slice q.wa m.wrote.length q.wc] 30)) = w2 at *
 generalize hmb : w1.heap.size = xb at *
 have u5' := (U2.2 5 _ rfl).1
 have hwa : wrap64 ((m.wrote.length : Int) + 2) = (m.wrote.length : Int) + 2 := by unfold wrap64; omega
 have CB := dH (l1Below_any bk (m.wrote.length + 2) (by omega) (by omega) w2 K2)
 rw [show ((m.wrote.length + 2 : Nat) : Int) = (m.wrote.length : Int) + 2 by omega] at CB
 go_wp2_with fail
 refine (dU CB).mono ?_
 rintro e w3 ⟨⟨p1, hp1, rfl⟩, K3, D3⟩
 have hx1 : xb ≠ bk := by omega
 have hx2 : xb + 1 ≠ bk := by omega
 have Z3 := Z2.drawn D3 (by omega)
 have Y3 := Y2.drawn D3 (by omega)
 have T3 := T2.drawn D3 hx1
 have U3 := U2.drawn D3 hx2
 have M3 := M2.drawnM (by omega) D3 (by omega)
 have C3 := C2.drawn D3 k2
 have B3 := D3.below B2 B2.size (by omega)
 have s3 := D3.size
 clear CB Z2 Y2 T2 U2 M2 C2 B2 D3 K2 u5' hwa
 have bdr : Below w3.heap.size w3 w3.drew := (Below.refl _ _).drew
 have pt : w3.cell? ⟨xb, 0, none⟩ = some (.slice ca ds.length cc) ∧ w3.cell? ⟨xb, 1, none⟩ = some (.int .i64 cop) := ⟨(T3.2 0 _ rfl).1, (T3.2 1 _ rfl).1⟩
 have pu : w3.cell? ⟨xb + 1, 0, none⟩ = some (.int .i64 m.bye) ∧ w3.cell? ⟨xb + 1, 1, none⟩ = some (.int .i64 m.epoch) ∧ w3.cell? ⟨xb + 1, 2, none⟩ = some (.slice q.sa m.sealed.length q.sc) ∧ w3.cell? ⟨xb + 1, 3, none⟩ = some (.slice q.ea m.seen.length q.ec) ∧ w3.cell? ⟨xb + 1, 4, none⟩ = some (.bool m.planned) ∧ w3.cell? ⟨xb + 1, 5, none⟩ = some (.slice q.wa m.wrote.length q.wc) := ⟨(U3.2 0 _ rfl).1, (U3.2 1 _ rfl).1, (U3.2 2 _ rfl).1, (U3.2 3 _ rfl).1, (U3.2 4 _ rfl).1, (U3.2 5 _ rfl).1⟩
 have Zd := Z3.below bdr
 have Yd := Y3.below bdr
 have Td := T3.below bdr
 have Ud := U3.below bdr
 have Md := M3.belowM (by omega) bdr
 have Cd := C3.below bdr
 have Kd := K3.below bdr
 have Bd := bT B3 bdr
 have sd : w3.heap.size ≤ w3.drew.heap.size := bdr.size
 have hwd : IntKind.i64.wrap ((ds.length : Int) + 1) = (ds.length : Int) + 1 := by rw [IntKind.wrap_i64]; omega
 clear Z3 Y3 T3 U3 M3 C3 K3 B3 bdr
 go_upto_region 3 with fail
 go_wp2_with fail
 refine wp_region_noPanic ?_
 refine wp_region_held_drew (S := fun W => (W.cell? ⟨xb, 0, none⟩ = some (.slice ca ds.length cc) ∧ W.cell? ⟨xb, 1, none⟩ = some (.int .i64 cop)) ∧ W.cell? ⟨xb + 1, 0, none⟩ = some (.int .i64 m.bye) ∧ W.cell? ⟨xb + 1, 1, none⟩ = some (.int .i64 m.epoch) ∧ W.cell? ⟨xb + 1, 2, none⟩ = some (.slice q.sa m.sealed.length q.sc) ∧ W.cell? ⟨xb + 1, 3, none⟩ = some (.slice q.ea m.seen.length q.ec) ∧ W.cell? ⟨xb + 1, 4, none⟩ = some (.bool m.planned) ∧ W.cell? ⟨xb + 1, 5, none⟩ = some (.slice q.wa m.wrote.length q.wc)) (by kernel_rfl) (by first | exact ⟨⟨(Td.2 0 _ rfl).1, (Td.2 1 _ rfl).1⟩, (Ud.2 0 _ rfl).1, (Ud.2 1 _ rfl).1, (Ud.2 2 _ rfl).1, (Ud.2 3 _ rfl).1, (Ud.2 4 _ rfl).1, (Ud.2 5 _ rfl).1⟩ | exact ⟨pt, pu⟩ | go_keep) (fun hHeld => ?_)
 generalize w3.drew = wd at *
 refine tY 0 (v := ?_) rfl (by kernel_rfl) (.inl ⟨by rfl, ?_⟩) ‹_› ?_
 rotate_left 1
 ·intro w hSw
  (try dsimp only at hSw)
  first | (go_simp; done) | (go_simp; with_reducible rfl)
 try simp only [Act.put, sA, sB, sC]
 refine tY 1 (v := ?_) rfl (by kernel_rfl) (.inl ⟨by rfl, ?_⟩) ‹_› ?_
 rotate_left 1
 ·intro w hSw
  (try dsimp only at hSw)
  first | (go_simp; done) | (go_simp; with_reducible rfl)
 try simp only [Act.put, sA, sB, sC]
 refine tY 2 (v := ?_) rfl (by kernel_rfl) (.inl ⟨by rfl, ?_⟩) ‹_› ?_
 rotate_left 1
 ·intro w hSw
  (try dsimp only at hSw)
  first | (go_simp; done) | (go_simp; with_reducible rfl)
 try simp only [Act.put, sA, sB, sC]
 refine tY 3 (v := ?_) rfl (by kernel_rfl) (.inl ⟨by rfl, ?_⟩) ‹_› ?_
 rotate_left 1
 ·intro w hSw
  (try dsimp only at hSw)
  first | (go_simp; done) | (go_simp; with_reducible rfl)
 try simp only [Act.put, sA, sB, sC]
 refine tY 4 (v := ?_) rfl (by kernel_rfl) (.inl ⟨by rfl, ?_⟩) ‹_› ?_
 rotate_left 1
 ·intro w hSw
  (try dsimp only at hSw)
  first | (go_simp; done) | (go_simp; with_reducible rfl)
 try simp only [Act.put, sA, sB, sC]
 refine tY 5 (v := ?_) rfl (by kernel_rfl) (.inl ⟨by rfl, ?_⟩) ‹_› ?_
 rotate_left 1
 ·intro w hSw
  (try dsimp only at hSw)
  first | (go_simp; done) | (go_simp; with_reducible rfl)
 try simp only [Act.put, sA, sB, sC]
 refine tY 6 (v := ?_) rfl (by kernel_rfl) (.inl ⟨by rfl, ?_⟩) ‹_› ?_
 rotate_left 1
 ·intro w hSw
  (try dsimp only at hSw)
  first | (go_simp; done) | (go_simp; with_reducible rfl)
 try simp only [Act.put, sA, sB, sC]
 refine tY 7 (v := ?_) rfl (by kernel_rfl) (.inl ⟨by rfl, ?_⟩) ‹_› ?_
 rotate_left 1
 ·intro w hSw
  (try dsimp only at hSw)
  first | (go_simp; done) | (go_simp; with_reducible rfl)
 try simp only [Act.put, sA, sB, sC]
 refine tY 9 (v := ?_) rfl (by kernel_rfl) (.inl ⟨by rfl, ?_⟩) ‹_› ?_
 rotate_left 1
 ·intro w hSw
  (try dsimp only at hSw)
  first | (go_simp; done) | (go_simp; with_reducible rfl)
 try simp only [Act.put, sA, sB, sC]
 refine wpAnyH_ready (rs := [8]) (by kernel_rfl) (by simp) ?_
 refine rC rfl (fun K hK => ?_) AllReadyH.nil
 go_simp
 have CPx := l1Below_any bk (ds.length + 1) (by omega) (by omega) wd Kd
 rw [show ((ds.length + 1 : Nat) : Int) = (ds.length : Int) + 1 by omega] at CPx
 refine CPx.mono ?_
 rintro e wd' ⟨⟨p2, hp2, rfl⟩, Kd', hdd'⟩
 replace Zd := Zd.drawn hdd' (by omega)
 replace Yd := Yd.drawn hdd' (by omega)
 replace Td := Td.drawn hdd' hx1
 replace Ud := Ud.drawn hdd' hx2
 replace Md := Md.drawnM (by omega) hdd' (by omega)
 replace Cd := Cd.drawn hdd' k2
 replace Bd := hdd'.below Bd Bd.size (by omega)
 replace sd : w3.heap.size ≤ wd'.heap.size := Nat.le_trans sd hdd'.size
 clear hdd' CPx Kd
 generalize wd' = wd at *
 have Kd := Kd'
 clear Kd'
 (try go_wp2_with fail)
 refine hK.out _ _ (by first | exact ⟨⟨(Td.2 0 _ rfl).1, (Td.2 1 _ rfl).1⟩, (Ud.2 0 _ rfl).1, (Ud.2 1 _ rfl).1, (Ud.2 2 _ rfl).1, (Ud.2 3 _ rfl).1, (Ud.2 4 _ rfl).1, (Ud.2 5 _ rfl).1⟩ | exact ⟨pt, pu⟩ | go_keep) (fun hHeld => ?_)
 clear hK K
 try simp only [Act.put, sA, sB, sC]
 refine wpAnyH_ready (rs := [10]) (by kernel_rfl) (by simp) ?_
 refine rC rfl (fun K hK => ?_) AllReadyH.nil
 go_simp
 have CPx := l1Below_any bk 20 (by omega) (by omega) wd Kd
 refine CPx.mono ?_
 rintro e wd' ⟨⟨q2, hq2, rfl⟩, Kd', hdd'⟩
 replace Zd := Zd.drawn hdd' (by omega)
 replace Yd := Yd.drawn hdd' (by omega)
 replace Td := Td.drawn hdd' hx1
 replace Ud := Ud.drawn hdd' hx2
 replace Md := Md.drawnM (by omega) hdd' (by omega)
 replace Cd := Cd.drawn hdd' k2
 replace Bd := hdd'.below Bd Bd.size (by omega)
 replace sd : w3.heap.size ≤ wd'.heap.size := Nat.le_trans sd hdd'.size
 clear hdd' CPx Kd
 have t4 : IntKind.i64.wrap ((q2 : Int) / 19) = (q2 : Int) / 19 := by rw [IntKind.wrap_i64]; omega
 have t3 : IntKind.i64.wrap ((p2 : Int) - (q2 : Int) / 19) = (p2 : Int) - (q2 : Int) / 19 := by rw [IntKind.wrap_i64]; omega
 generalize wd' = wd at *
 have Kd := Kd'
 clear Kd'
 (try go_wp2_with fail)
 refine hK.out _ _ (by first | exact ⟨⟨(Td.2 0 _ rfl).1, (Td.2 1 _ rfl).1⟩, (Ud.2 0 _ rfl).1, (Ud.2 1 _ rfl).1, (Ud.2 2 _ rfl).1, (Ud.2 3 _ rfl).1, (Ud.2 4 _ rfl).1, (Ud.2 5 _ rfl).1⟩ | exact ⟨pt, pu⟩ | go_keep) (fun hHeld => ?_)
 clear hK K
 try simp only [Act.put, sA, sB, sC]
 refine tY 11 (v := ?_) rfl (by kernel_rfl) (.inl ⟨by rfl, ?_⟩) ‹_› ?_
 rotate_left 1
 ·intro w hSw
  (try dsimp only at hSw)
  first | (go_simp; done) | (go_simp; with_reducible rfl)
 try simp only [Act.put, sA, sB, sC]
 refine tY 12 (v := ?_) rfl (by kernel_rfl) (.inl ⟨by rfl, ?_⟩) ‹_› ?_
 rotate_left 1
 ·intro w hSw
  (try dsimp only at hSw)
  first | (go_simp; done) | (go_simp; with_reducible rfl)
 try simp only [Act.put, sA, sB, sC]
 refine wpAnyH_ready (rs := [13]) (by kernel_rfl) (by simp) ?_
 refine rC rfl (fun K hK => ?_) AllReadyH.nil
 obtain ⟨⟨z0, f0⟩, ⟨z1, f1⟩⟩ : (_ ∧ _) ∧ (_ ∧ _) := ⟨Zd.2 0 _ rfl, Zd.2 1 _ rfl⟩
 go_simp
 replace Zd := ((Zd.put 0 (.slice ca ds.length cc)).put 1 (.int .i64 cop))
 replace Yd := ((Yd.far (b' := w.heap.size) (o := 0) (by omega) (.slice ca ds.length cc)).far (b' := w.heap.size) (o := 1) (by omega) (.int .i64 cop))
 replace Td := ((Td.far (b' := w.heap.size) (o := 0) (by omega) (.slice ca ds.length cc)).far (b' := w.heap.size) (o := 1) (by omega) (.int .i64 cop))
 replace Ud := ((Ud.far (b' := w.heap.size) (o := 0) (by omega) (.slice ca ds.length cc)).far (b' := w.heap.size) (o := 1) (by omega) (.int .i64 cop))
 replace Md := ((Md.farM (b := w.heap.size) (o := 0) (by first | omega | (simp; omega)) (.inl (by omega)) (.slice ca ds.length cc)).farM (b := w.heap.size) (o := 1) (by first | omega | (simp; omega)) (.inl (by omega)) (.int .i64 cop))
 replace Cd := ((Cd.far (b := w.heap.size) (o := 0) (by omega) (.slice ca ds.length cc)).far (b := w.heap.size) (o := 1) (by omega) (.int .i64 cop))
 replace Bd := ((Bd.setCell (p := ⟨w.heap.size, 0, none⟩) (by simp) (.slice ca ds.length cc)).setCell (p := ⟨w.heap.size, 1, none⟩) (by simp) (.int .i64 cop))
 replace sd : w3.heap.size ≤ ((wd.setCell ⟨w.heap.size, 0, none⟩ (.slice ca ds.length cc)).setCell ⟨w.heap.size, 1, none⟩ (.int .i64 cop)).heap.size := by simpa using sd
 (try clear Kd)
 clear z0 f0 z1 f1
 generalize ((wd.setCell ⟨w.heap.size, 0, none⟩ (.slice ca ds.length cc)).setCell ⟨w.heap.size, 1, none⟩ (.int .i64 cop)) = wd at *
 refine hK.out _ _ (by first | exact ⟨⟨(Td.2 0 _ rfl).1, (Td.2 1 _ rfl).1⟩, (Ud.2 0 _ rfl).1, (Ud.2 1 _ rfl).1, (Ud.2 2 _ rfl).1, (Ud.2 3 _ rfl).1, (Ud.2 4 _ rfl).1, (Ud.2 5 _ rfl).1⟩ | exact ⟨pt, pu⟩ | go_keep) (fun hHeld => ?_)
 clear hK K
 try simp only [Act.put, sA, sB, sC]
 refine wpAnyH_ready (rs := [14]) (by kernel_rfl) (by simp) ?_
 refine rC rfl (fun K hK => ?_) AllReadyH.nil
 obtain ⟨⟨z0, f0⟩, ⟨z1, f1⟩, ⟨z2, f2⟩, ⟨z3, f3⟩, ⟨z4, f4⟩, ⟨z5, f5⟩⟩ : (_ ∧ _) ∧ (_ ∧ _) ∧ (_ ∧ _) ∧ (_ ∧ _) ∧ (_ ∧ _) ∧ (_ ∧ _) := ⟨Yd.2 0 _ rfl, Yd.2 1 _ rfl, Yd.2 2 _ rfl, Yd.2 3 _ rfl, Yd.2 4 _ rfl, Yd.2 5 _ rfl⟩
 go_simp
 replace Yd := ((((((Yd.put 0 (.int .i64 m.bye)).put 1 (.int .i64 m.epoch)).put 2 (.slice q.sa m.sealed.length q.sc)).put 3 (.slice q.ea m.seen.length q.ec)).put 4 (.bool m.planned)).put 5 (.slice q.wa m.wrote.length q.wc))
 replace Zd := ((((((Zd.far (b' := w.heap.size + 1) (o := 0) (by omega) (.int .i64 m.bye)).far (b' := w.heap.size + 1) (o := 1) (by omega) (.int .i64 m.epoch)).far (b' := w.heap.size + 1) (o := 2) (by omega) (.slice q.sa m.sealed.length q.sc)).far (b' := w.heap.size + 1) (o := 3) (by omega) (.slice q.ea m.seen.length q.ec)).far (b' := w.heap.size + 1) (o := 4) (by omega) (.bool m.planned)).far (b' := w.heap.size + 1) (o := 5) (by omega) (.slice q.wa m.wrote.length q.wc))
 replace Td := ((((((Td.far (b' := w.heap.size + 1) (o := 0) (by omega) (.int .i64 m.bye)).far (b' := w.heap.size + 1) (o := 1) (by omega) (.int .i64 m.epoch)).far (b' := w.heap.size + 1) (o := 2) (by omega) (.slice q.sa m.sealed.length q.sc)).far (b' := w.heap.size + 1) (o := 3) (by omega) (.slice q.ea m.seen.length q.ec)).far (b' := w.heap.size + 1) (o := 4) (by omega) (.bool m.planned)).far (b' := w.heap.size + 1) (o := 5) (by omega) (.slice q.wa m.wrote.length q.wc))
 replace Ud := ((((((Ud.far (b' := w.heap.size + 1) (o := 0) (by omega) (.int .i64 m.bye)).far (b' := w.heap.size + 1) (o := 1) (by omega) (.int .i64 m.epoch)).far (b' := w.heap.size + 1) (o := 2) (by omega) (.slice q.sa m.sealed.length q.sc)).far (b' := w.heap.size + 1) (o := 3) (by omega) (.slice q.ea m.seen.length q.ec)).far (b' := w.heap.size + 1) (o := 4) (by omega) (.bool m.planned)).far (b' := w.heap.size + 1) (o := 5) (by omega) (.slice q.wa m.wrote.length q.wc))
 replace Md := ((((((Md.farM (b := w.heap.size + 1) (o := 0) (by first | omega | (simp; omega)) (.inl (by omega)) (.int .i64 m.bye)).farM (b := w.heap.size + 1) (o := 1) (by first | omega | (simp; omega)) (.inl (by omega)) (.int .i64 m.epoch)).farM (b := w.heap.size + 1) (o := 2) (by first | omega | (simp; omega)) (.inl (by omega)) (.slice q.sa m.sealed.length q.sc)).farM (b := w.heap.size + 1) (o := 3) (by first | omega | (simp; omega)) (.inl (by omega)) (.slice q.ea m.seen.length q.ec)).farM (b := w.heap.size + 1) (o := 4) (by first | omega | (simp; omega)) (.inl (by omega)) (.bool m.planned)).farM (b := w.heap.size + 1) (o := 5) (by first | omega | (simp; omega)) (.inl (by omega)) (.slice q.wa m.wrote.length q.wc))
 replace Cd := ((((((Cd.far (b := w.heap.size + 1) (o := 0) (by omega) (.int .i64 m.bye)).far (b := w.heap.size + 1) (o := 1) (by omega) (.int .i64 m.epoch)).far (b := w.heap.size + 1) (o := 2) (by omega) (.slice q.sa m.sealed.length q.sc)).far (b := w.heap.size + 1) (o := 3) (by omega) (.slice q.ea m.seen.length q.ec)).far (b := w.heap.size + 1) (o := 4) (by omega) (.bool m.planned)).far (b := w.heap.size + 1) (o := 5) (by omega) (.slice q.wa m.wrote.length q.wc))
 replace Bd := ((((((Bd.setCell (p := ⟨w.heap.size + 1, 0, none⟩) (by simp) (.int .i64 m.bye)).setCell (p := ⟨w.heap.size + 1, 1, none⟩) (by simp) (.int .i64 m.epoch)).setCell (p := ⟨w.heap.size + 1, 2, none⟩) (by simp) (.slice q.sa m.sealed.length q.sc)).setCell (p := ⟨w.heap.size + 1, 3, none⟩) (by simp) (.slice q.ea m.seen.length q.ec)).setCell (p := ⟨w.heap.size + 1, 4, none⟩) (by simp) (.bool m.planned)).setCell (p := ⟨w.heap.size + 1, 5, none⟩) (by simp) (.slice q.wa m.wrote.length q.wc))
 replace sd : w3.heap.size ≤ ((((((wd.setCell ⟨w.heap.size + 1, 0, none⟩ (.int .i64 m.bye)).setCell ⟨w.heap.size + 1, 1, none⟩ (.int .i64 m.epoch)).setCell ⟨w.heap.size + 1, 2, none⟩ (.slice q.sa m.sealed.length q.sc)).setCell ⟨w.heap.size + 1, 3, none⟩ (.slice q.ea m.seen.length q.ec)).setCell ⟨w.heap.size + 1, 4, none⟩ (.bool m.planned)).setCell ⟨w.heap.size + 1, 5, none⟩ (.slice q.wa m.wrote.length q.wc)).heap.size := by simpa using sd
 (try clear Kd)
 clear z0 f0 z1 f1 z2 f2 z3 f3 z4 f4 z5 f5
 generalize ((((((wd.setCell ⟨w.heap.size + 1, 0, none⟩ (.int .i64 m.bye)).setCell ⟨w.heap.size + 1, 1, none⟩ (.int .i64 m.epoch)).setCell ⟨w.heap.size + 1, 2, none⟩ (.slice q.sa m.sealed.length q.sc)).setCell ⟨w.heap.size + 1, 3, none⟩ (.slice q.ea m.seen.length q.ec)).setCell ⟨w.heap.size + 1, 4, none⟩ (.bool m.planned)).setCell ⟨w.heap.size + 1, 5, none⟩ (.slice q.wa m.wrote.length q.wc)) = wd at *
 refine hK.out _ _ (by first | exact ⟨⟨(Td.2 0 _ rfl).1, (Td.2 1 _ rfl).1⟩, (Ud.2 0 _ rfl).1, (Ud.2 1 _ rfl).1, (Ud.2 2 _ rfl).1, (Ud.2 3 _ rfl).1, (Ud.2 4 _ rfl).1, (Ud.2 5 _ rfl).1⟩ | exact ⟨pt, pu⟩ | go_keep) (fun hHeld => ?_)
 clear hK K
 try simp only [Act.put, sA, sB, sC]
 refine tY 15 (v := ?_) rfl (by kernel_rfl) (.inl ⟨by rfl, ?_⟩) ‹_› ?_
 rotate_left 1
 ·intro w hSw
  (try dsimp only at hSw)
  first | (go_simp; done) | (go_simp; with_reducible rfl)
 try simp only [Act.put, sA, sB, sC]
 refine tY 16 (v := ?_) rfl (by kernel_rfl) (.inl ⟨by rfl, ?_⟩) ‹_› ?_
 rotate_left 1
 ·intro w hSw
  (try dsimp only at hSw)
  first | (go_simp; done) | (go_simp; with_reducible rfl)
 try simp only [Act.put, sA, sB, sC]
 refine wpAnyH_done (by kernel_rfl) ?_ _
 refine NoPanic.normal ?_
 have a0 := (Zd.2 0 _ rfl).1
 have a1 := (Zd.2 1 _ rfl).1
 have b0 := (Yd.2 0 _ rfl).1
 have b1 := (Yd.2 1 _ rfl).1
 have b2 := (Yd.2 2 _ rfl).1
 have b3 := (Yd.2 3 _ rfl).1
 have b4 := (Yd.2 4 _ rfl).1
 have b5 := (Yd.2 5 _ rfl).1
 have hQ : Hid (DrawAk w (.returned (.tuple #[.agg #[.slice ca ds.length cc, .int .i64 cop], .agg #[.int .i64 m.bye, .int .i64 m.epoch, .slice q.sa m.sealed.length q.sc, .slice q.ea m.seen.length q.ec, .bool m.planned, .slice q.wa m.wrote.length q.wc], .int .i64 (p1 : Int), .int .i64 ((p2 : Int) - (q2 : Int) / 19)])) wd) := ⟨m, q, ca, cc, ds, cop, _, _, rfl, Cd.bs, Md.rd, dU F1, dU FD, ⟨by omega, by omega⟩, ⟨by omega, by omega⟩, Bd⟩
 clear Md Bd Yd Zd Td Ud Cd pt pu
 go_wp2_with fail
 refine bodyPost_ret (v := .tuple #[.agg #[.slice ca ds.length cc, .int .i64 cop], .agg #[.int .i64 m.bye, .int .i64 m.epoch, .slice q.sa m.sealed.length q.sc, .slice q.ea m.seen.length q.ec, .bool m.planned, .slice q.wa m.wrote.length q.wc], .int .i64 (p1 : Int), .int .i64 ((p2 : Int) - (q2 : Int) / 19)]) (by simp [results, Tryz.results21, go_sem, a0, a1, b0, b1, b2, b3, b4, b5, t3, t4]) rfl (dU hQ)
end Go.Proofs.YtoeamgcoeoaijaaGreat
