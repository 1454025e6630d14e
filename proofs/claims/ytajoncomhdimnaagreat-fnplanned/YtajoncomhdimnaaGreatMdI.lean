/- Mends drawn: DrawMendPlan (printed by tools/mkmdi.py). -/
import Derived.Test.YtajoncomhdimnaaGreatMdE
import Derived.Test.YtajoncomhdimnaaGreatGz8
import Derived.Test.YtajoncomhdimnaaGreatGx1
import Derived.Deep.RegionLaw
import Derived.Deep.RegionHeld3
import Derived.Deep.DeepCutAuto
namespace Go.Proofs.YtajoncomhdimnaaGreat
open Go.ChangeShapes Go.WideShapes Go.ChangeAt Go.RowKit
set_option linter.unusedVariables false
set_option linter.unusedSimpArgs false
set_option maxRecDepth 100000

theorem OwnN.blk_lt {w : World} {base : Nat} {v : Value} {xs : List Int} (h : OwnN w base v xs) : xs = [] ∨ bO v < w.heap.size := by
 obtain ⟨h0, a, cap, rfl, h1, h2⟩ := h
 rcases h2 with h2 | ⟨b, off, rfl, hb, hc⟩
 ·exact .inl h2
 ·by_cases e : xs = []
  ·exact .inl e
  ·exact .inr (dCell_lt (hc 0 (List.length_pos_iff.2 e)).1)
def bareM (m : Mn) : Mn := ⟨m.bye, m.epoch, m.sealed, m.seen, false, []⟩
theorem OwMend.bareP {lo hi : Nat} {sv ev wv b0 b1 : Value} {pl : Bool} {m : Mn} {W : World} (h : OwMend lo hi (.agg #[b0, b1, sv, ev, .bool pl, wv]) m W) : OwMend lo hi (.agg #[.int .i64 m.bye, .int .i64 m.epoch, sv, ev, .bool false, .slice none 0 0]) (bareM m) W := by
 obtain ⟨sv', ev', wv', rs, e, h1, h2, h3, h4, h5, h6, h7⟩ := h
 simp only [Value.agg.injEq] at e
 have e' := congrArg Array.toList e
 simp only [List.cons.injEq] at e'
 obtain ⟨-, -, rfl, rfl, -, -, -⟩ := e'
 exact ⟨sv, ev, .slice none 0 0, [], rfl, rfl, h2, h3, ⟨OwnRw.nil _ _ _ _ (by omega), .inl rfl, (fun p h => by cases h), ⟨(fun i j hi => by simp at hi), fun i hi => by simp at hi⟩⟩, h5, h6.imp id fun _ => ⟨.inl rfl, fun p h => by cases h⟩, h7.imp id fun _ => ⟨.inl rfl, fun p h => by cases h⟩⟩
theorem fitN.bare {m : Mn} (h : fitN m) : fitN (bareM m) := by
 obtain ⟨h1, h2, h3, h4, h5⟩ := h
 exact ⟨⟨h1.1, h1.2.1, h1.2.2.1, h1.2.2.2.1, fun l hl => by cases hl⟩, h2, h3, Nat.zero_le _, fun l hl => by cases hl⟩
def DrawPl (w : World) (e : Ending) (w' : World) : Prop := ∃ (m : Mn) (q : Pm) (ca : Option Addr) (cc : Nat) (ds : List Int) (cop : Int) (u : Value) (zs : List Int), e = .returned (.tuple #[.agg #[.slice ca ds.length cc, .int .i64 cop], .agg #[.int .i64 m.bye, .int .i64 m.epoch, .slice q.sa m.sealed.length q.sc, .slice q.ea m.seen.length q.ec, .bool m.planned, .slice q.wa m.wrote.length q.wc], u]) ∧ Ns w' (.slice ca ds.length cc) ds ∧ RdMend (.agg #[.int .i64 m.bye, .int .i64 m.epoch, .slice q.sa m.sealed.length q.sc, .slice q.ea m.seen.length q.ec, .bool m.planned, .slice q.wa m.wrote.length q.wc]) m w' ∧ Ns w' u zs ∧ fitN m ∧ (ds.length ≤ 9 ∧ allInt ds ∧ 0 ≤ cop ∧ cop ≤ 5) ∧ (zs.length ≤ 39 ∧ allInt zs) ∧ Below w.heap.size w w'
structure PlS (w : World) (bk lo xb : Nat) (ca : Option Addr) (cc : Nat) (ds : List Int) (cop : Int) (m : Mn) (q : Pm) (W : World) : Prop where
 z : BxZ W w.heap.size w.heap.size [.slice none 0 0, .int .i64 0]
 y : BxZ W w.heap.size (w.heap.size + 1) [.int .i64 0, .int .i64 0, .slice none 0 0, .slice none 0 0, .bool false, .slice none 0 0]
 t : BxZ W 0 xb [.slice ca ds.length cc, .int .i64 cop]
 u : BxZ W 0 (xb + 1) [.int .i64 m.bye, .int .i64 m.epoch, .slice q.sa m.sealed.length q.sc, .slice q.ea m.seen.length q.ec, .bool m.planned, .slice q.wa m.wrote.length q.wc]
 o : OwMend lo xb (.agg #[.int .i64 m.bye, .int .i64 m.epoch, .slice q.sa m.sealed.length q.sc, .slice q.ea m.seen.length q.ec, .bool m.planned, .slice q.wa m.wrote.length q.wc]) m W
 c : OwnN W lo (.slice ca ds.length cc) ds
 k : Cur W bk
 b : Below w.heap.size w W
 s : xb + 2 ≤ W.heap.size
 f : fitN m
set_option maxHeartbeats 16000000 in
theorem drawMendPlan_any (a : Option Addr) (len cap : Nat) (w : World) (hr : Row8 w a len) :
  Calls Tryz.prog 14 #[.slice a len cap] w (DrawPl w) := by
 have ba : ∀ (w : World) o, Below w.heap.size w (w.alloc o) := fun w o => (Below.refl _ _).alloc (Nat.le_refl _) o
 have b0 := bT (ba w (.cells #[.slice none 0 0, .int .i64 0] 26)) (ba _ (.cells #[.int .i64 0, .int .i64 0, .slice none 0 0, .slice none 0 0, .bool false, .slice none 0 0] 30))
 have Z0 := (BxZ.new (B := w.heap.size) w [.slice none 0 0, .int .i64 0] 26 (Nat.le_refl _)).below (ba _ (.cells #[.int .i64 0, .int .i64 0, .slice none 0 0, .slice none 0 0, .bool false, .slice none 0 0] 30))
 have Y0 := BxZ.new (B := w.heap.size) (w.alloc (.cells #[.slice none 0 0, .int .i64 0] 26)) [.int .i64 0, .int .i64 0, .slice none 0 0, .slice none 0 0, .bool false, .slice none 0 0] 30 (by simp)
 rw [show (w.alloc (.cells #[.slice none 0 0, .int .i64 0] 26)).heap.size = w.heap.size + 1 from by simp] at Y0
 have e0 : Hid (((w.alloc (.cells #[.slice none 0 0, .int .i64 0] 26)).alloc (.cells #[.int .i64 0, .int .i64 0, .slice none 0 0, .slice none 0 0, .bool false, .slice none 0 0] 30)).heap.size = w.heap.size + 2) := by simp [Hid]
 have CO := dH (l9DrawOne_any a len cap _ (hr.below b0))
 clear hr
 go_enter Tryz.func14, Tryz.ntmps14
 go_wp2_with fail
 generalize (w.alloc (.cells #[.slice none 0 0, .int .i64 0] 26)).alloc (.cells #[.int .i64 0, .int .i64 0, .slice none 0 0, .slice none 0 0, .bool false, .slice none 0 0] 30) = w0 at *
 have h0 := dU e0
 refine (dU CO).mono ?_
 rintro e w1 ⟨bk, lo, ca, cc, ds, cop, m, q, rfl, O⟩
 have k1 := O.bkw
 have k2 := O.bkl
 have k3 := O.low
 have bel := O.bel
 have s1 := bel.size
 have hdl := O.len
 have M1 := O.men
 have C1 := O.cfg
 have K1 := O.cur
 have CBL := dH C1.blk_lt
 have F1 := dH O.fitm
 have FD := dH (show ds.length ≤ 9 ∧ allInt ds ∧ 0 ≤ cop ∧ cop ≤ 5 from ⟨hdl, O.fit.1, O.fit.2.1, O.fit.2.2⟩)
 have hwl := O.fitm.2.2.2.1
 have bX := ba w1 (.cells #[.slice ca ds.length cc, .int .i64 cop] 26)
 have bM := ba (w1.alloc (.cells #[.slice ca ds.length cc, .int .i64 cop] 26)) (.cells #[.int .i64 m.bye, .int .i64 m.epoch, .slice q.sa m.sealed.length q.sc, .slice q.ea m.seen.length q.ec, .bool m.planned, .slice q.wa m.wrote.length q.wc] 30)
 have bXM := bT bX bM
 have T2 := (BxZ.new (B := 0) w1 [.slice ca ds.length cc, .int .i64 cop] 26 (Nat.zero_le _)).below bM
 have U2 := BxZ.new (B := 0) (w1.alloc (.cells #[.slice ca ds.length cc, .int .i64 cop] 26)) [.int .i64 m.bye, .int .i64 m.epoch, .slice q.sa m.sealed.length q.sc, .slice q.ea m.seen.length q.ec, .bool m.planned, .slice q.wa m.wrote.length q.wc] 30 (Nat.zero_le _)
 rw [show (w1.alloc (.cells #[.slice ca ds.length cc, .int .i64 cop] 26)).heap.size = w1.heap.size + 1 from by simp] at U2
 have Z2 := (Z0.below bel).below bXM
 have Y2 := (Y0.below bel).below bXM
 have M2 := M1.belowM (Nat.le_refl _) bXM
 have C2 := C1.below bXM
 have K2 := K1.below bXM
 have B2 := bT (bT b0 bel) bXM
 have s2 : ((w1.alloc (.cells #[.slice ca ds.length cc, .int .i64 cop] 26)).alloc (.cells #[.int .i64 m.bye, .int .i64 m.epoch, .slice q.sa m.sealed.length q.sc, .slice q.ea m.seen.length q.ec, .bool m.planned, .slice q.wa m.wrote.length q.wc] 30)).heap.size = w1.heap.size + 2 := by simp
 clear CO Z0 Y0 O M1 C1 K1 bX bM bXM b0 bel e0
 go_wp2_with fail
 generalize ((w1.alloc (.cells #[.slice ca ds.length cc, .int .i64 cop] 26)).alloc (.cells #[.int .i64 m.bye, .int .i64 m.epoch, .slice q.sa m.sealed.length q.sc, .slice q.ea m.seen.length q.ec, .bool m.planned, .slice q.wa m.wrote.length q.wc] 30)) = w2 at *
 generalize hmb : w1.heap.size = xb at *
 refine (l1Once_any bk 2 (by omega) (by omega) w2 K2).mono ?_
 rintro e w3 ⟨⟨q3, rfl⟩, K3, D3⟩
 have hx1 : xb ≠ bk := by omega
 have hx2 : xb + 1 ≠ bk := by omega
 have S3 : PlS w bk lo xb ca cc ds cop m q w3 := ⟨Z2.drawn D3 (by omega), Y2.drawn D3 (by omega), T2.drawn D3 hx1, U2.drawn D3 hx2, M2.drawnM (by omega) D3 (by omega), C2.drawn D3 k2, K3, D3.below B2 B2.size (by omega), by have := D3.size; omega, dU F1⟩
 clear Z2 Y2 T2 U2 M2 C2 K2 B2 K3 D3 F1 hwl
 go_upto_if 15 with fail
 go_cut [15] (fun s15 wx => ∃ (m' : Mn) (q' : Pm), Hid (PlS w bk lo xb ca cc ds cop m' q' wx))
 case first =>
  cases q3
  ·have HS := dH S3
   clear S3
   go_wp2_with fail
   go_meet
   case rel => exact ⟨m, q, HS⟩
  ·obtain ⟨z4, f4⟩ := S3.u.2 4 _ rfl
   obtain ⟨z5, f5⟩ := S3.u.2 5 _ rfl
   have s3 := S3.s
   have S4 : PlS w bk lo xb ca cc ds cop (bareM m) ⟨q.sa, q.sc, q.ea, q.ec, none, 0⟩ ((w3.setCell ⟨xb + 1, 4, none⟩ (.bool false)).setCell ⟨xb + 1, 5, none⟩ (.slice none 0 0)) :=
    ⟨(S3.z.far (b' := xb + 1) (o := 4) (by omega) _).far (b' := xb + 1) (o := 5) (by omega) _, (S3.y.far (b' := xb + 1) (o := 4) (by omega) _).far (b' := xb + 1) (o := 5) (by omega) _, (S3.t.far (b' := xb + 1) (o := 4) (by omega) _).far (b' := xb + 1) (o := 5) (by omega) _, (S3.u.put 4 (.bool false)).put 5 (.slice none 0 0), ((S3.o.bareP.farM (b := xb + 1) (o := 4) (by omega) (.inr (by omega)) _).farM (b := xb + 1) (o := 5) (by simp; omega) (.inr (by omega)) _), (S3.c.put4 ((dU CBL).imp id fun h => by omega) _).put4 ((dU CBL).imp id fun h => by omega) _, (S3.k.setNew (b := xb + 1) (by omega) 4 _).setNew (b := xb + 1) (by omega) 5 _, (S3.b.setCell (p := ⟨xb + 1, 4, none⟩) (by simp only; omega) _).setCell (p := ⟨xb + 1, 5, none⟩) (by simp only; omega) _, by simp; omega, S3.f.bare⟩
   have HS := dH S4
   clear S4 S3
   go_wp2_with fail
   go_meet
   case rel => exact ⟨_, _, HS⟩
 case rest =>
  clear S3
  obtain ⟨m, q, HS⟩ := hcut
  generalize wc = w4 at *
  have S4 := dU HS
  clear HS
  go_wp2_with fail
  refine (l1Once_any bk 3 (by omega) (by omega) w4 S4.k).mono ?_
  rintro e w5 ⟨⟨q5, rfl⟩, K5, D5⟩
  have s4 := S4.s
  have S5 : PlS w bk lo xb ca cc ds cop m q w5 := ⟨S4.z.drawn D5 (by omega), S4.y.drawn D5 (by omega), S4.t.drawn D5 hx1, S4.u.drawn D5 hx2, S4.o.drawnM (by omega) D5 (by omega), S4.c.drawn D5 k2, K5, D5.below S4.b S4.b.size (by omega), by have := D5.size; omega, S4.f⟩
  clear S4 D5 K5
  have F1 := dH S5.f
  have hsl : m.sealed.length ≤ 30 := by have := S5.f.2.1; omega
  have hsi : allInt m.sealed := S5.f.1.2.2.1
  have bdr : Below w5.heap.size w5 w5.drew := (Below.refl _ _).drew
  have pt : w5.cell? ⟨xb, 0, none⟩ = some (.slice ca ds.length cc) ∧ w5.cell? ⟨xb, 1, none⟩ = some (.int .i64 cop) := ⟨(S5.t.2 0 _ rfl).1, (S5.t.2 1 _ rfl).1⟩
  have pu : w5.cell? ⟨xb + 1, 0, none⟩ = some (.int .i64 m.bye) ∧ w5.cell? ⟨xb + 1, 1, none⟩ = some (.int .i64 m.epoch) ∧ w5.cell? ⟨xb + 1, 2, none⟩ = some (.slice q.sa m.sealed.length q.sc) ∧ w5.cell? ⟨xb + 1, 3, none⟩ = some (.slice q.ea m.seen.length q.ec) ∧ w5.cell? ⟨xb + 1, 4, none⟩ = some (.bool m.planned) ∧ w5.cell? ⟨xb + 1, 5, none⟩ = some (.slice q.wa m.wrote.length q.wc) := ⟨(S5.u.2 0 _ rfl).1, (S5.u.2 1 _ rfl).1, (S5.u.2 2 _ rfl).1, (S5.u.2 3 _ rfl).1, (S5.u.2 4 _ rfl).1, (S5.u.2 5 _ rfl).1⟩
  have s5 := S5.s
  have Zd := S5.z.below bdr
  have Yd := S5.y.below bdr
  have Td := S5.t.below bdr
  have Ud := S5.u.below bdr
  have Md := S5.o.belowM (by omega) bdr
  have Cd := S5.c.below bdr
  have Kd := S5.k.below bdr
  have Bd := bT S5.b bdr
  have sd : xb ≤ w5.drew.heap.size := by have := bdr.size; omega
  clear S5 bdr
  cases q5
  ·go_wp2_with fail
   refine wp_region_noPanic ?_
   refine wp_region_held_drew (S := fun W => (W.cell? ⟨xb, 0, none⟩ = some (.slice ca ds.length cc) ∧ W.cell? ⟨xb, 1, none⟩ = some (.int .i64 cop)) ∧ W.cell? ⟨xb + 1, 0, none⟩ = some (.int .i64 m.bye) ∧ W.cell? ⟨xb + 1, 1, none⟩ = some (.int .i64 m.epoch) ∧ W.cell? ⟨xb + 1, 2, none⟩ = some (.slice q.sa m.sealed.length q.sc) ∧ W.cell? ⟨xb + 1, 3, none⟩ = some (.slice q.ea m.seen.length q.ec) ∧ W.cell? ⟨xb + 1, 4, none⟩ = some (.bool m.planned) ∧ W.cell? ⟨xb + 1, 5, none⟩ = some (.slice q.wa m.wrote.length q.wc)) (by kernel_rfl) (by first | exact ⟨⟨(Td.2 0 _ rfl).1, (Td.2 1 _ rfl).1⟩, (Ud.2 0 _ rfl).1, (Ud.2 1 _ rfl).1, (Ud.2 2 _ rfl).1, (Ud.2 3 _ rfl).1, (Ud.2 4 _ rfl).1, (Ud.2 5 _ rfl).1⟩ | exact ⟨pt, pu⟩ | go_keep) (fun hHeld => ?_)
   generalize w5.drew = wd at *
   refine tY 0 (v := ?_) rfl (by kernel_rfl) (.inl ⟨by rfl, ?_⟩) ‹_› ?_
   rotate_left 1
   ·intro w hSw
    (try dsimp only at hSw)
    first | (go_simp; done) | (go_simp; with_reducible rfl)
   try simp only [Act.put, sA, sB, sC]
   refine tY 1 (v := ?_) rfl (by kernel_rfl) (.inl ⟨by rfl, ?_⟩) ‹_› ?_
   rotate_left 1
   ·intro w hSw
    (try dsimp only at hSw)
    first | (go_simp; done) | (go_simp; with_reducible rfl)
   try simp only [Act.put, sA, sB, sC]
   refine tY 2 (v := ?_) rfl (by kernel_rfl) (.inl ⟨by rfl, ?_⟩) ‹_› ?_
   rotate_left 1
   ·intro w hSw
    (try dsimp only at hSw)
    first | (go_simp; done) | (go_simp; with_reducible rfl)
   try simp only [Act.put, sA, sB, sC]
   refine tY 3 (v := ?_) rfl (by kernel_rfl) (.inl ⟨by rfl, ?_⟩) ‹_› ?_
   rotate_left 1
   ·intro w hSw
    (try dsimp only at hSw)
    first | (go_simp; done) | (go_simp; with_reducible rfl)
   try simp only [Act.put, sA, sB, sC]
   refine wpAnyH_ready (rs := [4]) (by kernel_rfl) (by simp) ?_
   refine rC rfl (fun K hK => ?_) AllReadyH.nil
   go_simp
   have CPx := l9Cover_any _ ca cc ds cop m wd Cd.bs Md.rd hdl hsl hsi
   refine CPx.mono ?_
   rintro e wd' ⟨⟨u, zs, rfl, ou, hzl, hza⟩, bdd⟩
   have hzi : zs.length ≤ 39 ∧ allInt zs := ⟨hzl, hza⟩
   have hdd' : Drawn bk wd wd' := Drawn.of_below bdd
   obtain ⟨-, ua, uc, rfl, -, -⟩ := id ou
   have Nu := ou.mono (base' := w.heap.size + 2) (by omega)
   replace Zd := Zd.drawn hdd' (by omega)
   replace Yd := Yd.drawn hdd' (by omega)
   replace Td := Td.drawn hdd' hx1
   replace Ud := Ud.drawn hdd' hx2
   replace Md := Md.drawnM (by omega) hdd' (by omega)
   replace Cd := Cd.drawn hdd' k2
   replace Bd := hdd'.below Bd Bd.size (by omega)
   replace sd : xb ≤ wd'.heap.size := Nat.le_trans sd hdd'.size
   clear hdd' CPx Kd
   generalize wd' = wd at *
   (try go_wp2_with fail)
   refine hK.out _ _ (by first | exact ⟨⟨(Td.2 0 _ rfl).1, (Td.2 1 _ rfl).1⟩, (Ud.2 0 _ rfl).1, (Ud.2 1 _ rfl).1, (Ud.2 2 _ rfl).1, (Ud.2 3 _ rfl).1, (Ud.2 4 _ rfl).1, (Ud.2 5 _ rfl).1⟩ | exact ⟨pt, pu⟩ | go_keep) (fun hHeld => ?_)
   clear hK K
   try simp only [Act.put, sA, sB, sC]
   refine wpAnyH_ready (rs := [5]) (by kernel_rfl) (by simp) ?_
   refine rC rfl (fun K hK => ?_) AllReadyH.nil
   obtain ⟨⟨z0, f0⟩, ⟨z1, f1⟩⟩ : (_ ∧ _) ∧ (_ ∧ _) := ⟨Zd.2 0 _ rfl, Zd.2 1 _ rfl⟩
   go_simp
   replace Zd := ((Zd.put 0 (.slice ca ds.length cc)).put 1 (.int .i64 cop))
   replace Yd := ((Yd.far (b' := w.heap.size) (o := 0) (by omega) (.slice ca ds.length cc)).far (b' := w.heap.size) (o := 1) (by omega) (.int .i64 cop))
   replace Td := ((Td.far (b' := w.heap.size) (o := 0) (by omega) (.slice ca ds.length cc)).far (b' := w.heap.size) (o := 1) (by omega) (.int .i64 cop))
   replace Ud := ((Ud.far (b' := w.heap.size) (o := 0) (by omega) (.slice ca ds.length cc)).far (b' := w.heap.size) (o := 1) (by omega) (.int .i64 cop))
   replace Md := ((Md.farM (b := w.heap.size) (o := 0) (by first | omega | (simp; omega)) (.inl (by omega)) (.slice ca ds.length cc)).farM (b := w.heap.size) (o := 1) (by first | omega | (simp; omega)) (.inl (by omega)) (.int .i64 cop))
   replace Cd := ((Cd.far (b := w.heap.size) (o := 0) (by omega) (.slice ca ds.length cc)).far (b := w.heap.size) (o := 1) (by omega) (.int .i64 cop))
   replace Nu := ((Nu.far (b := w.heap.size) (o := 0) (by omega) (.slice ca ds.length cc)).far (b := w.heap.size) (o := 1) (by omega) (.int .i64 cop))
   replace Bd := ((Bd.setCell (p := ⟨w.heap.size, 0, none⟩) (by simp) (.slice ca ds.length cc)).setCell (p := ⟨w.heap.size, 1, none⟩) (by simp) (.int .i64 cop))
   replace sd : xb ≤ ((wd.setCell ⟨w.heap.size, 0, none⟩ (.slice ca ds.length cc)).setCell ⟨w.heap.size, 1, none⟩ (.int .i64 cop)).heap.size := by simpa using sd
   clear z0 f0 z1 f1
   generalize ((wd.setCell ⟨w.heap.size, 0, none⟩ (.slice ca ds.length cc)).setCell ⟨w.heap.size, 1, none⟩ (.int .i64 cop)) = wd at *
   refine hK.out _ _ (by first | exact ⟨⟨(Td.2 0 _ rfl).1, (Td.2 1 _ rfl).1⟩, (Ud.2 0 _ rfl).1, (Ud.2 1 _ rfl).1, (Ud.2 2 _ rfl).1, (Ud.2 3 _ rfl).1, (Ud.2 4 _ rfl).1, (Ud.2 5 _ rfl).1⟩ | exact ⟨pt, pu⟩ | go_keep) (fun hHeld => ?_)
   clear hK K
   try simp only [Act.put, sA, sB, sC]
   refine wpAnyH_ready (rs := [6]) (by kernel_rfl) (by simp) ?_
   refine rC rfl (fun K hK => ?_) AllReadyH.nil
   obtain ⟨⟨z0, f0⟩, ⟨z1, f1⟩, ⟨z2, f2⟩, ⟨z3, f3⟩, ⟨z4, f4⟩, ⟨z5, f5⟩⟩ : (_ ∧ _) ∧ (_ ∧ _) ∧ (_ ∧ _) ∧ (_ ∧ _) ∧ (_ ∧ _) ∧ (_ ∧ _) := ⟨Yd.2 0 _ rfl, Yd.2 1 _ rfl, Yd.2 2 _ rfl, Yd.2 3 _ rfl, Yd.2 4 _ rfl, Yd.2 5 _ rfl⟩
   go_simp
   replace Yd := ((((((Yd.put 0 (.int .i64 m.bye)).put 1 (.int .i64 m.epoch)).put 2 (.slice q.sa m.sealed.length q.sc)).put 3 (.slice q.ea m.seen.length q.ec)).put 4 (.bool m.planned)).put 5 (.slice q.wa m.wrote.length q.wc))
   replace Zd := ((((((Zd.far (b' := w.heap.size + 1) (o := 0) (by omega) (.int .i64 m.bye)).far (b' := w.heap.size + 1) (o := 1) (by omega) (.int .i64 m.epoch)).far (b' := w.heap.size + 1) (o := 2) (by omega) (.slice q.sa m.sealed.length q.sc)).far (b' := w.heap.size + 1) (o := 3) (by omega) (.slice q.ea m.seen.length q.ec)).far (b' := w.heap.size + 1) (o := 4) (by omega) (.bool m.planned)).far (b' := w.heap.size + 1) (o := 5) (by omega) (.slice q.wa m.wrote.length q.wc))
   replace Td := ((((((Td.far (b' := w.heap.size + 1) (o := 0) (by omega) (.int .i64 m.bye)).far (b' := w.heap.size + 1) (o := 1) (by omega) (.int .i64 m.epoch)).far (b' := w.heap.size + 1) (o := 2) (by omega) (.slice q.sa m.sealed.length q.sc)).far (b' := w.heap.size + 1) (o := 3) (by omega) (.slice q.ea m.seen.length q.ec)).far (b' := w.heap.size + 1) (o := 4) (by omega) (.bool m.planned)).far (b' := w.heap.size + 1) (o := 5) (by omega) (.slice q.wa m.wrote.length q.wc))
   replace Ud := ((((((Ud.far (b' := w.heap.size + 1) (o := 0) (by omega) (.int .i64 m.bye)).far (b' := w.heap.size + 1) (o := 1) (by omega) (.int .i64 m.epoch)).far (b' := w.heap.size + 1) (o := 2) (by omega) (.slice q.sa m.sealed.length q.sc)).far (b' := w.heap.size + 1) (o := 3) (by omega) (.slice q.ea m.seen.length q.ec)).far (b' := w.heap.size + 1) (o := 4) (by omega) (.bool m.planned)).far (b' := w.heap.size + 1) (o := 5) (by omega) (.slice q.wa m.wrote.length q.wc))
   replace Md := ((((((Md.farM (b := w.heap.size + 1) (o := 0) (by first | omega | (simp; omega)) (.inl (by omega)) (.int .i64 m.bye)).farM (b := w.heap.size + 1) (o := 1) (by first | omega | (simp; omega)) (.inl (by omega)) (.int .i64 m.epoch)).farM (b := w.heap.size + 1) (o := 2) (by first | omega | (simp; omega)) (.inl (by omega)) (.slice q.sa m.sealed.length q.sc)).farM (b := w.heap.size + 1) (o := 3) (by first | omega | (simp; omega)) (.inl (by omega)) (.slice q.ea m.seen.length q.ec)).farM (b := w.heap.size + 1) (o := 4) (by first | omega | (simp; omega)) (.inl (by omega)) (.bool m.planned)).farM (b := w.heap.size + 1) (o := 5) (by first | omega | (simp; omega)) (.inl (by omega)) (.slice q.wa m.wrote.length q.wc))
   replace Cd := ((((((Cd.far (b := w.heap.size + 1) (o := 0) (by omega) (.int .i64 m.bye)).far (b := w.heap.size + 1) (o := 1) (by omega) (.int .i64 m.epoch)).far (b := w.heap.size + 1) (o := 2) (by omega) (.slice q.sa m.sealed.length q.sc)).far (b := w.heap.size + 1) (o := 3) (by omega) (.slice q.ea m.seen.length q.ec)).far (b := w.heap.size + 1) (o := 4) (by omega) (.bool m.planned)).far (b := w.heap.size + 1) (o := 5) (by omega) (.slice q.wa m.wrote.length q.wc))
   replace Nu := ((((((Nu.far (b := w.heap.size + 1) (o := 0) (by omega) (.int .i64 m.bye)).far (b := w.heap.size + 1) (o := 1) (by omega) (.int .i64 m.epoch)).far (b := w.heap.size + 1) (o := 2) (by omega) (.slice q.sa m.sealed.length q.sc)).far (b := w.heap.size + 1) (o := 3) (by omega) (.slice q.ea m.seen.length q.ec)).far (b := w.heap.size + 1) (o := 4) (by omega) (.bool m.planned)).far (b := w.heap.size + 1) (o := 5) (by omega) (.slice q.wa m.wrote.length q.wc))
   replace Bd := ((((((Bd.setCell (p := ⟨w.heap.size + 1, 0, none⟩) (by simp) (.int .i64 m.bye)).setCell (p := ⟨w.heap.size + 1, 1, none⟩) (by simp) (.int .i64 m.epoch)).setCell (p := ⟨w.heap.size + 1, 2, none⟩) (by simp) (.slice q.sa m.sealed.length q.sc)).setCell (p := ⟨w.heap.size + 1, 3, none⟩) (by simp) (.slice q.ea m.seen.length q.ec)).setCell (p := ⟨w.heap.size + 1, 4, none⟩) (by simp) (.bool m.planned)).setCell (p := ⟨w.heap.size + 1, 5, none⟩) (by simp) (.slice q.wa m.wrote.length q.wc))
   replace sd : xb ≤ ((((((wd.setCell ⟨w.heap.size + 1, 0, none⟩ (.int .i64 m.bye)).setCell ⟨w.heap.size + 1, 1, none⟩ (.int .i64 m.epoch)).setCell ⟨w.heap.size + 1, 2, none⟩ (.slice q.sa m.sealed.length q.sc)).setCell ⟨w.heap.size + 1, 3, none⟩ (.slice q.ea m.seen.length q.ec)).setCell ⟨w.heap.size + 1, 4, none⟩ (.bool m.planned)).setCell ⟨w.heap.size + 1, 5, none⟩ (.slice q.wa m.wrote.length q.wc)).heap.size := by simpa using sd
   clear z0 f0 z1 f1 z2 f2 z3 f3 z4 f4 z5 f5
   generalize ((((((wd.setCell ⟨w.heap.size + 1, 0, none⟩ (.int .i64 m.bye)).setCell ⟨w.heap.size + 1, 1, none⟩ (.int .i64 m.epoch)).setCell ⟨w.heap.size + 1, 2, none⟩ (.slice q.sa m.sealed.length q.sc)).setCell ⟨w.heap.size + 1, 3, none⟩ (.slice q.ea m.seen.length q.ec)).setCell ⟨w.heap.size + 1, 4, none⟩ (.bool m.planned)).setCell ⟨w.heap.size + 1, 5, none⟩ (.slice q.wa m.wrote.length q.wc)) = wd at *
   refine hK.out _ _ (by first | exact ⟨⟨(Td.2 0 _ rfl).1, (Td.2 1 _ rfl).1⟩, (Ud.2 0 _ rfl).1, (Ud.2 1 _ rfl).1, (Ud.2 2 _ rfl).1, (Ud.2 3 _ rfl).1, (Ud.2 4 _ rfl).1, (Ud.2 5 _ rfl).1⟩ | exact ⟨pt, pu⟩ | go_keep) (fun hHeld => ?_)
   clear hK K
   try simp only [Act.put, sA, sB, sC]
   refine tY 7 (v := ?_) rfl (by kernel_rfl) (.inl ⟨by rfl, ?_⟩) ‹_› ?_
   rotate_left 1
   ·intro w hSw
    (try dsimp only at hSw)
    first | (go_simp; done) | (go_simp; with_reducible rfl)
   try simp only [Act.put, sA, sB, sC]
   refine wpAnyH_done (by kernel_rfl) ?_ _
   refine NoPanic.normal ?_
   have a0 := (Zd.2 0 _ rfl).1
   have a1 := (Zd.2 1 _ rfl).1
   have b0 := (Yd.2 0 _ rfl).1
   have b1 := (Yd.2 1 _ rfl).1
   have b2 := (Yd.2 2 _ rfl).1
   have b3 := (Yd.2 3 _ rfl).1
   have b4 := (Yd.2 4 _ rfl).1
   have b5 := (Yd.2 5 _ rfl).1
   have hQ : Hid (DrawPl w (.returned (.tuple #[.agg #[.slice ca ds.length cc, .int .i64 cop], .agg #[.int .i64 m.bye, .int .i64 m.epoch, .slice q.sa m.sealed.length q.sc, .slice q.ea m.seen.length q.ec, .bool m.planned, .slice q.wa m.wrote.length q.wc], .slice ua zs.length uc])) wd) := ⟨m, q, ca, cc, ds, cop, _, zs, rfl, Cd.bs, Md.rd, Nu.bs, dU F1, dU FD, hzi, Bd⟩
   clear Md Bd Yd Zd Td Ud Cd pt pu Nu
   go_wp2_with fail
   refine bodyPost_ret (v := .tuple #[.agg #[.slice ca ds.length cc, .int .i64 cop], .agg #[.int .i64 m.bye, .int .i64 m.epoch, .slice q.sa m.sealed.length q.sc, .slice q.ea m.seen.length q.ec, .bool m.planned, .slice q.wa m.wrote.length q.wc], .slice ua zs.length uc]) (by simp [results, Tryz.results14, go_sem, a0, a1, b0, b1, b2, b3, b4, b5]) rfl (dU hQ)
  ·go_wp2_with fail
   refine wp_region_noPanic ?_
   refine wp_region_held_drew (S := fun W => (W.cell? ⟨xb, 0, none⟩ = some (.slice ca ds.length cc) ∧ W.cell? ⟨xb, 1, none⟩ = some (.int .i64 cop)) ∧ W.cell? ⟨xb + 1, 0, none⟩ = some (.int .i64 m.bye) ∧ W.cell? ⟨xb + 1, 1, none⟩ = some (.int .i64 m.epoch) ∧ W.cell? ⟨xb + 1, 2, none⟩ = some (.slice q.sa m.sealed.length q.sc) ∧ W.cell? ⟨xb + 1, 3, none⟩ = some (.slice q.ea m.seen.length q.ec) ∧ W.cell? ⟨xb + 1, 4, none⟩ = some (.bool m.planned) ∧ W.cell? ⟨xb + 1, 5, none⟩ = some (.slice q.wa m.wrote.length q.wc)) (by kernel_rfl) (by first | exact ⟨⟨(Td.2 0 _ rfl).1, (Td.2 1 _ rfl).1⟩, (Ud.2 0 _ rfl).1, (Ud.2 1 _ rfl).1, (Ud.2 2 _ rfl).1, (Ud.2 3 _ rfl).1, (Ud.2 4 _ rfl).1, (Ud.2 5 _ rfl).1⟩ | exact ⟨pt, pu⟩ | go_keep) (fun hHeld => ?_)
   generalize w5.drew = wd at *
   refine tY 0 (v := ?_) rfl (by kernel_rfl) (.inl ⟨by rfl, ?_⟩) ‹_› ?_
   rotate_left 1
   ·intro w hSw
    (try dsimp only at hSw)
    first | (go_simp; done) | (go_simp; with_reducible rfl)
   try simp only [Act.put, sA, sB, sC]
   refine tY 1 (v := ?_) rfl (by kernel_rfl) (.inl ⟨by rfl, ?_⟩) ‹_› ?_
   rotate_left 1
   ·intro w hSw
    (try dsimp only at hSw)
    first | (go_simp; done) | (go_simp; with_reducible rfl)
   try simp only [Act.put, sA, sB, sC]
   refine tY 2 (v := ?_) rfl (by kernel_rfl) (.inl ⟨by rfl, ?_⟩) ‹_› ?_
   rotate_left 1
   ·intro w hSw
    (try dsimp only at hSw)
    first | (go_simp; done) | (go_simp; with_reducible rfl)
   try simp only [Act.put, sA, sB, sC]
   refine tY 3 (v := ?_) rfl (by kernel_rfl) (.inl ⟨by rfl, ?_⟩) ‹_› ?_
   rotate_left 1
   ·intro w hSw
    (try dsimp only at hSw)
    first | (go_simp; done) | (go_simp; with_reducible rfl)
   try simp only [Act.put, sA, sB, sC]
   refine wpAnyH_ready (rs := [4]) (by kernel_rfl) (by simp) ?_
   refine rC rfl (fun K hK => ?_) AllReadyH.nil
   go_simp
   have CPx := l4DrawNodes_any bk _ ds cop wd Kd Cd.bs hdl
   refine CPx.mono ?_
   rintro e wd' ⟨⟨u, zs, rfl, ou, hzl, hza⟩, Kd', hdd'⟩
   have hzi : zs.length ≤ 39 ∧ allInt zs := ⟨by omega, fun d h => by have := hza d h; omega⟩
   obtain ⟨ua, un, uc, rfl⟩ := rowN_slice ou
   have Nu := (ownN_of_row ou).mono (base' := w.heap.size + 2) (by omega)
   replace Zd := Zd.drawn hdd' (by omega)
   replace Yd := Yd.drawn hdd' (by omega)
   replace Td := Td.drawn hdd' hx1
   replace Ud := Ud.drawn hdd' hx2
   replace Md := Md.drawnM (by omega) hdd' (by omega)
   replace Cd := Cd.drawn hdd' k2
   replace Bd := hdd'.below Bd Bd.size (by omega)
   replace sd : xb ≤ wd'.heap.size := Nat.le_trans sd hdd'.size
   clear hdd' CPx Kd
   generalize wd' = wd at *
   (try go_wp2_with fail)
   refine hK.out _ _ (by first | exact ⟨⟨(Td.2 0 _ rfl).1, (Td.2 1 _ rfl).1⟩, (Ud.2 0 _ rfl).1, (Ud.2 1 _ rfl).1, (Ud.2 2 _ rfl).1, (Ud.2 3 _ rfl).1, (Ud.2 4 _ rfl).1, (Ud.2 5 _ rfl).1⟩ | exact ⟨pt, pu⟩ | go_keep) (fun hHeld => ?_)
   clear hK K
   try simp only [Act.put, sA, sB, sC]
   refine wpAnyH_ready (rs := [5]) (by kernel_rfl) (by simp) ?_
   refine rC rfl (fun K hK => ?_) AllReadyH.nil
   obtain ⟨⟨z0, f0⟩, ⟨z1, f1⟩⟩ : (_ ∧ _) ∧ (_ ∧ _) := ⟨Zd.2 0 _ rfl, Zd.2 1 _ rfl⟩
   go_simp
   replace Zd := ((Zd.put 0 (.slice ca ds.length cc)).put 1 (.int .i64 cop))
   replace Yd := ((Yd.far (b' := w.heap.size) (o := 0) (by omega) (.slice ca ds.length cc)).far (b' := w.heap.size) (o := 1) (by omega) (.int .i64 cop))
   replace Td := ((Td.far (b' := w.heap.size) (o := 0) (by omega) (.slice ca ds.length cc)).far (b' := w.heap.size) (o := 1) (by omega) (.int .i64 cop))
   replace Ud := ((Ud.far (b' := w.heap.size) (o := 0) (by omega) (.slice ca ds.length cc)).far (b' := w.heap.size) (o := 1) (by omega) (.int .i64 cop))
   replace Md := ((Md.farM (b := w.heap.size) (o := 0) (by first | omega | (simp; omega)) (.inl (by omega)) (.slice ca ds.length cc)).farM (b := w.heap.size) (o := 1) (by first | omega | (simp; omega)) (.inl (by omega)) (.int .i64 cop))
   replace Cd := ((Cd.far (b := w.heap.size) (o := 0) (by omega) (.slice ca ds.length cc)).far (b := w.heap.size) (o := 1) (by omega) (.int .i64 cop))
   replace Nu := ((Nu.far (b := w.heap.size) (o := 0) (by omega) (.slice ca ds.length cc)).far (b := w.heap.size) (o := 1) (by omega) (.int .i64 cop))
   replace Bd := ((Bd.setCell (p := ⟨w.heap.size, 0, none⟩) (by simp) (.slice ca ds.length cc)).setCell (p := ⟨w.heap.size, 1, none⟩) (by simp) (.int .i64 cop))
   replace sd : xb ≤ ((wd.setCell ⟨w.heap.size, 0, none⟩ (.slice ca ds.length cc)).setCell ⟨w.heap.size, 1, none⟩ (.int .i64 cop)).heap.size := by simpa using sd
   clear z0 f0 z1 f1
   generalize ((wd.setCell ⟨w.heap.size, 0, none⟩ (.slice ca ds.length cc)).setCell ⟨w.heap.size, 1, none⟩ (.int .i64 cop)) = wd at *
   refine hK.out _ _ (by first | exact ⟨⟨(Td.2 0 _ rfl).1, (Td.2 1 _ rfl).1⟩, (Ud.2 0 _ rfl).1, (Ud.2 1 _ rfl).1, (Ud.2 2 _ rfl).1, (Ud.2 3 _ rfl).1, (Ud.2 4 _ rfl).1, (Ud.2 5 _ rfl).1⟩ | exact ⟨pt, pu⟩ | go_keep) (fun hHeld => ?_)
   clear hK K
   try simp only [Act.put, sA, sB, sC]
   refine wpAnyH_ready (rs := [6]) (by kernel_rfl) (by simp) ?_
   refine rC rfl (fun K hK => ?_) AllReadyH.nil
   obtain ⟨⟨z0, f0⟩, ⟨z1, f1⟩, ⟨z2, f2⟩, ⟨z3, f3⟩, ⟨z4, f4⟩, ⟨z5, f5⟩⟩ : (_ ∧ _) ∧ (_ ∧ _) ∧ (_ ∧ _) ∧ (_ ∧ _) ∧ (_ ∧ _) ∧ (_ ∧ _) := ⟨Yd.2 0 _ rfl, Yd.2 1 _ rfl, Yd.2 2 _ rfl, Yd.2 3 _ rfl, Yd.2 4 _ rfl, Yd.2 5 _ rfl⟩
   go_simp
   replace Yd := ((((((Yd.put 0 (.int .i64 m.bye)).put 1 (.int .i64 m.epoch)).put 2 (.slice q.sa m.sealed.length q.sc)).put 3 (.slice q.ea m.seen.length q.ec)).put 4 (.bool m.planned)).put 5 (.slice q.wa m.wrote.length q.wc))
   replace Zd := ((((((Zd.far (b' := w.heap.size + 1) (o := 0) (by omega) (.int .i64 m.bye)).far (b' := w.heap.size + 1) (o := 1) (by omega) (.int .i64 m.epoch)).far (b' := w.heap.size + 1) (o := 2) (by omega) (.slice q.sa m.sealed.length q.sc)).far (b' := w.heap.size + 1) (o := 3) (by omega) (.slice q.ea m.seen.length q.ec)).far (b' := w.heap.size + 1) (o := 4) (by omega) (.bool m.planned)).far (b' := w.heap.size + 1) (o := 5) (by omega) (.slice q.wa m.wrote.length q.wc))
   replace Td := ((((((Td.far (b' := w.heap.size + 1) (o := 0) (by omega) (.int .i64 m.bye)).far (b' := w.heap.size + 1) (o := 1) (by omega) (.int .i64 m.epoch)).far (b' := w.heap.size + 1) (o := 2) (by omega) (.slice q.sa m.sealed.length q.sc)).far (b' := w.heap.size + 1) (o := 3) (by omega) (.slice q.ea m.seen.length q.ec)).far (b' := w.heap.size + 1) (o := 4) (by omega) (.bool m.planned)).far (b' := w.heap.size + 1) (o := 5) (by omega) (.slice q.wa m.wrote.length q.wc))
   replace Ud := ((((((Ud.far (b' := w.heap.size + 1) (o := 0) (by omega) (.int .i64 m.bye)).far (b' := w.heap.size + 1) (o := 1) (by omega) (.int .i64 m.epoch)).far (b' := w.heap.size + 1) (o := 2) (by omega) (.slice q.sa m.sealed.length q.sc)).far (b' := w.heap.size + 1) (o := 3) (by omega) (.slice q.ea m.seen.length q.ec)).far (b' := w.heap.size + 1) (o := 4) (by omega) (.bool m.planned)).far (b' := w.heap.size + 1) (o := 5) (by omega) (.slice q.wa m.wrote.length q.wc))
   replace Md := ((((((Md.farM (b := w.heap.size + 1) (o := 0) (by first | omega | (simp; omega)) (.inl (by omega)) (.int .i64 m.bye)).farM (b := w.heap.size + 1) (o := 1) (by first | omega | (simp; omega)) (.inl (by omega)) (.int .i64 m.epoch)).farM (b := w.heap.size + 1) (o := 2) (by first | omega | (simp; omega)) (.inl (by omega)) (.slice q.sa m.sealed.length q.sc)).farM (b := w.heap.size + 1) (o := 3) (by first | omega | (simp; omega)) (.inl (by omega)) (.slice q.ea m.seen.length q.ec)).farM (b := w.heap.size + 1) (o := 4) (by first | omega | (simp; omega)) (.inl (by omega)) (.bool m.planned)).farM (b := w.heap.size + 1) (o := 5) (by first | omega | (simp; omega)) (.inl (by omega)) (.slice q.wa m.wrote.length q.wc))
   replace Cd := ((((((Cd.far (b := w.heap.size + 1) (o := 0) (by omega) (.int .i64 m.bye)).far (b := w.heap.size + 1) (o := 1) (by omega) (.int .i64 m.epoch)).far (b := w.heap.size + 1) (o := 2) (by omega) (.slice q.sa m.sealed.length q.sc)).far (b := w.heap.size + 1) (o := 3) (by omega) (.slice q.ea m.seen.length q.ec)).far (b := w.heap.size + 1) (o := 4) (by omega) (.bool m.planned)).far (b := w.heap.size + 1) (o := 5) (by omega) (.slice q.wa m.wrote.length q.wc))
   replace Nu := ((((((Nu.far (b := w.heap.size + 1) (o := 0) (by omega) (.int .i64 m.bye)).far (b := w.heap.size + 1) (o := 1) (by omega) (.int .i64 m.epoch)).far (b := w.heap.size + 1) (o := 2) (by omega) (.slice q.sa m.sealed.length q.sc)).far (b := w.heap.size + 1) (o := 3) (by omega) (.slice q.ea m.seen.length q.ec)).far (b := w.heap.size + 1) (o := 4) (by omega) (.bool m.planned)).far (b := w.heap.size + 1) (o := 5) (by omega) (.slice q.wa m.wrote.length q.wc))
   replace Bd := ((((((Bd.setCell (p := ⟨w.heap.size + 1, 0, none⟩) (by simp) (.int .i64 m.bye)).setCell (p := ⟨w.heap.size + 1, 1, none⟩) (by simp) (.int .i64 m.epoch)).setCell (p := ⟨w.heap.size + 1, 2, none⟩) (by simp) (.slice q.sa m.sealed.length q.sc)).setCell (p := ⟨w.heap.size + 1, 3, none⟩) (by simp) (.slice q.ea m.seen.length q.ec)).setCell (p := ⟨w.heap.size + 1, 4, none⟩) (by simp) (.bool m.planned)).setCell (p := ⟨w.heap.size + 1, 5, none⟩) (by simp) (.slice q.wa m.wrote.length q.wc))
   replace sd : xb ≤ ((((((wd.setCell ⟨w.heap.size + 1, 0, none⟩ (.int .i64 m.bye)).setCell ⟨w.heap.size + 1, 1, none⟩ (.int .i64 m.epoch)).setCell ⟨w.heap.size + 1, 2, none⟩ (.slice q.sa m.sealed.length q.sc)).setCell ⟨w.heap.size + 1, 3, none⟩ (.slice q.ea m.seen.length q.ec)).setCell ⟨w.heap.size + 1, 4, none⟩ (.bool m.planned)).setCell ⟨w.heap.size + 1, 5, none⟩ (.slice q.wa m.wrote.length q.wc)).heap.size := by simpa using sd
   clear z0 f0 z1 f1 z2 f2 z3 f3 z4 f4 z5 f5
   generalize ((((((wd.setCell ⟨w.heap.size + 1, 0, none⟩ (.int .i64 m.bye)).setCell ⟨w.heap.size + 1, 1, none⟩ (.int .i64 m.epoch)).setCell ⟨w.heap.size + 1, 2, none⟩ (.slice q.sa m.sealed.length q.sc)).setCell ⟨w.heap.size + 1, 3, none⟩ (.slice q.ea m.seen.length q.ec)).setCell ⟨w.heap.size + 1, 4, none⟩ (.bool m.planned)).setCell ⟨w.heap.size + 1, 5, none⟩ (.slice q.wa m.wrote.length q.wc)) = wd at *
   refine hK.out _ _ (by first | exact ⟨⟨(Td.2 0 _ rfl).1, (Td.2 1 _ rfl).1⟩, (Ud.2 0 _ rfl).1, (Ud.2 1 _ rfl).1, (Ud.2 2 _ rfl).1, (Ud.2 3 _ rfl).1, (Ud.2 4 _ rfl).1, (Ud.2 5 _ rfl).1⟩ | exact ⟨pt, pu⟩ | go_keep) (fun hHeld => ?_)
   clear hK K
   try simp only [Act.put, sA, sB, sC]
   refine tY 7 (v := ?_) rfl (by kernel_rfl) (.inl ⟨by rfl, ?_⟩) ‹_› ?_
   rotate_left 1
   ·intro w hSw
    (try dsimp only at hSw)
    first | (go_simp; done) | (go_simp; with_reducible rfl)
   try simp only [Act.put, sA, sB, sC]
   refine wpAnyH_done (by kernel_rfl) ?_ _
   refine NoPanic.normal ?_
   have a0 := (Zd.2 0 _ rfl).1
   have a1 := (Zd.2 1 _ rfl).1
   have b0 := (Yd.2 0 _ rfl).1
   have b1 := (Yd.2 1 _ rfl).1
   have b2 := (Yd.2 2 _ rfl).1
   have b3 := (Yd.2 3 _ rfl).1
   have b4 := (Yd.2 4 _ rfl).1
   have b5 := (Yd.2 5 _ rfl).1
   have hQ : Hid (DrawPl w (.returned (.tuple #[.agg #[.slice ca ds.length cc, .int .i64 cop], .agg #[.int .i64 m.bye, .int .i64 m.epoch, .slice q.sa m.sealed.length q.sc, .slice q.ea m.seen.length q.ec, .bool m.planned, .slice q.wa m.wrote.length q.wc], .slice ua un uc])) wd) := ⟨m, q, ca, cc, ds, cop, _, zs, rfl, Cd.bs, Md.rd, Nu.bs, dU F1, dU FD, hzi, Bd⟩
   clear Md Bd Yd Zd Td Ud Cd pt pu Nu
   go_wp2_with fail
   refine bodyPost_ret (v := .tuple #[.agg #[.slice ca ds.length cc, .int .i64 cop], .agg #[.int .i64 m.bye, .int .i64 m.epoch, .slice q.sa m.sealed.length q.sc, .slice q.ea m.seen.length q.ec, .bool m.planned, .slice q.wa m.wrote.length q.wc], .slice ua un uc]) (by simp [results, Tryz.results14, go_sem, a0, a1, b0, b1, b2, b3, b4, b5]) rfl (dU hQ)
end Go.Proofs.YtajoncomhdimnaaGreat
