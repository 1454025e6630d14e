/- Mends drawn: l9DrawOne (printed by tools/mkmde.py). -/
import Derived.Test.YtjkjmapibcfcdaaGreatMdD
import Derived.Deep.RegionLaw
import Derived.Deep.RegionHeld3
import Derived.Deep.DeepCutAuto
namespace Go.Proofs.YtjkjmapibcfcdaaGreat
open Go.ChangeShapes Go.WideShapes Go.ChangeAt Go.RowKit
set_option linter.unusedVariables false
set_option linter.unusedSimpArgs false
set_option maxRecDepth 100000

structure DrewO (w : World) (bk lo : Nat) (ca : Option Addr) (cc : Nat) (ds : List Int) (cop : Int) (m : Mn) (q : Pm) (w' : World) : Prop where
 bkw : w.heap.size ≤ bk
 bkl : bk < lo
 low : lo ≤ w'.heap.size
 cur : Cur w' bk
 cfg : OwnN w' lo (.slice ca ds.length cc) ds
 len : ds.length ≤ 9
 fit : allInt ds ∧ 0 ≤ cop ∧ cop ≤ 5
 men : OwMend lo w'.heap.size (.agg #[.int .i64 m.bye, .int .i64 m.epoch, .slice q.sa m.sealed.length q.sc, .slice q.ea m.seen.length q.ec, .bool m.planned, .slice q.wa m.wrote.length q.wc]) m w'
 fitm : fitN m
 bel : Below w.heap.size w w'
def DrawO (w : World) (e : Ending) (w' : World) : Prop := ∃ (bk lo : Nat) (ca : Option Addr) (cc : Nat) (ds : List Int) (cop : Int) (m : Mn) (q : Pm), e = .returned (.tuple #[.agg #[.slice ca ds.length cc, .int .i64 cop], .agg #[.int .i64 m.bye, .int .i64 m.epoch, .slice q.sa m.sealed.length q.sc, .slice q.ea m.seen.length q.ec, .bool m.planned, .slice q.wa m.wrote.length q.wc], .pointer (some ⟨bk, 0, none⟩)]) ∧ DrewO w bk lo ca cc ds cop m q w'
theorem Cur.setX {bk b o : Nat} {W : World} {u0 : Value} (h : Cur W bk) (hb : b ≠ bk) (hc : W.cell? ⟨b, o, none⟩ = some u0) (hu : ∀ v, u0 ≠ .int .u8 v) (u : Value) : Cur (W.setCell ⟨b, o, none⟩ u) bk := by
 obtain ⟨a, len, cap, i, hh, hr, hn, hi, c0, c1, c2, f1, f2⟩ := h
 refine ⟨a, len, cap, i, hh, ⟨hr.1, ?_⟩, hn, hi, sO c0 (.inl (Ne.symm hb)), sO c1 (.inl (Ne.symm hb)), sO c2 (.inl (Ne.symm hb)), (World.frozen?_setCell _ _ _ _).trans f1, (World.frozen?_setCell _ _ _ _).trans f2⟩
 rcases hr.2 with h0 | ⟨b', off, rfl, hcs⟩
 ·exact .inl h0
 ·refine .inr ⟨b', off, rfl, fun j hj => ?_⟩
  obtain ⟨v, h1, h2, h3⟩ := hcs j hj
  refine ⟨v, h1, h2, sO h3 ?_⟩
  by_cases e : b' = b
  ·right
   intro e2
   subst e
   rw [e2] at h3
   rw [hc] at h3
   exact hu v (Option.some.inj h3)
  ·exact .inl e
theorem OwMend.farM {lo hi b o : Nat} {v : Value} {m : Mn} {W : World} (h : OwMend lo hi v m W) (hh : hi ≤ W.heap.size) (hb : b < lo ∨ hi ≤ b) (u : Value) : OwMend lo hi v m (W.setCell ⟨b, o, none⟩ u) := (h.sits hh).all _ fun k h1 h2 => Below.heap_setCell _ _ _ k (by simp only; omega)
theorem OwMend.drawnM {lo hi bk : Nat} {v : Value} {m : Mn} {W W' : World} (h : OwMend lo hi v m W) (hh : hi ≤ W.heap.size) (hd : Drawn bk W W') (hb : bk < lo) : OwMend lo hi v m W' := (h.sits hh).all _ fun k h1 h2 => hd.block k (by omega) (by omega)
theorem OwMend.belowM {lo hi : Nat} {v : Value} {m : Mn} {W W' : World} (h : OwMend lo hi v m W) (hh : hi ≤ W.heap.size) (hb : Below W.heap.size W W') : OwMend lo hi v m W' := (h.sits hh).all _ fun k h1 h2 => hb.block k (by omega)
theorem OwMend.wideM {lo hi lo' hi' : Nat} {v : Value} {m : Mn} {W : World} (h : OwMend lo hi v m W) (h1 : lo' ≤ lo) (h2 : hi ≤ hi') : OwMend lo' hi' v m W := by
 obtain ⟨sv, ev, wv, rs, e1, e2, e3, e4, e5, e6⟩ := h
 exact ⟨sv, ev, wv, rs, e1, e2, e3.wide h1 h2, e4.wide h1 h2, e5.wide h1 h2, e6⟩
set_option maxHeartbeats 16000000 in
theorem l9DrawOne_any (a : Option Addr) (len cap : Nat) (w : World) (hr : Row8 w a len) :
  Calls Tryz.prog 22 #[.slice a len cap] w (DrawO w) := by
 have ba : ∀ (w : World) o, Below w.heap.size w (w.alloc o) := fun w o => (Below.refl _ _).alloc (Nat.le_refl _) o
 have bb := bT (ba w (.cells #[.slice none 0 0, .int .i64 0] 26)) (ba _ (.cells #[.int .i64 0, .int .i64 0, .slice none 0 0, .slice none 0 0, .bool false, .slice none 0 0] 30))
 have Z0 := (BxZ.new (B := w.heap.size) w [.slice none 0 0, .int .i64 0] 26 (Nat.le_refl _)).below (ba _ (.cells #[.int .i64 0, .int .i64 0, .slice none 0 0, .slice none 0 0, .bool false, .slice none 0 0] 30))
 have Y0 := BxZ.new (B := w.heap.size) (w.alloc (.cells #[.slice none 0 0, .int .i64 0] 26)) [.int .i64 0, .int .i64 0, .slice none 0 0, .slice none 0 0, .bool false, .slice none 0 0] 30 (by simp)
 rw [show (w.alloc (.cells #[.slice none 0 0, .int .i64 0] 26)).heap.size = w.heap.size + 1 from by simp] at Y0
 have e3 : Hid (((w.alloc (.cells #[.slice none 0 0, .int .i64 0] 26)).alloc (.cells #[.int .i64 0, .int .i64 0, .slice none 0 0, .slice none 0 0, .bool false, .slice none 0 0] 30)).heap.size = w.heap.size + 2) := by simp [Hid]
 have CN := dH (l1New_any a len cap _ (hr.below bb))
 clear hr
 go_enter Tryz.func22, Tryz.ntmps22
 go_wp2_with fail
 generalize ((w.alloc (.cells #[.slice none 0 0, .int .i64 0] 26)).alloc (.cells #[.int .i64 0, .int .i64 0, .slice none 0 0, .slice none 0 0, .bool false, .slice none 0 0] 30)) = w0 at *
 have h3 := dU e3
 refine (dU CN).mono ?_
 rintro e w1 ⟨bk, rfl, hbk, hc1, hb1⟩
 have hk1 := hc1.lt
 have Z1 := Z0.below hb1
 have Y1 := Y0.below hb1
 have B1 := bT bb hb1
 clear CN Z0 Y0 bb hb1
 go_wp2_with fail
 refine (l4DrawRight_any bk w1 hc1).mono ?_
 rintro e w2 ⟨⟨sv, ds, cop, rfl, O2, hdl, hdi, hco⟩, hc2, hd2⟩
 have N2 := ownN_of_row O2
 obtain ⟨-, ca, cc, rfl, -, -⟩ := N2.bs
 have hs2 := hd2.size
 have Z2 := Z1.drawn hd2 (by omega)
 have Y2 := Y1.drawn hd2 (by omega)
 have B2 := hd2.below B1 B1.size (by omega)
 have okd : Hid (allInt ds ∧ 0 ≤ cop ∧ cop ≤ 5) := ⟨fun z hz => by have := hdi z hz; exact ⟨by omega, by omega⟩, by omega, by omega⟩
 have hdl9 : ds.length ≤ 9 := by omega
 have bX := ba w2 (.cells #[.slice ca ds.length cc, .int .i64 cop] 26)
 have X3 := BxZ.new (B := 0) w2 [.slice ca ds.length cc, .int .i64 cop] 26 (Nat.zero_le _)
 have N3 := N2.below bX
 have hc3 := hc2.below bX
 have Z3 := Z2.below bX
 have Y3 := Y2.below bX
 have B3 := bT B2 bX
 have s3 : (w2.alloc (.cells #[.slice ca ds.length cc, .int .i64 cop] 26)).heap.size = w2.heap.size + 1 := by simp
 have hne : ds = [] ∨ bO (.slice ca ds.length cc) ≠ bk := by
  rcases N2.ge with h | h
  ·exact .inl h
  ·exact .inr (by omega)
 have CD := dH (l9Draw_any bk ca cc ds cop _ hc3 N3.bs hdl9 hne)
 have x0 := (X3.2 0 _ rfl).1
 have x1 := (X3.2 1 _ rfl).1
 clear O2 Z1 Y1 B1 hc1 hd2 Z2 Y2 B2 hc2 hdi hco hc3
 go_wp2_with fail
 generalize hxb : w2.heap.size = xb at *
 generalize w2.alloc (.cells #[.slice ca ds.length cc, .int .i64 cop] 26) = w3 at *
 refine (dU CD).mono ?_
 rintro e w4 ⟨⟨m, q, rfl, M4, F4⟩, hc4, hd4⟩
 have hs4 := hd4.size
 have Z4 := Z3.drawn hd4 (by omega)
 have Y4 := Y3.drawn hd4 (by omega)
 have X4 := X3.drawn hd4 (by omega)
 have N4 := N3.drawn hd4 (by omega)
 have B4 := hd4.below B3 B3.size (by omega)
 have bM := ba w4 (.cells #[.int .i64 m.bye, .int .i64 m.epoch, .slice q.sa m.sealed.length q.sc, .slice q.ea m.seen.length q.ec, .bool m.planned, .slice q.wa m.wrote.length q.wc] 30)
 have K5 := BxZ.new (B := 0) w4 [.int .i64 m.bye, .int .i64 m.epoch, .slice q.sa m.sealed.length q.sc, .slice q.ea m.seen.length q.ec, .bool m.planned, .slice q.wa m.wrote.length q.wc] 30 (Nat.zero_le _)
 have M5 := M4.belowM (Nat.le_refl _) bM
 have Z5 := Z4.below bM
 have Y5 := Y4.below bM
 have X5 := X4.below bM
 have N5 := N4.below bM
 have B5 := bT B4 bM
 have s5 : (w4.alloc (.cells #[.int .i64 m.bye, .int .i64 m.epoch, .slice q.sa m.sealed.length q.sc, .slice q.ea m.seen.length q.ec, .bool m.planned, .slice q.wa m.wrote.length q.wc] 30)).heap.size = w4.heap.size + 1 := by simp
 have CO := dH (l1Once_any bk 15 (by omega) (by omega) _ (hc4.below bM))
 have HF := dH F4
 clear CD x0 x1 Z3 Y3 X3 N3 B3 Z4 Y4 X4 N4 B4 M4 hd4 hc4 F4
 go_wp2_with fail
 generalize hmb : w4.heap.size = mb at *
 generalize w4.alloc (.cells #[.int .i64 m.bye, .int .i64 m.epoch, .slice q.sa m.sealed.length q.sc, .slice q.ea m.seen.length q.ec, .bool m.planned, .slice q.wa m.wrote.length q.wc] 30) = w5 at *
 refine (dU CO).mono ?_
 rintro e w6 ⟨⟨y6, rfl⟩, hc6, hd6⟩
 have hs6 := hd6.size
 have Z6 := Z5.drawn hd6 (by omega)
 have Y6 := Y5.drawn hd6 (by omega)
 have X6 := X5.drawn hd6 (by omega)
 have K6 := K5.drawn hd6 (by omega)
 have N6 := N5.drawn hd6 (by omega)
 have M6 := M5.drawnM (by omega) hd6 (by omega)
 have B6 := hd6.below B5 B5.size (by omega)
 clear CO Z5 Y5 X5 K5 N5 M5 B5 hd6
 cases y6 with
 | false =>
  have py : (w6.cell? ⟨xb, 0, none⟩ = some (.slice ca ds.length cc) ∧ w6.cell? ⟨xb, 1, none⟩ = some (.int .i64 cop)) ∧ w6.cell? ⟨mb, 0, none⟩ = some (.int .i64 m.bye) ∧ w6.cell? ⟨mb, 1, none⟩ = some (.int .i64 m.epoch) ∧ w6.cell? ⟨mb, 2, none⟩ = some (.slice q.sa m.sealed.length q.sc) ∧ w6.cell? ⟨mb, 3, none⟩ = some (.slice q.ea m.seen.length q.ec) ∧ w6.cell? ⟨mb, 4, none⟩ = some (.bool m.planned) ∧ w6.cell? ⟨mb, 5, none⟩ = some (.slice q.wa m.wrote.length q.wc) := ⟨⟨(X6.2 0 _ rfl).1, (X6.2 1 _ rfl).1⟩, (K6.2 0 _ rfl).1, (K6.2 1 _ rfl).1, (K6.2 2 _ rfl).1, (K6.2 3 _ rfl).1, (K6.2 4 _ rfl).1, (K6.2 5 _ rfl).1⟩
  have bdr : Below w6.heap.size w6 w6.drew := (Below.refl _ _).drew
  have Xd := X6.below bdr
  have Kd := K6.below bdr
  have Zd := Z6.below bdr
  have Yd := Y6.below bdr
  have Nd := N6.below bdr
  have Md := M6.belowM (by omega) bdr
  have Cd := hc6.below bdr
  have Bd := bT B6 bdr
  have sd : w6.heap.size ≤ w6.drew.heap.size := bdr.size
  have sdr : mb < w6.drew.heap.size := Kd.lt
  clear X6 K6 Z6 Y6 N6 M6 hc6 B6 bdr
  go_wp2_with fail
  refine wp_region_noPanic ?_
  refine wp_region_held_drew (S := fun W => (W.cell? ⟨xb, 0, none⟩ = some (.slice ca ds.length cc) ∧ W.cell? ⟨xb, 1, none⟩ = some (.int .i64 cop)) ∧ W.cell? ⟨mb, 0, none⟩ = some (.int .i64 m.bye) ∧ W.cell? ⟨mb, 1, none⟩ = some (.int .i64 m.epoch) ∧ W.cell? ⟨mb, 2, none⟩ = some (.slice q.sa m.sealed.length q.sc) ∧ W.cell? ⟨mb, 3, none⟩ = some (.slice q.ea m.seen.length q.ec) ∧ W.cell? ⟨mb, 4, none⟩ = some (.bool m.planned) ∧ W.cell? ⟨mb, 5, none⟩ = some (.slice q.wa m.wrote.length q.wc)) (by kernel_rfl) (by first | exact ⟨⟨(Xd.2 0 _ rfl).1, (Xd.2 1 _ rfl).1⟩, (Kd.2 0 _ rfl).1, (Kd.2 1 _ rfl).1, (Kd.2 2 _ rfl).1, (Kd.2 3 _ rfl).1, (Kd.2 4 _ rfl).1, (Kd.2 5 _ rfl).1⟩ | exact py | go_keep) (fun hHeld => ?_)
  generalize w6.drew = wd at *
  refine tY 0 (v := ?_) rfl (by kernel_rfl) (.inl ⟨by rfl, ?_⟩) ‹_› ?_
  rotate_left 1
  ·intro w hSw
   (try dsimp only at hSw)
   first | (go_simp; done) | (go_simp; with_reducible rfl)
  try simp only [Act.put, sA, sB, sC]
  refine tY 1 (v := ?_) rfl (by kernel_rfl) (.inl ⟨by rfl, ?_⟩) ‹_› ?_
  rotate_left 1
  ·intro w hSw
   (try dsimp only at hSw)
   first | (go_simp; done) | (go_simp; with_reducible rfl)
  try simp only [Act.put, sA, sB, sC]
  refine tY 2 (v := ?_) rfl (by kernel_rfl) (.inl ⟨by rfl, ?_⟩) ‹_› ?_
  rotate_left 1
  ·intro w hSw
   (try dsimp only at hSw)
   first | (go_simp; done) | (go_simp; with_reducible rfl)
  try simp only [Act.put, sA, sB, sC]
  refine wpAnyH_ready (rs := [3]) (by kernel_rfl) (by simp) ?_
  refine rC rfl (fun K hK => ?_) AllReadyH.nil
  obtain ⟨⟨z0, f0⟩, ⟨z1, f1⟩⟩ : (_ ∧ _) ∧ (_ ∧ _) := ⟨Zd.2 0 _ rfl, Zd.2 1 _ rfl⟩
  go_simp
  have es9 : ((wd.setCell ⟨w.heap.size, 0, none⟩ (.slice ca ds.length cc)).setCell ⟨w.heap.size, 1, none⟩ (.int .i64 cop)).heap.size = wd.heap.size := by simp
  replace Cd := Cd.setX (b := w.heap.size) (o := 0) (by omega) ((Zd).2 0 _ rfl).1 (by intro v; simp) (.slice ca ds.length cc)
  replace Cd := Cd.setX (b := w.heap.size) (o := 1) (by omega) (((Zd.put 0 (.slice ca ds.length cc))).2 1 _ rfl).1 (by intro v; simp) (.int .i64 cop)
  replace Zd := ((Zd.put 0 (.slice ca ds.length cc)).put 1 (.int .i64 cop))
  replace Yd := ((Yd.far (b' := w.heap.size) (o := 0) (by omega) (.slice ca ds.length cc)).far (b' := w.heap.size) (o := 1) (by omega) (.int .i64 cop))
  replace Xd := ((Xd.far (b' := w.heap.size) (o := 0) (by omega) (.slice ca ds.length cc)).far (b' := w.heap.size) (o := 1) (by omega) (.int .i64 cop))
  replace Kd := ((Kd.far (b' := w.heap.size) (o := 0) (by omega) (.slice ca ds.length cc)).far (b' := w.heap.size) (o := 1) (by omega) (.int .i64 cop))
  replace Nd := ((Nd.far (b := w.heap.size) (o := 0) (by omega) (.slice ca ds.length cc)).far (b := w.heap.size) (o := 1) (by omega) (.int .i64 cop))
  replace Md := ((Md.farM (b := w.heap.size) (o := 0) (by first | omega | (simp; omega)) (.inl (by omega)) (.slice ca ds.length cc)).farM (b := w.heap.size) (o := 1) (by first | omega | (simp; omega)) (.inl (by omega)) (.int .i64 cop))
  replace Bd := ((Bd.setCell (p := ⟨w.heap.size, 0, none⟩) (by simp) (.slice ca ds.length cc)).setCell (p := ⟨w.heap.size, 1, none⟩) (by simp) (.int .i64 cop))
  clear z0 f0 z1 f1
  generalize ((wd.setCell ⟨w.heap.size, 0, none⟩ (.slice ca ds.length cc)).setCell ⟨w.heap.size, 1, none⟩ (.int .i64 cop)) = wd' at *
  replace sd : w6.heap.size ≤ wd'.heap.size := by omega
  replace sdr : mb < wd'.heap.size := by omega
  clear es9
  generalize wd' = wd at *
  refine hK.out _ _ (by first | exact ⟨⟨(Xd.2 0 _ rfl).1, (Xd.2 1 _ rfl).1⟩, (Kd.2 0 _ rfl).1, (Kd.2 1 _ rfl).1, (Kd.2 2 _ rfl).1, (Kd.2 3 _ rfl).1, (Kd.2 4 _ rfl).1, (Kd.2 5 _ rfl).1⟩ | exact py | go_keep) (fun hHeld => ?_)
  clear hK K
  try simp only [Act.put, sA, sB, sC]
  refine wpAnyH_ready (rs := [4]) (by kernel_rfl) (by simp) ?_
  refine rC rfl (fun K hK => ?_) AllReadyH.nil
  obtain ⟨⟨z0, f0⟩, ⟨z1, f1⟩, ⟨z2, f2⟩, ⟨z3, f3⟩, ⟨z4, f4⟩, ⟨z5, f5⟩⟩ : (_ ∧ _) ∧ (_ ∧ _) ∧ (_ ∧ _) ∧ (_ ∧ _) ∧ (_ ∧ _) ∧ (_ ∧ _) := ⟨Yd.2 0 _ rfl, Yd.2 1 _ rfl, Yd.2 2 _ rfl, Yd.2 3 _ rfl, Yd.2 4 _ rfl, Yd.2 5 _ rfl⟩
  go_simp
  have es9 : ((((((wd.setCell ⟨w.heap.size + 1, 0, none⟩ (.int .i64 m.bye)).setCell ⟨w.heap.size + 1, 1, none⟩ (.int .i64 m.epoch)).setCell ⟨w.heap.size + 1, 2, none⟩ (.slice q.sa m.sealed.length q.sc)).setCell ⟨w.heap.size + 1, 3, none⟩ (.slice q.ea m.seen.length q.ec)).setCell ⟨w.heap.size + 1, 4, none⟩ (.bool m.planned)).setCell ⟨w.heap.size + 1, 5, none⟩ (.slice q.wa m.wrote.length q.wc)).heap.size = wd.heap.size := by simp
  replace Cd := Cd.setX (b := w.heap.size + 1) (o := 0) (by omega) ((Yd).2 0 _ rfl).1 (by intro v; simp) (.int .i64 m.bye)
  replace Cd := Cd.setX (b := w.heap.size + 1) (o := 1) (by omega) (((Yd.put 0 (.int .i64 m.bye))).2 1 _ rfl).1 (by intro v; simp) (.int .i64 m.epoch)
  replace Cd := Cd.setX (b := w.heap.size + 1) (o := 2) (by omega) ((((Yd.put 0 (.int .i64 m.bye)).put 1 (.int .i64 m.epoch))).2 2 _ rfl).1 (by intro v; simp) (.slice q.sa m.sealed.length q.sc)
  replace Cd := Cd.setX (b := w.heap.size + 1) (o := 3) (by omega) (((((Yd.put 0 (.int .i64 m.bye)).put 1 (.int .i64 m.epoch)).put 2 (.slice q.sa m.sealed.length q.sc))).2 3 _ rfl).1 (by intro v; simp) (.slice q.ea m.seen.length q.ec)
  replace Cd := Cd.setX (b := w.heap.size + 1) (o := 4) (by omega) ((((((Yd.put 0 (.int .i64 m.bye)).put 1 (.int .i64 m.epoch)).put 2 (.slice q.sa m.sealed.length q.sc)).put 3 (.slice q.ea m.seen.length q.ec))).2 4 _ rfl).1 (by intro v; simp) (.bool m.planned)
  replace Cd := Cd.setX (b := w.heap.size + 1) (o := 5) (by omega) (((((((Yd.put 0 (.int .i64 m.bye)).put 1 (.int .i64 m.epoch)).put 2 (.slice q.sa m.sealed.length q.sc)).put 3 (.slice q.ea m.seen.length q.ec)).put 4 (.bool m.planned))).2 5 _ rfl).1 (by intro v; simp) (.slice q.wa m.wrote.length q.wc)
  replace Yd := ((((((Yd.put 0 (.int .i64 m.bye)).put 1 (.int .i64 m.epoch)).put 2 (.slice q.sa m.sealed.length q.sc)).put 3 (.slice q.ea m.seen.length q.ec)).put 4 (.bool m.planned)).put 5 (.slice q.wa m.wrote.length q.wc))
  replace Zd := ((((((Zd.far (b' := w.heap.size + 1) (o := 0) (by omega) (.int .i64 m.bye)).far (b' := w.heap.size + 1) (o := 1) (by omega) (.int .i64 m.epoch)).far (b' := w.heap.size + 1) (o := 2) (by omega) (.slice q.sa m.sealed.length q.sc)).far (b' := w.heap.size + 1) (o := 3) (by omega) (.slice q.ea m.seen.length q.ec)).far (b' := w.heap.size + 1) (o := 4) (by omega) (.bool m.planned)).far (b' := w.heap.size + 1) (o := 5) (by omega) (.slice q.wa m.wrote.length q.wc))
  replace Xd := ((((((Xd.far (b' := w.heap.size + 1) (o := 0) (by omega) (.int .i64 m.bye)).far (b' := w.heap.size + 1) (o := 1) (by omega) (.int .i64 m.epoch)).far (b' := w.heap.size + 1) (o := 2) (by omega) (.slice q.sa m.sealed.length q.sc)).far (b' := w.heap.size + 1) (o := 3) (by omega) (.slice q.ea m.seen.length q.ec)).far (b' := w.heap.size + 1) (o := 4) (by omega) (.bool m.planned)).far (b' := w.heap.size + 1) (o := 5) (by omega) (.slice q.wa m.wrote.length q.wc))
  replace Kd := ((((((Kd.far (b' := w.heap.size + 1) (o := 0) (by omega) (.int .i64 m.bye)).far (b' := w.heap.size + 1) (o := 1) (by omega) (.int .i64 m.epoch)).far (b' := w.heap.size + 1) (o := 2) (by omega) (.slice q.sa m.sealed.length q.sc)).far (b' := w.heap.size + 1) (o := 3) (by omega) (.slice q.ea m.seen.length q.ec)).far (b' := w.heap.size + 1) (o := 4) (by omega) (.bool m.planned)).far (b' := w.heap.size + 1) (o := 5) (by omega) (.slice q.wa m.wrote.length q.wc))
  replace Nd := ((((((Nd.far (b := w.heap.size + 1) (o := 0) (by omega) (.int .i64 m.bye)).far (b := w.heap.size + 1) (o := 1) (by omega) (.int .i64 m.epoch)).far (b := w.heap.size + 1) (o := 2) (by omega) (.slice q.sa m.sealed.length q.sc)).far (b := w.heap.size + 1) (o := 3) (by omega) (.slice q.ea m.seen.length q.ec)).far (b := w.heap.size + 1) (o := 4) (by omega) (.bool m.planned)).far (b := w.heap.size + 1) (o := 5) (by omega) (.slice q.wa m.wrote.length q.wc))
  replace Md := ((((((Md.farM (b := w.heap.size + 1) (o := 0) (by first | omega | (simp; omega)) (.inl (by omega)) (.int .i64 m.bye)).farM (b := w.heap.size + 1) (o := 1) (by first | omega | (simp; omega)) (.inl (by omega)) (.int .i64 m.epoch)).farM (b := w.heap.size + 1) (o := 2) (by first | omega | (simp; omega)) (.inl (by omega)) (.slice q.sa m.sealed.length q.sc)).farM (b := w.heap.size + 1) (o := 3) (by first | omega | (simp; omega)) (.inl (by omega)) (.slice q.ea m.seen.length q.ec)).farM (b := w.heap.size + 1) (o := 4) (by first | omega | (simp; omega)) (.inl (by omega)) (.bool m.planned)).farM (b := w.heap.size + 1) (o := 5) (by first | omega | (simp; omega)) (.inl (by omega)) (.slice q.wa m.wrote.length q.wc))
  replace Bd := ((((((Bd.setCell (p := ⟨w.heap.size + 1, 0, none⟩) (by simp) (.int .i64 m.bye)).setCell (p := ⟨w.heap.size + 1, 1, none⟩) (by simp) (.int .i64 m.epoch)).setCell (p := ⟨w.heap.size + 1, 2, none⟩) (by simp) (.slice q.sa m.sealed.length q.sc)).setCell (p := ⟨w.heap.size + 1, 3, none⟩) (by simp) (.slice q.ea m.seen.length q.ec)).setCell (p := ⟨w.heap.size + 1, 4, none⟩) (by simp) (.bool m.planned)).setCell (p := ⟨w.heap.size + 1, 5, none⟩) (by simp) (.slice q.wa m.wrote.length q.wc))
  clear z0 f0 z1 f1 z2 f2 z3 f3 z4 f4 z5 f5
  generalize ((((((wd.setCell ⟨w.heap.size + 1, 0, none⟩ (.int .i64 m.bye)).setCell ⟨w.heap.size + 1, 1, none⟩ (.int .i64 m.epoch)).setCell ⟨w.heap.size + 1, 2, none⟩ (.slice q.sa m.sealed.length q.sc)).setCell ⟨w.heap.size + 1, 3, none⟩ (.slice q.ea m.seen.length q.ec)).setCell ⟨w.heap.size + 1, 4, none⟩ (.bool m.planned)).setCell ⟨w.heap.size + 1, 5, none⟩ (.slice q.wa m.wrote.length q.wc)) = wd' at *
  replace sd : w6.heap.size ≤ wd'.heap.size := by omega
  replace sdr : mb < wd'.heap.size := by omega
  clear es9
  generalize wd' = wd at *
  refine hK.out _ _ (by first | exact ⟨⟨(Xd.2 0 _ rfl).1, (Xd.2 1 _ rfl).1⟩, (Kd.2 0 _ rfl).1, (Kd.2 1 _ rfl).1, (Kd.2 2 _ rfl).1, (Kd.2 3 _ rfl).1, (Kd.2 4 _ rfl).1, (Kd.2 5 _ rfl).1⟩ | exact py | go_keep) (fun hHeld => ?_)
  clear hK K
  try simp only [Act.put, sA, sB, sC]
  refine tY 5 (v := ?_) rfl (by kernel_rfl) (.inl ⟨by rfl, ?_⟩) ‹_› ?_
  rotate_left 1
  ·intro w hSw
   (try dsimp only at hSw)
   first | (go_simp; done) | (go_simp; with_reducible rfl)
  try simp only [Act.put, sA, sB, sC]
  refine wpAnyH_done (by kernel_rfl) ?_ _
  refine NoPanic.normal ?_
  have q0 := (Zd.2 0 _ rfl).1
  have q1 := (Zd.2 1 _ rfl).1
  have p0 := (Yd.2 0 _ rfl).1
  have p1 := (Yd.2 1 _ rfl).1
  have p2 := (Yd.2 2 _ rfl).1
  have p3 := (Yd.2 3 _ rfl).1
  have p4 := (Yd.2 4 _ rfl).1
  have p5 := (Yd.2 5 _ rfl).1
  have hQ : Hid (DrawO w (.returned (.tuple #[.agg #[.slice ca ds.length cc, .int .i64 cop], .agg #[.int .i64 m.bye, .int .i64 m.epoch, .slice q.sa m.sealed.length q.sc, .slice q.ea m.seen.length q.ec, .bool m.planned, .slice q.wa m.wrote.length q.wc], .pointer (some ⟨bk, 0, none⟩)])) wd) := ⟨bk, w1.heap.size, ca, cc, ds, cop, m, q, rfl, ⟨by omega, by omega, by omega, Cd, Nd.mono (by omega), hdl9, dU okd, Md.wideM (by omega) (by omega), dU HF, Bd⟩⟩
  clear Cd Nd Md Bd Xd Kd Zd Yd py
  go_wp2_with fail
  refine bodyPost_ret (v := .tuple #[.agg #[.slice ca ds.length cc, .int .i64 cop], .agg #[.int .i64 m.bye, .int .i64 m.epoch, .slice q.sa m.sealed.length q.sc, .slice q.ea m.seen.length q.ec, .bool m.planned, .slice q.wa m.wrote.length q.wc], .pointer (some ⟨bk, 0, none⟩)]) (by simp [results, Tryz.results22, go_sem, q0, q1, p0, p1, p2, p3, p4, p5]) rfl (dU hQ)
 | true =>
  have CF4 := dH (l4Draw_any bk w6 hc6)
  clear hc6 N6
  go_wp2_with fail
  refine (dU CF4).mono ?_
  rintro e w7 ⟨⟨sv7, ds7, cop7, rfl, N7, hdl7, hdi7, hco7⟩, hc7, hd7⟩
  obtain ⟨-, ca7, cc7, rfl, -, -⟩ := N7.bs
  have hs7 := hd7.size
  have Z7 := Z6.drawn hd7 (by omega)
  have Y7 := Y6.drawn hd7 (by omega)
  have X7 := X6.drawn hd7 (by omega)
  have K7 := K6.drawn hd7 (by omega)
  have M7 := M6.drawnM (by omega) hd7 (by omega)
  have B7 := hd7.below B6 B6.size (by omega)
  have okd7 : Hid (allInt ds7 ∧ 0 ≤ cop7 ∧ cop7 ≤ 5) := ⟨fun z hz => by have := hdi7 z hz; exact ⟨by omega, by omega⟩, by omega, by omega⟩
  obtain ⟨z8, g8⟩ := X7.2 0 _ rfl
  obtain ⟨z9, g9⟩ := X7.2 1 _ rfl
  have X8 := (X7.put 0 (.slice ca7 ds7.length cc7)).put 1 (.int .i64 cop7)
  have Z8 := (Z7.far (b' := xb) (o := 0) (by omega) (.slice ca7 ds7.length cc7)).far (b' := xb) (o := 1) (by omega) (.int .i64 cop7)
  have Y8 := (Y7.far (b' := xb) (o := 0) (by omega) (.slice ca7 ds7.length cc7)).far (b' := xb) (o := 1) (by omega) (.int .i64 cop7)
  have K8 := (K7.far (b' := xb) (o := 0) (by omega) (.slice ca7 ds7.length cc7)).far (b' := xb) (o := 1) (by omega) (.int .i64 cop7)
  have M8 := (M7.farM (b := xb) (o := 0) (by omega) (.inl (by omega)) (.slice ca7 ds7.length cc7)).farM (b := xb) (o := 1) (by simp; omega) (.inl (by omega)) (.int .i64 cop7)
  have N8 := (N7.far (b := xb) (o := 0) (by omega) (.slice ca7 ds7.length cc7)).far (b := xb) (o := 1) (by omega) (.int .i64 cop7)
  have C8 := (hc7.setNew4 (b := xb) (by omega) 0 (.slice ca7 ds7.length cc7)).setNew4 (b := xb) (by omega) 1 (.int .i64 cop7)
  have B8 := (B7.setCell (p := ⟨xb, 0, none⟩) (by simp only; omega) (.slice ca7 ds7.length cc7)).setCell (p := ⟨xb, 1, none⟩) (by simp only; omega) (.int .i64 cop7)
  have s8 : ((w7.setCell ⟨xb, 0, none⟩ (.slice ca7 ds7.length cc7)).setCell ⟨xb, 1, none⟩ (.int .i64 cop7)).heap.size = w7.heap.size := by simp
  clear CF4 Z6 Y6 X6 K6 M6 B6 Z7 Y7 X7 K7 M7 B7 N7 hc7 hd7 hdi7 hco7 okd
  go_upto_region 6 with fail
  generalize (w7.setCell ⟨xb, 0, none⟩ (.slice ca7 ds7.length cc7)).setCell ⟨xb, 1, none⟩ (.int .i64 cop7) = w8 at *
  clear z8 g8 z9 g9 hne
  generalize ca7 = ca at *
  generalize cc7 = cc at *
  have okd := okd7
  have hdl9 := hdl7
  clear okd7
  have py : (w8.cell? ⟨xb, 0, none⟩ = some (.slice ca ds7.length cc) ∧ w8.cell? ⟨xb, 1, none⟩ = some (.int .i64 cop7)) ∧ w8.cell? ⟨mb, 0, none⟩ = some (.int .i64 m.bye) ∧ w8.cell? ⟨mb, 1, none⟩ = some (.int .i64 m.epoch) ∧ w8.cell? ⟨mb, 2, none⟩ = some (.slice q.sa m.sealed.length q.sc) ∧ w8.cell? ⟨mb, 3, none⟩ = some (.slice q.ea m.seen.length q.ec) ∧ w8.cell? ⟨mb, 4, none⟩ = some (.bool m.planned) ∧ w8.cell? ⟨mb, 5, none⟩ = some (.slice q.wa m.wrote.length q.wc) := ⟨⟨(X8.2 0 _ rfl).1, (X8.2 1 _ rfl).1⟩, (K8.2 0 _ rfl).1, (K8.2 1 _ rfl).1, (K8.2 2 _ rfl).1, (K8.2 3 _ rfl).1, (K8.2 4 _ rfl).1, (K8.2 5 _ rfl).1⟩
  have bdr : Below w8.heap.size w8 w8.drew := (Below.refl _ _).drew
  have Xd := X8.below bdr
  have Kd := K8.below bdr
  have Zd := Z8.below bdr
  have Yd := Y8.below bdr
  have Nd := N8.below bdr
  have Md := M8.belowM (by omega) bdr
  have Cd := C8.below bdr
  have Bd := bT B8 bdr
  have sd : w8.heap.size ≤ w8.drew.heap.size := bdr.size
  have sdr : mb < w8.drew.heap.size := Kd.lt
  clear X8 K8 Z8 Y8 N8 M8 C8 B8 bdr

  refine wp_region_noPanic ?_
  refine wp_region_held_drew (S := fun W => (W.cell? ⟨xb, 0, none⟩ = some (.slice ca ds7.length cc) ∧ W.cell? ⟨xb, 1, none⟩ = some (.int .i64 cop7)) ∧ W.cell? ⟨mb, 0, none⟩ = some (.int .i64 m.bye) ∧ W.cell? ⟨mb, 1, none⟩ = some (.int .i64 m.epoch) ∧ W.cell? ⟨mb, 2, none⟩ = some (.slice q.sa m.sealed.length q.sc) ∧ W.cell? ⟨mb, 3, none⟩ = some (.slice q.ea m.seen.length q.ec) ∧ W.cell? ⟨mb, 4, none⟩ = some (.bool m.planned) ∧ W.cell? ⟨mb, 5, none⟩ = some (.slice q.wa m.wrote.length q.wc)) (by kernel_rfl) (by first | exact ⟨⟨(Xd.2 0 _ rfl).1, (Xd.2 1 _ rfl).1⟩, (Kd.2 0 _ rfl).1, (Kd.2 1 _ rfl).1, (Kd.2 2 _ rfl).1, (Kd.2 3 _ rfl).1, (Kd.2 4 _ rfl).1, (Kd.2 5 _ rfl).1⟩ | exact py | go_keep) (fun hHeld => ?_)
  generalize w8.drew = wd at *
  refine tY 0 (v := ?_) rfl (by kernel_rfl) (.inl ⟨by rfl, ?_⟩) ‹_› ?_
  rotate_left 1
  ·intro w hSw
   (try dsimp only at hSw)
   first | (go_simp; done) | (go_simp; with_reducible rfl)
  try simp only [Act.put, sA, sB, sC]
  refine tY 1 (v := ?_) rfl (by kernel_rfl) (.inl ⟨by rfl, ?_⟩) ‹_› ?_
  rotate_left 1
  ·intro w hSw
   (try dsimp only at hSw)
   first | (go_simp; done) | (go_simp; with_reducible rfl)
  try simp only [Act.put, sA, sB, sC]
  refine tY 2 (v := ?_) rfl (by kernel_rfl) (.inl ⟨by rfl, ?_⟩) ‹_› ?_
  rotate_left 1
  ·intro w hSw
   (try dsimp only at hSw)
   first | (go_simp; done) | (go_simp; with_reducible rfl)
  try simp only [Act.put, sA, sB, sC]
  refine wpAnyH_ready (rs := [3]) (by kernel_rfl) (by simp) ?_
  refine rC rfl (fun K hK => ?_) AllReadyH.nil
  obtain ⟨⟨z0, f0⟩, ⟨z1, f1⟩⟩ : (_ ∧ _) ∧ (_ ∧ _) := ⟨Zd.2 0 _ rfl, Zd.2 1 _ rfl⟩
  go_simp
  have es9 : ((wd.setCell ⟨w.heap.size, 0, none⟩ (.slice ca ds7.length cc)).setCell ⟨w.heap.size, 1, none⟩ (.int .i64 cop7)).heap.size = wd.heap.size := by simp
  replace Cd := Cd.setX (b := w.heap.size) (o := 0) (by omega) ((Zd).2 0 _ rfl).1 (by intro v; simp) (.slice ca ds7.length cc)
  replace Cd := Cd.setX (b := w.heap.size) (o := 1) (by omega) (((Zd.put 0 (.slice ca ds7.length cc))).2 1 _ rfl).1 (by intro v; simp) (.int .i64 cop7)
  replace Zd := ((Zd.put 0 (.slice ca ds7.length cc)).put 1 (.int .i64 cop7))
  replace Yd := ((Yd.far (b' := w.heap.size) (o := 0) (by omega) (.slice ca ds7.length cc)).far (b' := w.heap.size) (o := 1) (by omega) (.int .i64 cop7))
  replace Xd := ((Xd.far (b' := w.heap.size) (o := 0) (by omega) (.slice ca ds7.length cc)).far (b' := w.heap.size) (o := 1) (by omega) (.int .i64 cop7))
  replace Kd := ((Kd.far (b' := w.heap.size) (o := 0) (by omega) (.slice ca ds7.length cc)).far (b' := w.heap.size) (o := 1) (by omega) (.int .i64 cop7))
  replace Nd := ((Nd.far (b := w.heap.size) (o := 0) (by omega) (.slice ca ds7.length cc)).far (b := w.heap.size) (o := 1) (by omega) (.int .i64 cop7))
  replace Md := ((Md.farM (b := w.heap.size) (o := 0) (by first | omega | (simp; omega)) (.inl (by omega)) (.slice ca ds7.length cc)).farM (b := w.heap.size) (o := 1) (by first | omega | (simp; omega)) (.inl (by omega)) (.int .i64 cop7))
  replace Bd := ((Bd.setCell (p := ⟨w.heap.size, 0, none⟩) (by simp) (.slice ca ds7.length cc)).setCell (p := ⟨w.heap.size, 1, none⟩) (by simp) (.int .i64 cop7))
  clear z0 f0 z1 f1
  generalize ((wd.setCell ⟨w.heap.size, 0, none⟩ (.slice ca ds7.length cc)).setCell ⟨w.heap.size, 1, none⟩ (.int .i64 cop7)) = wd' at *
  replace sd : w8.heap.size ≤ wd'.heap.size := by omega
  replace sdr : mb < wd'.heap.size := by omega
  clear es9
  generalize wd' = wd at *
  refine hK.out _ _ (by first | exact ⟨⟨(Xd.2 0 _ rfl).1, (Xd.2 1 _ rfl).1⟩, (Kd.2 0 _ rfl).1, (Kd.2 1 _ rfl).1, (Kd.2 2 _ rfl).1, (Kd.2 3 _ rfl).1, (Kd.2 4 _ rfl).1, (Kd.2 5 _ rfl).1⟩ | exact py | go_keep) (fun hHeld => ?_)
  clear hK K
  try simp only [Act.put, sA, sB, sC]
  refine wpAnyH_ready (rs := [4]) (by kernel_rfl) (by simp) ?_
  refine rC rfl (fun K hK => ?_) AllReadyH.nil
  obtain ⟨⟨z0, f0⟩, ⟨z1, f1⟩, ⟨z2, f2⟩, ⟨z3, f3⟩, ⟨z4, f4⟩, ⟨z5, f5⟩⟩ : (_ ∧ _) ∧ (_ ∧ _) ∧ (_ ∧ _) ∧ (_ ∧ _) ∧ (_ ∧ _) ∧ (_ ∧ _) := ⟨Yd.2 0 _ rfl, Yd.2 1 _ rfl, Yd.2 2 _ rfl, Yd.2 3 _ rfl, Yd.2 4 _ rfl, Yd.2 5 _ rfl⟩
  go_simp
  have es9 : ((((((wd.setCell ⟨w.heap.size + 1, 0, none⟩ (.int .i64 m.bye)).setCell ⟨w.heap.size + 1, 1, none⟩ (.int .i64 m.epoch)).setCell ⟨w.heap.size + 1, 2, none⟩ (.slice q.sa m.sealed.length q.sc)).setCell ⟨w.heap.size + 1, 3, none⟩ (.slice q.ea m.seen.length q.ec)).setCell ⟨w.heap.size + 1, 4, none⟩ (.bool m.planned)).setCell ⟨w.heap.size + 1, 5, none⟩ (.slice q.wa m.wrote.length q.wc)).heap.size = wd.heap.size := by simp
  replace Cd := Cd.setX (b := w.heap.size + 1) (o := 0) (by omega) ((Yd).2 0 _ rfl).1 (by intro v; simp) (.int .i64 m.bye)
  replace Cd := Cd.setX (b := w.heap.size + 1) (o := 1) (by omega) (((Yd.put 0 (.int .i64 m.bye))).2 1 _ rfl).1 (by intro v; simp) (.int .i64 m.epoch)
  replace Cd := Cd.setX (b := w.heap.size + 1) (o := 2) (by omega) ((((Yd.put 0 (.int .i64 m.bye)).put 1 (.int .i64 m.epoch))).2 2 _ rfl).1 (by intro v; simp) (.slice q.sa m.sealed.length q.sc)
  replace Cd := Cd.setX (b := w.heap.size + 1) (o := 3) (by omega) (((((Yd.put 0 (.int .i64 m.bye)).put 1 (.int .i64 m.epoch)).put 2 (.slice q.sa m.sealed.length q.sc))).2 3 _ rfl).1 (by intro v; simp) (.slice q.ea m.seen.length q.ec)
  replace Cd := Cd.setX (b := w.heap.size + 1) (o := 4) (by omega) ((((((Yd.put 0 (.int .i64 m.bye)).put 1 (.int .i64 m.epoch)).put 2 (.slice q.sa m.sealed.length q.sc)).put 3 (.slice q.ea m.seen.length q.ec))).2 4 _ rfl).1 (by intro v; simp) (.bool m.planned)
  replace Cd := Cd.setX (b := w.heap.size + 1) (o := 5) (by omega) (((((((Yd.put 0 (.int .i64 m.bye)).put 1 (.int .i64 m.epoch)).put 2 (.slice q.sa m.sealed.length q.sc)).put 3 (.slice q.ea m.seen.length q.ec)).put 4 (.bool m.planned))).2 5 _ rfl).1 (by intro v; simp) (.slice q.wa m.wrote.length q.wc)
  replace Yd := ((((((Yd.put 0 (.int .i64 m.bye)).put 1 (.int .i64 m.epoch)).put 2 (.slice q.sa m.sealed.length q.sc)).put 3 (.slice q.ea m.seen.length q.ec)).put 4 (.bool m.planned)).put 5 (.slice q.wa m.wrote.length q.wc))
  replace Zd := ((((((Zd.far (b' := w.heap.size + 1) (o := 0) (by omega) (.int .i64 m.bye)).far (b' := w.heap.size + 1) (o := 1) (by omega) (.int .i64 m.epoch)).far (b' := w.heap.size + 1) (o := 2) (by omega) (.slice q.sa m.sealed.length q.sc)).far (b' := w.heap.size + 1) (o := 3) (by omega) (.slice q.ea m.seen.length q.ec)).far (b' := w.heap.size + 1) (o := 4) (by omega) (.bool m.planned)).far (b' := w.heap.size + 1) (o := 5) (by omega) (.slice q.wa m.wrote.length q.wc))
  replace Xd := ((((((Xd.far (b' := w.heap.size + 1) (o := 0) (by omega) (.int .i64 m.bye)).far (b' := w.heap.size + 1) (o := 1) (by omega) (.int .i64 m.epoch)).far (b' := w.heap.size + 1) (o := 2) (by omega) (.slice q.sa m.sealed.length q.sc)).far (b' := w.heap.size + 1) (o := 3) (by omega) (.slice q.ea m.seen.length q.ec)).far (b' := w.heap.size + 1) (o := 4) (by omega) (.bool m.planned)).far (b' := w.heap.size + 1) (o := 5) (by omega) (.slice q.wa m.wrote.length q.wc))
  replace Kd := ((((((Kd.far (b' := w.heap.size + 1) (o := 0) (by omega) (.int .i64 m.bye)).far (b' := w.heap.size + 1) (o := 1) (by omega) (.int .i64 m.epoch)).far (b' := w.heap.size + 1) (o := 2) (by omega) (.slice q.sa m.sealed.length q.sc)).far (b' := w.heap.size + 1) (o := 3) (by omega) (.slice q.ea m.seen.length q.ec)).far (b' := w.heap.size + 1) (o := 4) (by omega) (.bool m.planned)).far (b' := w.heap.size + 1) (o := 5) (by omega) (.slice q.wa m.wrote.length q.wc))
  replace Nd := ((((((Nd.far (b := w.heap.size + 1) (o := 0) (by omega) (.int .i64 m.bye)).far (b := w.heap.size + 1) (o := 1) (by omega) (.int .i64 m.epoch)).far (b := w.heap.size + 1) (o := 2) (by omega) (.slice q.sa m.sealed.length q.sc)).far (b := w.heap.size + 1) (o := 3) (by omega) (.slice q.ea m.seen.length q.ec)).far (b := w.heap.size + 1) (o := 4) (by omega) (.bool m.planned)).far (b := w.heap.size + 1) (o := 5) (by omega) (.slice q.wa m.wrote.length q.wc))
  replace Md := ((((((Md.farM (b := w.heap.size + 1) (o := 0) (by first | omega | (simp; omega)) (.inl (by omega)) (.int .i64 m.bye)).farM (b := w.heap.size + 1) (o := 1) (by first | omega | (simp; omega)) (.inl (by omega)) (.int .i64 m.epoch)).farM (b := w.heap.size + 1) (o := 2) (by first | omega | (simp; omega)) (.inl (by omega)) (.slice q.sa m.sealed.length q.sc)).farM (b := w.heap.size + 1) (o := 3) (by first | omega | (simp; omega)) (.inl (by omega)) (.slice q.ea m.seen.length q.ec)).farM (b := w.heap.size + 1) (o := 4) (by first | omega | (simp; omega)) (.inl (by omega)) (.bool m.planned)).farM (b := w.heap.size + 1) (o := 5) (by first | omega | (simp; omega)) (.inl (by omega)) (.slice q.wa m.wrote.length q.wc))
  replace Bd := ((((((Bd.setCell (p := ⟨w.heap.size + 1, 0, none⟩) (by simp) (.int .i64 m.bye)).setCell (p := ⟨w.heap.size + 1, 1, none⟩) (by simp) (.int .i64 m.epoch)).setCell (p := ⟨w.heap.size + 1, 2, none⟩) (by simp) (.slice q.sa m.sealed.length q.sc)).setCell (p := ⟨w.heap.size + 1, 3, none⟩) (by simp) (.slice q.ea m.seen.length q.ec)).setCell (p := ⟨w.heap.size + 1, 4, none⟩) (by simp) (.bool m.planned)).setCell (p := ⟨w.heap.size + 1, 5, none⟩) (by simp) (.slice q.wa m.wrote.length q.wc))
  clear z0 f0 z1 f1 z2 f2 z3 f3 z4 f4 z5 f5
  generalize ((((((wd.setCell ⟨w.heap.size + 1, 0, none⟩ (.int .i64 m.bye)).setCell ⟨w.heap.size + 1, 1, none⟩ (.int .i64 m.epoch)).setCell ⟨w.heap.size + 1, 2, none⟩ (.slice q.sa m.sealed.length q.sc)).setCell ⟨w.heap.size + 1, 3, none⟩ (.slice q.ea m.seen.length q.ec)).setCell ⟨w.heap.size + 1, 4, none⟩ (.bool m.planned)).setCell ⟨w.heap.size + 1, 5, none⟩ (.slice q.wa m.wrote.length q.wc)) = wd' at *
  replace sd : w8.heap.size ≤ wd'.heap.size := by omega
  replace sdr : mb < wd'.heap.size := by omega
  clear es9
  generalize wd' = wd at *
  refine hK.out _ _ (by first | exact ⟨⟨(Xd.2 0 _ rfl).1, (Xd.2 1 _ rfl).1⟩, (Kd.2 0 _ rfl).1, (Kd.2 1 _ rfl).1, (Kd.2 2 _ rfl).1, (Kd.2 3 _ rfl).1, (Kd.2 4 _ rfl).1, (Kd.2 5 _ rfl).1⟩ | exact py | go_keep) (fun hHeld => ?_)
  clear hK K
  try simp only [Act.put, sA, sB, sC]
  refine tY 5 (v := ?_) rfl (by kernel_rfl) (.inl ⟨by rfl, ?_⟩) ‹_› ?_
  rotate_left 1
  ·intro w hSw
   (try dsimp only at hSw)
   first | (go_simp; done) | (go_simp; with_reducible rfl)
  try simp only [Act.put, sA, sB, sC]
  refine wpAnyH_done (by kernel_rfl) ?_ _
  refine NoPanic.normal ?_
  have q0 := (Zd.2 0 _ rfl).1
  have q1 := (Zd.2 1 _ rfl).1
  have p0 := (Yd.2 0 _ rfl).1
  have p1 := (Yd.2 1 _ rfl).1
  have p2 := (Yd.2 2 _ rfl).1
  have p3 := (Yd.2 3 _ rfl).1
  have p4 := (Yd.2 4 _ rfl).1
  have p5 := (Yd.2 5 _ rfl).1
  have hQ : Hid (DrawO w (.returned (.tuple #[.agg #[.slice ca ds7.length cc, .int .i64 cop7], .agg #[.int .i64 m.bye, .int .i64 m.epoch, .slice q.sa m.sealed.length q.sc, .slice q.ea m.seen.length q.ec, .bool m.planned, .slice q.wa m.wrote.length q.wc], .pointer (some ⟨bk, 0, none⟩)])) wd) := ⟨bk, w1.heap.size, ca, cc, ds7, cop7, m, q, rfl, ⟨by omega, by omega, by omega, Cd, Nd.mono (by omega), hdl7, dU okd, Md.wideM (by omega) (by omega), dU HF, Bd⟩⟩
  clear Cd Nd Md Bd Xd Kd Zd Yd py
  go_wp2_with fail
  refine bodyPost_ret (v := .tuple #[.agg #[.slice ca ds7.length cc, .int .i64 cop7], .agg #[.int .i64 m.bye, .int .i64 m.epoch, .slice q.sa m.sealed.length q.sc, .slice q.ea m.seen.length q.ec, .bool m.planned, .slice q.wa m.wrote.length q.wc], .pointer (some ⟨bk, 0, none⟩)]) (by simp [results, Tryz.results22, go_sem, q0, q1, p0, p1, p2, p3, p4, p5]) rfl (dU hQ)
end Go.Proofs.YtjkjmapibcfcdaaGreat
