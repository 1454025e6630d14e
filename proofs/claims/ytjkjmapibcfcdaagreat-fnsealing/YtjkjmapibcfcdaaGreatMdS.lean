/- Mends drawn: DrawMendSeal (printed by tools/mkmds.py). -/
import Derived.Test.YtjkjmapibcfcdaaGreatGz3
import Derived.BigQuiet
namespace Go.Proofs.YtjkjmapibcfcdaaGreat
open Go.ChangeShapes Go.WideShapes Go.ChangeAt Go.RowKit
set_option linter.unusedVariables false
set_option linter.unusedSimpArgs false
set_option maxRecDepth 100000

theorem l1Place_I (a b : Int) (w : World) : Calls Tryz.prog 27 #[.int .i64 a, .int .i64 b] w fun e w' => (∃ x : Int, (-9223372036854775808 ≤ x ∧ x ≤ 9223372036854775807) ∧ e = .returned (.int .i64 x)) ∧ w = w' := by
 go_enter Tryz.func27, Tryz.ntmps27
 go_wp2
 go_ret
 refine ⟨⟨_, ?_, rfl⟩, rfl⟩
 unfold wrap64
 omega
def DrawSe (w : World) (e : Ending) (w' : World) : Prop := ∃ (m : Mn) (q : Pm) (ca : Option Addr) (cc : Nat) (ds : List Int) (cop : Int) (node : Int) (u : Value) (es : List Ent), e = .returned (.tuple #[.agg #[.slice ca ds.length cc, .int .i64 cop], .agg #[.int .i64 m.bye, .int .i64 m.epoch, .slice q.sa m.sealed.length q.sc, .slice q.ea m.seen.length q.ec, .bool m.planned, .slice q.wa m.wrote.length q.wc], .int .i64 node, u]) ∧ Ns w' (.slice ca ds.length cc) ds ∧ RdMend (.agg #[.int .i64 m.bye, .int .i64 m.epoch, .slice q.sa m.sealed.length q.sc, .slice q.ea m.seen.length q.ec, .bool m.planned, .slice q.wa m.wrote.length q.wc]) m w' ∧ Rw 4 Ent.cl w' u es ∧ fitN m ∧ (ds.length ≤ 9 ∧ allInt ds ∧ 0 ≤ cop ∧ cop ≤ 5) ∧ (-1 ≤ node ∧ node ≤ 40) ∧ (es.length ≤ 4 ∧ ∀ e ∈ es, e.fits ∧ e.data.size ≤ 41) ∧ Below w.heap.size w w'
structure FlS (w : World) (bk lo xb : Nat) (ca : Option Addr) (cc : Nat) (ds : List Int) (cop : Int) (m : Mn) (q : Pm) (W : World) (ov : Value) (es : List Ent) : Prop where
 t : BxZ W 0 xb [.slice ca ds.length cc, .int .i64 cop]
 u : BxZ W 0 (xb + 1) [.int .i64 m.bye, .int .i64 m.epoch, .slice q.sa m.sealed.length q.sc, .slice q.ea m.seen.length q.ec, .bool m.planned, .slice q.wa m.wrote.length q.wc]
 o : OwMend lo xb (.agg #[.int .i64 m.bye, .int .i64 m.epoch, .slice q.sa m.sealed.length q.sc, .slice q.ea m.seen.length q.ec, .bool m.planned, .slice q.wa m.wrote.length q.wc]) m W
 c : OwnN W lo (.slice ca ds.length cc) ds
 b : Below w.heap.size w W
 s : xb + 2 ≤ W.heap.size
 f : fitN m
 l : ApE W (xb + 2) ov es
 e : ∀ e ∈ es, e.fits ∧ e.data.size ≤ 41
structure SlS (w : World) (bk lo xb : Nat) (ca : Option Addr) (cc : Nat) (ds : List Int) (cop : Int) (m : Mn) (q : Pm) (W : World) (o : Value) (es : List Ent) : Prop where
 g : FlS w bk lo xb ca cc ds cop m q W o es
 z : BxZ W w.heap.size w.heap.size [.slice none 0 0, .int .i64 0]
 y : BxZ W w.heap.size (w.heap.size + 1) [.int .i64 0, .int .i64 0, .slice none 0 0, .slice none 0 0, .bool false, .slice none 0 0]
 k : Cur W bk
section
variable {w W W' : World} {bk lo xb : Nat} {ca : Option Addr} {cc : Nat} {ds : List Int} {cop : Int} {m : Mn} {q : Pm} {o : Value} {es : List Ent}
theorem FlS.move (h : FlS w bk lo xb ca cc ds cop m q W o es) (k1 : w.heap.size + 2 ≤ bk) (k2 : bk < lo) (k3 : lo ≤ xb) (hd : Drawn bk W W') : FlS w bk lo xb ca cc ds cop m q W' o es := by
 have := h.s
 have := hd.size
 exact ⟨h.t.drawn hd (by omega), h.u.drawn hd (by omega), h.o.drawnM (by omega) hd (by omega), h.c.drawn hd k2, hd.below h.b h.b.size (by omega), by omega, h.f, ApR.kept elemE h.l hd.row (.inr (touch_base elemE h.l (by omega))), h.e⟩
theorem SlS.move (h : SlS w bk lo xb ca cc ds cop m q W o es) (k1 : w.heap.size + 2 ≤ bk) (k2 : bk < lo) (k3 : lo ≤ xb) (hc : Cur W' bk) (hd : Drawn bk W W') : SlS w bk lo xb ca cc ds cop m q W' o es :=
 ⟨h.g.move k1 k2 k3 hd, h.z.drawn hd (by omega), h.y.drawn hd (by omega), hc⟩
theorem SlS.below (h : SlS w bk lo xb ca cc ds cop m q W o es) (k1 : w.heap.size + 2 ≤ bk) (k2 : bk < lo) (k3 : lo ≤ xb) (hb : Below W.heap.size W W') : SlS w bk lo xb ca cc ds cop m q W' o es := h.move k1 k2 k3 (h.k.below hb) (Drawn.of_below hb)
theorem FlS.put (h : FlS w bk lo xb ca cc ds cop m q W o es) (k1 : w.heap.size + 2 ≤ bk) (k2 : bk < lo) (k3 : lo ≤ xb) {b : Nat} (hb : w.heap.size ≤ b ∧ b < w.heap.size + 2) (i : Nat) (v : Value) : FlS w bk lo xb ca cc ds cop m q (W.setCell ⟨b, i, none⟩ v) o es := by
 have := h.s
 exact ⟨h.t.far (by omega) _, h.u.far (by omega) _, h.o.farM (by omega) (.inl (by omega)) _, h.c.far (by omega) _, h.b.setCell (p := ⟨b, i, none⟩) hb.1 _, by simpa using h.s, h.f, ApR.far elemE h.l (by omega) _, h.e⟩
theorem PlS.sl (h : PlS w bk lo xb ca cc ds cop m q W) (k1 : w.heap.size + 2 ≤ bk) (k2 : bk < lo) (k3 : lo ≤ xb) (hb : Below W.heap.size W W') (a : Option Addr) : SlS w bk lo xb ca cc ds cop m q W' (.slice a 0 0) [] := by
 have := h.s
 have hd := Drawn.of_below (bk := bk) hb
 exact ⟨⟨h.t.drawn hd (by omega), h.u.drawn hd (by omega), h.o.drawnM (by omega) hd (by omega), h.c.drawn hd k2, hd.below h.b h.b.size (by omega), Nat.le_trans this hb.size, h.f, .inl ⟨rfl, _, rfl⟩, fun e he => by cases he⟩, h.z.drawn hd (by omega), h.y.drawn hd (by omega), h.k.below hb⟩
theorem SlS.push (h : SlS w bk lo xb ca cc ds cop m q W o es) (hcb : ds = [] ∨ bO (.slice ca ds.length cc) < xb) (k1 : w.heap.size + 2 ≤ bk) (k2 : bk < lo) (k3 : lo ≤ xb) {v : Value} {e : Ent} (he : e.fits ∧ e.data.size ≤ 41) (P : ApE W' (xb + 2) v (es ++ [e])) (g : W.grownBy W' (touch o)) : SlS w bk lo xb ca cc ds cop m q W' v (es ++ [e]) := by
 have hs := h.g.s
 have ht : ∀ k, touch o = some k → xb + 2 ≤ k := fun k hk => (h.g.l.touched elemE hk).1
 have hbl : ∀ k, k < xb + 2 → W'.heap[k]? = W.heap[k]? := fun k hk => g.block k (by omega) (fun e => by have := ht k e.symm; omega)
 refine ⟨⟨h.g.t.grown g (fun e => by have := ht _ e; omega), h.g.u.grown g (fun e => by have := ht _ e; omega), (h.g.o.sits (by omega)).all _ fun k h1 h2 => hbl k (by omega), h.g.c.sameB (hcb.imp id fun h => hbl _ (by omega)), h.g.b.grown g h.g.b.size (fun k hk => by have := ht k hk; omega), Nat.le_trans hs g.size, h.g.f, P, fun x hx => ?_⟩, h.z.grown g (fun e => by have := ht _ e; omega), h.y.grown g (fun e => by have := ht _ e; omega), h.k.grown g (fun k hk => by have := ht k hk; omega)⟩
 rcases List.mem_append.1 hx with hx | hx
 ·exact h.g.e x hx
 ·obtain rfl : x = e := by simpa using hx
  exact he
theorem SlS.set (h : SlS w bk lo xb ca cc ds cop m q W o es) (hcb : ds = [] ∨ bO (.slice ca ds.length cc) < xb) (k1 : w.heap.size + 2 ≤ bk) (k2 : bk < lo) (k3 : lo ≤ xb) {b : Nat} (hb : xb + 2 ≤ b) (ht : touch o ≠ some b) (i : Nat) (v : Value) : SlS w bk lo xb ca cc ds cop m q (W.setCell ⟨b, i, none⟩ v) o es := by
 have hs := h.g.s
 have hbl : ∀ k, k < xb + 2 → (W.setCell ⟨b, i, none⟩ v).heap[k]? = W.heap[k]? := fun k hk => Below.heap_setCell _ _ _ k (by simp only; omega)
 exact ⟨⟨h.g.t.far (by omega) _, h.g.u.far (by omega) _, (h.g.o.sits (by omega)).all _ fun k h1 h2 => hbl k (by omega), h.g.c.sameB (hcb.imp id fun h => hbl _ (by omega)), h.g.b.setCell (p := ⟨b, i, none⟩) (by have := h.g.b.size; simp only; omega) _, by simpa using hs, h.g.f, ApR.put elemE h.g.l ht _, h.g.e⟩, h.z.far (by omega) _, h.y.far (by omega) _, h.k.setNew (by omega) _ _⟩
end
set_option maxHeartbeats 16000000 in
theorem drawMendSeal_any (a : Option Addr) (len cap : Nat) (w : World) (hr : Row8 w a len) :
  Calls Tryz.prog 7 #[.slice a len cap] w (DrawSe w) := by
 have ba : ∀ (w : World) o, Below w.heap.size w (w.alloc o) := fun w o => (Below.refl _ _).alloc (Nat.le_refl _) o
 have b0 := bT (ba w (.cells #[.slice none 0 0, .int .i64 0] 26)) (ba _ (.cells #[.int .i64 0, .int .i64 0, .slice none 0 0, .slice none 0 0, .bool false, .slice none 0 0] 30))
 have Z0 := (BxZ.new (B := w.heap.size) w [.slice none 0 0, .int .i64 0] 26 (Nat.le_refl _)).below (ba _ (.cells #[.int .i64 0, .int .i64 0, .slice none 0 0, .slice none 0 0, .bool false, .slice none 0 0] 30))
 have Y0 := BxZ.new (B := w.heap.size) (w.alloc (.cells #[.slice none 0 0, .int .i64 0] 26)) [.int .i64 0, .int .i64 0, .slice none 0 0, .slice none 0 0, .bool false, .slice none 0 0] 30 (by simp)
 rw [show (w.alloc (.cells #[.slice none 0 0, .int .i64 0] 26)).heap.size = w.heap.size + 1 from by simp] at Y0
 have e0 : Hid (((w.alloc (.cells #[.slice none 0 0, .int .i64 0] 26)).alloc (.cells #[.int .i64 0, .int .i64 0, .slice none 0 0, .slice none 0 0, .bool false, .slice none 0 0] 30)).heap.size = w.heap.size + 2) := by simp [Hid]
 have CO := dH (l9DrawOne_any a len cap _ (hr.below b0))
 clear hr
 go_enter Tryz.func7, Tryz.ntmps7
 go_wp2_with fail
 generalize (w.alloc (.cells #[.slice none 0 0, .int .i64 0] 26)).alloc (.cells #[.int .i64 0, .int .i64 0, .slice none 0 0, .slice none 0 0, .bool false, .slice none 0 0] 30) = w0 at *
 have h0 := dU e0
 refine (dU CO).mono ?_
 rintro e w1 ⟨bk, lo, ca, cc, ds, cop, m, q, rfl, O⟩
 have k1 := O.bkw
 have k2 := O.bkl
 have k3 := O.low
 have bel := O.bel
 have s1 := bel.size
 have hdl := O.len
 have M1 := O.men
 have C1 := O.cfg
 have K1 := O.cur
 have CBL := dH C1.blk_lt
 have F1 := dH O.fitm
 have FD := dH (show ds.length ≤ 9 ∧ allInt ds ∧ 0 ≤ cop ∧ cop ≤ 5 from ⟨hdl, O.fit.1, O.fit.2.1, O.fit.2.2⟩)
 have hwl := O.fitm.2.2.2.1
 have bX := ba w1 (.cells #[.slice ca ds.length cc, .int .i64 cop] 26)
 have bM := ba (w1.alloc (.cells #[.slice ca ds.length cc, .int .i64 cop] 26)) (.cells #[.int .i64 m.bye, .int .i64 m.epoch, .slice q.sa m.sealed.length q.sc, .slice q.ea m.seen.length q.ec, .bool m.planned, .slice q.wa m.wrote.length q.wc] 30)
 have bXM := bT bX bM
 have T2 := (BxZ.new (B := 0) w1 [.slice ca ds.length cc, .int .i64 cop] 26 (Nat.zero_le _)).below bM
 have U2 := BxZ.new (B := 0) (w1.alloc (.cells #[.slice ca ds.length cc, .int .i64 cop] 26)) [.int .i64 m.bye, .int .i64 m.epoch, .slice q.sa m.sealed.length q.sc, .slice q.ea m.seen.length q.ec, .bool m.planned, .slice q.wa m.wrote.length q.wc] 30 (Nat.zero_le _)
 rw [show (w1.alloc (.cells #[.slice ca ds.length cc, .int .i64 cop] 26)).heap.size = w1.heap.size + 1 from by simp] at U2
 have Z2 := (Z0.below bel).below bXM
 have Y2 := (Y0.below bel).below bXM
 have M2 := M1.belowM (Nat.le_refl _) bXM
 have C2 := C1.below bXM
 have K2 := K1.below bXM
 have B2 := bT (bT b0 bel) bXM
 have s2 : ((w1.alloc (.cells #[.slice ca ds.length cc, .int .i64 cop] 26)).alloc (.cells #[.int .i64 m.bye, .int .i64 m.epoch, .slice q.sa m.sealed.length q.sc, .slice q.ea m.seen.length q.ec, .bool m.planned, .slice q.wa m.wrote.length q.wc] 30)).heap.size = w1.heap.size + 2 := by simp
 clear CO Z0 Y0 O M1 C1 K1 bX bM bXM b0 bel e0
 go_wp2_with fail
 generalize ((w1.alloc (.cells #[.slice ca ds.length cc, .int .i64 cop] 26)).alloc (.cells #[.int .i64 m.bye, .int .i64 m.epoch, .slice q.sa m.sealed.length q.sc, .slice q.ea m.seen.length q.ec, .bool m.planned, .slice q.wa m.wrote.length q.wc] 30)) = w2 at *
 generalize hmb : w1.heap.size = xb at *
 refine (l1Once_any bk 2 (by omega) (by omega) w2 K2).mono ?_
 rintro e w3 ⟨⟨q3, rfl⟩, K3, D3⟩
 have hx1 : xb ≠ bk := by omega
 have hx2 : xb + 1 ≠ bk := by omega
 have S3 : PlS w bk lo xb ca cc ds cop m q w3 := ⟨Z2.drawn D3 (by omega), Y2.drawn D3 (by omega), T2.drawn D3 hx1, U2.drawn D3 hx2, M2.drawnM (by omega) D3 (by omega), C2.drawn D3 k2, K3, D3.below B2 B2.size (by omega), by have := D3.size; omega, dU F1⟩
 clear Z2 Y2 T2 U2 M2 C2 K2 B2 K3 D3 F1 hwl
 go_upto_if 19 with fail
 go_cut [19] (fun s19 wx => ∃ (m' : Mn) (q' : Pm), Hid (PlS w bk lo xb ca cc ds cop m' q' wx))
 case first =>
  cases q3
  ·have HS := dH S3
   clear S3
   go_wp2_with fail
   go_meet
   case rel => exact ⟨m, q, HS⟩
  ·obtain ⟨z4, f4⟩ := S3.u.2 4 _ rfl
   obtain ⟨z5, f5⟩ := S3.u.2 5 _ rfl
   have s3 := S3.s
   have S4 : PlS w bk lo xb ca cc ds cop (bareM m) ⟨q.sa, q.sc, q.ea, q.ec, none, 0⟩ ((w3.setCell ⟨xb + 1, 4, none⟩ (.bool false)).setCell ⟨xb + 1, 5, none⟩ (.slice none 0 0)) :=
    ⟨(S3.z.far (b' := xb + 1) (o := 4) (by omega) _).far (b' := xb + 1) (o := 5) (by omega) _, (S3.y.far (b' := xb + 1) (o := 4) (by omega) _).far (b' := xb + 1) (o := 5) (by omega) _, (S3.t.far (b' := xb + 1) (o := 4) (by omega) _).far (b' := xb + 1) (o := 5) (by omega) _, (S3.u.put 4 (.bool false)).put 5 (.slice none 0 0), ((S3.o.bareP.farM (b := xb + 1) (o := 4) (by omega) (.inr (by omega)) _).farM (b := xb + 1) (o := 5) (by simp; omega) (.inr (by omega)) _), (S3.c.put4 ((dU CBL).imp id fun h => by omega) _).put4 ((dU CBL).imp id fun h => by omega) _, (S3.k.setNew (b := xb + 1) (by omega) 4 _).setNew (b := xb + 1) (by omega) 5 _, (S3.b.setCell (p := ⟨xb + 1, 4, none⟩) (by simp only; omega) _).setCell (p := ⟨xb + 1, 5, none⟩) (by simp only; omega) _, by simp; omega, S3.f.bare⟩
   have HS := dH S4
   clear S4 S3
   go_wp2_with fail
   go_meet
   case rel => exact ⟨_, _, HS⟩
 case rest =>
  clear S3
  obtain ⟨m, q, HS⟩ := hcut
  generalize wc = w4 at *
  have S4 := dU HS
  clear HS
  replace k1 : w.heap.size + 2 ≤ bk := by omega
  have hcb := (dU CBL).imp id fun h => h
  have L5 := dH (S4.sl k1 k2 k3 (ba w4 (.cells #[] 36)) (some ⟨w4.heap.size, 0, none⟩))
  clear S4
  go_wp2_with fail
  generalize w4.alloc (.cells #[] 36) = w5 at *
  go_loopw [9, 10] (fun o x wr => ∃ (k : Nat) (es : List Ent), x = .int .i64 (k : Int) ∧ k ≤ 4 ∧ es.length = k ∧ Hid (SlS w bk lo xb ca cc ds cop m q wr o es)) (fun _ x _ => 5 - (intOf x).toNat)
  case atStart => exact ⟨0, [], rfl, by omega, rfl, L5⟩
  case round =>
   clear L5
   obtain ⟨k, es, rfl, hk4, hel, HD⟩ := hrel
   obtain ⟨oa, oc, rfl⟩ := ApR.slice elemE (dU HD).g.l
   have HEL : Hid (es.length = k) := hel
   have hel2 : es.length ≤ 4 := by omega
   clear hel
   have CB := dH (l1Below_any bk 5 (by omega) (by omega) wr (dU HD).k)
   go_wp2_with fail
   refine (dU CB).mono ?_
   rintro e w6 ⟨⟨x, hx, rfl⟩, hc6, hd6⟩
   have HD6 := dH ((dU HD).move k1 k2 k3 hc6 hd6)
   clear CB HD hc6 hd6
   by_cases hlt : (k : Int) < (x : Int)
   ·have CD := dH (l3Draw_any bk w6 (dU HD6).k)
    go_wp2_with fail
    refine (dU CD).mono ?_
    rintro e w7 ⟨⟨y, hyf, rfl⟩, hc7, hd7⟩
    have D7 := (dU HD6).move k1 k2 k3 hc7 hd7
    clear CD HD6 hc7 hd7
    obtain ⟨yp, yw, yh, yt⟩ := y
    have hbe : xb + 2 ≤ w7.heap.size := D7.g.s
    have htb : touch (.slice oa es.length oc) ≠ some w7.heap.size := fun e => by have := (D7.g.l.touched elemE e).2; omega
    have E8 := dH (BxZ.new (B := xb + 2) w7 [.int .i64 yp, .int .i64 yw, .bool yh, .string yt] 36 hbe)
    have D8 := D7.below k1 k2 k3 (ba w7 (.cells #[.int .i64 yp, .int .i64 yw, .bool yh, .string yt] 36))
    have HD8 := dH D8
    have HYF := dH hyf
    have HTB := dH htb
    clear D7 D8 hyf htb
    unfold Ent.val
    go_upto_region 10 with fail
    generalize w7.alloc (.cells #[.int .i64 yp, .int .i64 yw, .bool yh, .string yt] 36) = w8 at *
    generalize w7.heap.size = be at *
    have hbk : be ≠ bk := by omega
    go_cut [37] (fun s37 wx => ∃ b : Bool, s37 = .bool b ∧ Hid (b = true → isPl yp) ∧ Hid (SlS w bk lo xb ca cc ds cop m q wx (.slice oa es.length oc) es) ∧ Hid (BxZ wx (xb + 2) be [.int .i64 yp, .int .i64 yw, .bool yh, .string yt]))
    case first =>
     have CO := dH (l1Once_any bk 2 (by omega) (by omega) w8 (dU HD8).k)
     go_wp2_with fail
     refine (dU CO).mono ?_
     rintro e w9 ⟨⟨b9, rfl⟩, hc9, hd9⟩
     have HD9 := dH ((dU HD8).move k1 k2 k3 hc9 hd9)
     have E9 := (dU E8).drawn hd9 hbk
     clear CO HD8 E8 hc9 hd9
     cases b9
     ·have HE9 := dH E9
      clear E9
      go_wp2_with fail
      go_meet
      case rel => exact ⟨false, rfl, (fun h => by cases h), HD9, HE9⟩
     ·have q0 := (E9.2 0 _ rfl).1
      have HE9 := dH E9
      clear E9
      by_cases hpl : isPl yp
      ·have CK := dH (specOk_yes yp hpl w9)
       have HPL := dH hpl
       clear hpl
       go_wp2_with fail
       refine (dU CK).mono ?_
       rintro e w10 ⟨rfl, rfl⟩
       go_wp2_with fail
       go_meet
       case rel => exact ⟨true, rfl, (fun _ => dU HPL), HD9, HE9⟩
      ·have CK := dH (specOk_no yp (dU HYF).1.2.1 hpl w9)
       clear hpl
       go_wp2_with fail
       refine (dU CK).mono ?_
       rintro e w10 ⟨rfl, rfl⟩
       go_wp2_with fail
       go_meet
       case rel => exact ⟨false, rfl, (fun h => by cases h), HD9, HE9⟩
    case rest =>
     clear HD8 E8
     obtain ⟨b, rfl, HPL, HD9, HE9⟩ := hcut
     generalize wc = w9 at *
     go_upto_if 37 with fail
     go_cut [37] (fun s37 wx => ∃ zp : Int, Hid ((⟨zp, yw, yh, yt⟩ : Ent).fits ∧ yt.size ≤ 41) ∧ Hid (SlS w bk lo xb ca cc ds cop m q wx (.slice oa es.length oc) es) ∧ Hid (BxZ wx (xb + 2) be [.int .i64 zp, .int .i64 yw, .bool yh, .string yt]))
     case first =>
      cases b
      ·go_wp2_with fail
       go_meet
       case rel => exact ⟨yp, HYF, HD9, HE9⟩
      ·have hpl : isPl yp := dU HPL rfl
       have CF := dH fun W => specOff_yes yp hpl W
       have CL1 := dH fun (b : Int) W => l1Place_I m.epoch b W
       obtain ⟨q0, f0⟩ := (dU HE9).2 0 _ rfl
       have u1 := ((dU HD9).g.u.2 1 _ rfl).1
       clear hpl HPL
       go_wp2_with fail
       go_region_with (first | (go_at_call 28; refine (dU CF _).mono ?_; rintro e w11 ⟨rfl, rfl⟩) | (go_at_call 27; refine (dU CL1 _ _).mono ?_; rintro e w12 ⟨⟨zp, hzp, rfl⟩, rfl⟩))
       all_goals
        have bdr : Below w9.heap.size w9 w9.drew := (Below.refl _ _).drew
        have HD15 := dH (((dU HD9).below k1 k2 k3 bdr).set hcb k1 k2 k3 hbe (dU HTB) 0 (.int .i64 zp))
        have HE15 := dH (((dU HE9).below bdr).put 0 (.int .i64 zp))
        have HZF : Hid ((⟨zp, yw, yh, yt⟩ : Ent).fits ∧ yt.size ≤ 41) := ⟨⟨hzp.1, hzp.2, (dU HYF).1.2.2⟩, (dU HYF).2⟩
        clear HD9 HE9 bdr hzp
        go_wp2_with fail
        go_meet
        case rel => exact ⟨zp, HZF, HD15, HE15⟩
     case rest =>
      clear HD9 HE9 HPL HYF
      obtain ⟨zp, HZF, HD9, HE9⟩ := hcut
      generalize wc = w13 at *
      obtain ⟨q0, -⟩ := (dU HE9).2 0 _ rfl
      obtain ⟨q1, -⟩ := (dU HE9).2 1 _ rfl
      obtain ⟨q2, -⟩ := (dU HE9).2 2 _ rfl
      obtain ⟨q3, -⟩ := (dU HE9).2 3 _ rfl
      have D14 := (dU HD9).below k1 k2 k3 (ba w13 (.cells #[.int .i64 zp, .int .i64 yw, .bool yh, .string yt] 36))
      have RO := dH (rw_one w13 ⟨zp, yw, yh, yt⟩ 36 1 (by omega))
      have HR2 := dH D14.g.l
      have hs2 : xb + 2 ≤ (w13.alloc (.cells #[.int .i64 zp, .int .i64 yw, .bool yh, .string yt] 36)).heap.size := D14.g.s
      have HD14 := dH D14
      clear D14
      go_wp2_with (at_builtin; refine wp_apR elemE rfl _ _ rfl (xb + 2) (.slice oa es.length oc) es rfl (dU HR2) _ [⟨zp, yw, yh, yt⟩] rfl (dU RO) ?c1 ?c2 ?c3 ?_)
      case c1 => (try simp); omega
      case c2 => (try simp); omega
      case c3 => simpa using hs2
      intro v4 w4' P4 g4 t4
      have HD5 := dH ((dU HD14).push hcb k1 k2 k3 (e := ⟨zp, yw, yh, yt⟩) (dU HZF) P4 (by simpa using g4))
      have hl4 : Hid ((es ++ [(⟨zp, yw, yh, yt⟩ : Ent)]).length = k + 1) := by rw [Hid, List.length_append, dU HEL]; rfl
      generalize es ++ [(⟨zp, yw, yh, yt⟩ : Ent)] = ES at *
      clear P4 g4 t4 HD14 HR2 RO hs2 HD9 HE9 q0 q1 q2 q3
      go_wp2
      go_roundw
      case rel => exact ⟨k + 1, ES, by go_num, by omega, dU hl4, HD5⟩
      case measure => simp [intOf]; omega
   ·have hwd : IntKind.i64.wrap ((ds.length : Int) + 1) = (ds.length : Int) + 1 := by have hdl' := (dU FD).1; rw [IntKind.wrap_i64]; omega
    have hdl2 := (dU FD).1
    have bdr : Below w6.heap.size w6 w6.drew := (Below.refl _ _).drew
    have pt : w6.cell? ⟨xb, 0, none⟩ = some (.slice ca ds.length cc) ∧ w6.cell? ⟨xb, 1, none⟩ = some (.int .i64 cop) := ⟨((dU HD6).g.t.2 0 _ rfl).1, ((dU HD6).g.t.2 1 _ rfl).1⟩
    have pu : w6.cell? ⟨xb + 1, 0, none⟩ = some (.int .i64 m.bye) ∧ w6.cell? ⟨xb + 1, 1, none⟩ = some (.int .i64 m.epoch) ∧ w6.cell? ⟨xb + 1, 2, none⟩ = some (.slice q.sa m.sealed.length q.sc) ∧ w6.cell? ⟨xb + 1, 3, none⟩ = some (.slice q.ea m.seen.length q.ec) ∧ w6.cell? ⟨xb + 1, 4, none⟩ = some (.bool m.planned) ∧ w6.cell? ⟨xb + 1, 5, none⟩ = some (.slice q.wa m.wrote.length q.wc) := ⟨((dU HD6).g.u.2 0 _ rfl).1, ((dU HD6).g.u.2 1 _ rfl).1, ((dU HD6).g.u.2 2 _ rfl).1, ((dU HD6).g.u.2 3 _ rfl).1, ((dU HD6).g.u.2 4 _ rfl).1, ((dU HD6).g.u.2 5 _ rfl).1⟩
    have Dq := (dU HD6).below k1 k2 k3 bdr
    have Dd := Dq.g
    have Zd := Dq.z
    have Yd := Dq.y
    have Kd := Dq.k
    clear Dq HD6 bdr
    go_wp2_with fail
    refine wp_region_noPanic ?_
    refine wp_region_held_drew (S := fun W => (W.cell? ⟨xb, 0, none⟩ = some (.slice ca ds.length cc) ∧ W.cell? ⟨xb, 1, none⟩ = some (.int .i64 cop)) ∧ W.cell? ⟨xb + 1, 0, none⟩ = some (.int .i64 m.bye) ∧ W.cell? ⟨xb + 1, 1, none⟩ = some (.int .i64 m.epoch) ∧ W.cell? ⟨xb + 1, 2, none⟩ = some (.slice q.sa m.sealed.length q.sc) ∧ W.cell? ⟨xb + 1, 3, none⟩ = some (.slice q.ea m.seen.length q.ec) ∧ W.cell? ⟨xb + 1, 4, none⟩ = some (.bool m.planned) ∧ W.cell? ⟨xb + 1, 5, none⟩ = some (.slice q.wa m.wrote.length q.wc)) (by kernel_rfl) (by first | exact ⟨⟨(Dd.t.2 0 _ rfl).1, (Dd.t.2 1 _ rfl).1⟩, (Dd.u.2 0 _ rfl).1, (Dd.u.2 1 _ rfl).1, (Dd.u.2 2 _ rfl).1, (Dd.u.2 3 _ rfl).1, (Dd.u.2 4 _ rfl).1, (Dd.u.2 5 _ rfl).1⟩ | exact ⟨pt, pu⟩ | go_keep) (fun hHeld => ?_)
    generalize w6.drew = wd at *
    refine tY 0 (v := ?_) rfl (by kernel_rfl) (.inl ⟨by rfl, ?_⟩) ‹_› ?_
    rotate_left 1
    ·intro w hSw
     (try dsimp only at hSw)
     first | (go_simp; done) | (go_simp; with_reducible rfl)
    try simp only [Act.put, sA, sB, sC]
    refine tY 1 (v := ?_) rfl (by kernel_rfl) (.inl ⟨by rfl, ?_⟩) ‹_› ?_
    rotate_left 1
    ·intro w hSw
     (try dsimp only at hSw)
     first | (go_simp; done) | (go_simp; with_reducible rfl)
    try simp only [Act.put, sA, sB, sC]
    refine tY 2 (v := ?_) rfl (by kernel_rfl) (.inl ⟨by rfl, ?_⟩) ‹_› ?_
    rotate_left 1
    ·intro w hSw
     (try dsimp only at hSw)
     first | (go_simp; done) | (go_simp; with_reducible rfl)
    try simp only [Act.put, sA, sB, sC]
    refine tY 3 (v := ?_) rfl (by kernel_rfl) (.inl ⟨by rfl, ?_⟩) ‹_› ?_
    rotate_left 1
    ·intro w hSw
     (try dsimp only at hSw)
     first | (go_simp; done) | (go_simp; with_reducible rfl)
    try simp only [Act.put, sA, sB, sC]
    refine tY 4 (v := ?_) rfl (by kernel_rfl) (.inl ⟨by rfl, ?_⟩) ‹_› ?_
    rotate_left 1
    ·intro w hSw
     (try dsimp only at hSw)
     first | (go_simp; done) | (go_simp; with_reducible rfl)
    try simp only [Act.put, sA, sB, sC]
    refine tY 5 (v := ?_) rfl (by kernel_rfl) (.inl ⟨by rfl, ?_⟩) ‹_› ?_
    rotate_left 1
    ·intro w hSw
     (try dsimp only at hSw)
     first | (go_simp; done) | (go_simp; with_reducible rfl)
    try simp only [Act.put, sA, sB, sC]
    refine tY 6 (v := ?_) rfl (by kernel_rfl) (.inl ⟨by rfl, ?_⟩) ‹_› ?_
    rotate_left 1
    ·intro w hSw
     (try dsimp only at hSw)
     first | (go_simp; done) | (go_simp; with_reducible rfl)
    try simp only [Act.put, sA, sB, sC]
    refine tY 8 (v := ?_) rfl (by kernel_rfl) (.inl ⟨by rfl, ?_⟩) ‹_› ?_
    rotate_left 1
    ·intro w hSw
     (try dsimp only at hSw)
     first | (go_simp; done) | (go_simp; with_reducible rfl)
    try simp only [Act.put, sA, sB, sC]
    refine tY 12 (v := ?_) rfl (by kernel_rfl) (.inl ⟨by rfl, ?_⟩) ‹_› ?_
    rotate_left 1
    ·intro w hSw
     (try dsimp only at hSw)
     first | (go_simp; done) | (go_simp; with_reducible rfl)
    try simp only [Act.put, sA, sB, sC]
    refine wpAnyH_ready (rs := [7]) (by kernel_rfl) (by simp) ?_
    refine rC rfl (fun K hK => ?_) AllReadyH.nil
    go_simp
    have CPx := l1Below_any bk (ds.length + 1) (by omega) (by omega) wd Kd
    rw [show ((ds.length + 1 : Nat) : Int) = (ds.length : Int) + 1 by omega] at CPx
    refine CPx.mono ?_
    rintro e wd' ⟨⟨p2, hp2, rfl⟩, Kd', hdd'⟩
    replace Dd := Dd.move k1 k2 k3 hdd'
    replace Zd := Zd.drawn hdd' (by omega)
    replace Yd := Yd.drawn hdd' (by omega)
    clear hdd' CPx Kd
    generalize wd' = wd at *
    have Kd := Kd'
    clear Kd'
    (try go_wp2_with fail)
    refine hK.out _ _ (by first | exact ⟨⟨(Dd.t.2 0 _ rfl).1, (Dd.t.2 1 _ rfl).1⟩, (Dd.u.2 0 _ rfl).1, (Dd.u.2 1 _ rfl).1, (Dd.u.2 2 _ rfl).1, (Dd.u.2 3 _ rfl).1, (Dd.u.2 4 _ rfl).1, (Dd.u.2 5 _ rfl).1⟩ | exact ⟨pt, pu⟩ | go_keep) (fun hHeld => ?_)
    clear hK K
    try simp only [Act.put, sA, sB, sC]
    refine wpAnyH_ready (rs := [9]) (by kernel_rfl) (by simp) ?_
    refine rC rfl (fun K hK => ?_) AllReadyH.nil
    go_simp
    have CPx := l1Below_any bk 20 (by omega) (by omega) wd Kd
    refine CPx.mono ?_
    rintro e wd' ⟨⟨q2, hq2, rfl⟩, Kd', hdd'⟩
    replace Dd := Dd.move k1 k2 k3 hdd'
    replace Zd := Zd.drawn hdd' (by omega)
    replace Yd := Yd.drawn hdd' (by omega)
    clear hdd' CPx Kd
    have t4 : IntKind.i64.wrap ((q2 : Int) / 19) = (q2 : Int) / 19 := by rw [IntKind.wrap_i64]; omega
    have t3 : IntKind.i64.wrap ((p2 : Int) - (q2 : Int) / 19) = (p2 : Int) - (q2 : Int) / 19 := by rw [IntKind.wrap_i64]; omega
    generalize wd' = wd at *
    have Kd := Kd'
    clear Kd'
    (try go_wp2_with fail)
    refine hK.out _ _ (by first | exact ⟨⟨(Dd.t.2 0 _ rfl).1, (Dd.t.2 1 _ rfl).1⟩, (Dd.u.2 0 _ rfl).1, (Dd.u.2 1 _ rfl).1, (Dd.u.2 2 _ rfl).1, (Dd.u.2 3 _ rfl).1, (Dd.u.2 4 _ rfl).1, (Dd.u.2 5 _ rfl).1⟩ | exact ⟨pt, pu⟩ | go_keep) (fun hHeld => ?_)
    clear hK K
    try simp only [Act.put, sA, sB, sC]
    refine tY 10 (v := ?_) rfl (by kernel_rfl) (.inl ⟨by rfl, ?_⟩) ‹_› ?_
    rotate_left 1
    ·intro w hSw
     (try dsimp only at hSw)
     first | (go_simp; done) | (go_simp; with_reducible rfl)
    try simp only [Act.put, sA, sB, sC]
    refine tY 11 (v := ?_) rfl (by kernel_rfl) (.inl ⟨by rfl, ?_⟩) ‹_› ?_
    rotate_left 1
    ·intro w hSw
     (try dsimp only at hSw)
     first | (go_simp; done) | (go_simp; with_reducible rfl)
    try simp only [Act.put, sA, sB, sC]
    refine wpAnyH_ready (rs := [13]) (by kernel_rfl) (by simp) ?_
    refine rC rfl (fun K hK => ?_) AllReadyH.nil
    obtain ⟨⟨z0, f0⟩, ⟨z1, f1⟩⟩ : (_ ∧ _) ∧ (_ ∧ _) := ⟨Zd.2 0 _ rfl, Zd.2 1 _ rfl⟩
    go_simp
    replace Dd := ((Dd.put (b := w.heap.size) k1 k2 k3 (by omega) 0 (.slice ca ds.length cc)).put (b := w.heap.size) k1 k2 k3 (by omega) 1 (.int .i64 cop))
    replace Zd := ((Zd.put 0 (.slice ca ds.length cc)).put 1 (.int .i64 cop))
    replace Yd := ((Yd.far (b' := w.heap.size) (o := 0) (by omega) (.slice ca ds.length cc)).far (b' := w.heap.size) (o := 1) (by omega) (.int .i64 cop))
    (try clear Kd)
    clear z0 f0 z1 f1
    generalize ((wd.setCell ⟨w.heap.size, 0, none⟩ (.slice ca ds.length cc)).setCell ⟨w.heap.size, 1, none⟩ (.int .i64 cop)) = wd at *
    refine hK.out _ _ (by first | exact ⟨⟨(Dd.t.2 0 _ rfl).1, (Dd.t.2 1 _ rfl).1⟩, (Dd.u.2 0 _ rfl).1, (Dd.u.2 1 _ rfl).1, (Dd.u.2 2 _ rfl).1, (Dd.u.2 3 _ rfl).1, (Dd.u.2 4 _ rfl).1, (Dd.u.2 5 _ rfl).1⟩ | exact ⟨pt, pu⟩ | go_keep) (fun hHeld => ?_)
    clear hK K
    try simp only [Act.put, sA, sB, sC]
    refine wpAnyH_ready (rs := [14]) (by kernel_rfl) (by simp) ?_
    refine rC rfl (fun K hK => ?_) AllReadyH.nil
    obtain ⟨⟨z0, f0⟩, ⟨z1, f1⟩, ⟨z2, f2⟩, ⟨z3, f3⟩, ⟨z4, f4⟩, ⟨z5, f5⟩⟩ : (_ ∧ _) ∧ (_ ∧ _) ∧ (_ ∧ _) ∧ (_ ∧ _) ∧ (_ ∧ _) ∧ (_ ∧ _) := ⟨Yd.2 0 _ rfl, Yd.2 1 _ rfl, Yd.2 2 _ rfl, Yd.2 3 _ rfl, Yd.2 4 _ rfl, Yd.2 5 _ rfl⟩
    go_simp
    replace Dd := ((((((Dd.put (b := w.heap.size + 1) k1 k2 k3 (by omega) 0 (.int .i64 m.bye)).put (b := w.heap.size + 1) k1 k2 k3 (by omega) 1 (.int .i64 m.epoch)).put (b := w.heap.size + 1) k1 k2 k3 (by omega) 2 (.slice q.sa m.sealed.length q.sc)).put (b := w.heap.size + 1) k1 k2 k3 (by omega) 3 (.slice q.ea m.seen.length q.ec)).put (b := w.heap.size + 1) k1 k2 k3 (by omega) 4 (.bool m.planned)).put (b := w.heap.size + 1) k1 k2 k3 (by omega) 5 (.slice q.wa m.wrote.length q.wc))
    replace Yd := ((((((Yd.put 0 (.int .i64 m.bye)).put 1 (.int .i64 m.epoch)).put 2 (.slice q.sa m.sealed.length q.sc)).put 3 (.slice q.ea m.seen.length q.ec)).put 4 (.bool m.planned)).put 5 (.slice q.wa m.wrote.length q.wc))
    replace Zd := ((((((Zd.far (b' := w.heap.size + 1) (o := 0) (by omega) (.int .i64 m.bye)).far (b' := w.heap.size + 1) (o := 1) (by omega) (.int .i64 m.epoch)).far (b' := w.heap.size + 1) (o := 2) (by omega) (.slice q.sa m.sealed.length q.sc)).far (b' := w.heap.size + 1) (o := 3) (by omega) (.slice q.ea m.seen.length q.ec)).far (b' := w.heap.size + 1) (o := 4) (by omega) (.bool m.planned)).far (b' := w.heap.size + 1) (o := 5) (by omega) (.slice q.wa m.wrote.length q.wc))
    (try clear Kd)
    clear z0 f0 z1 f1 z2 f2 z3 f3 z4 f4 z5 f5
    generalize ((((((wd.setCell ⟨w.heap.size + 1, 0, none⟩ (.int .i64 m.bye)).setCell ⟨w.heap.size + 1, 1, none⟩ (.int .i64 m.epoch)).setCell ⟨w.heap.size + 1, 2, none⟩ (.slice q.sa m.sealed.length q.sc)).setCell ⟨w.heap.size + 1, 3, none⟩ (.slice q.ea m.seen.length q.ec)).setCell ⟨w.heap.size + 1, 4, none⟩ (.bool m.planned)).setCell ⟨w.heap.size + 1, 5, none⟩ (.slice q.wa m.wrote.length q.wc)) = wd at *
    refine hK.out _ _ (by first | exact ⟨⟨(Dd.t.2 0 _ rfl).1, (Dd.t.2 1 _ rfl).1⟩, (Dd.u.2 0 _ rfl).1, (Dd.u.2 1 _ rfl).1, (Dd.u.2 2 _ rfl).1, (Dd.u.2 3 _ rfl).1, (Dd.u.2 4 _ rfl).1, (Dd.u.2 5 _ rfl).1⟩ | exact ⟨pt, pu⟩ | go_keep) (fun hHeld => ?_)
    clear hK K
    try simp only [Act.put, sA, sB, sC]
    refine tY 15 (v := ?_) rfl (by kernel_rfl) (.inl ⟨by rfl, ?_⟩) ‹_› ?_
    rotate_left 1
    ·intro w hSw
     (try dsimp only at hSw)
     first | (go_simp; done) | (go_simp; with_reducible rfl)
    try simp only [Act.put, sA, sB, sC]
    refine tY 16 (v := ?_) rfl (by kernel_rfl) (.inl ⟨by rfl, ?_⟩) ‹_› ?_
    rotate_left 1
    ·intro w hSw
     (try dsimp only at hSw)
     first | (go_simp; done) | (go_simp; with_reducible rfl)
    try simp only [Act.put, sA, sB, sC]
    refine wpAnyH_done (by kernel_rfl) ?_ _
    refine NoPanic.normal ?_
    have a0 := (Zd.2 0 _ rfl).1
    have a1 := (Zd.2 1 _ rfl).1
    have b0 := (Yd.2 0 _ rfl).1
    have b1 := (Yd.2 1 _ rfl).1
    have b2 := (Yd.2 2 _ rfl).1
    have b3 := (Yd.2 3 _ rfl).1
    have b4 := (Yd.2 4 _ rfl).1
    have b5 := (Yd.2 5 _ rfl).1
    have hQ : Hid (DrawSe w (.returned (.tuple #[.agg #[.slice ca ds.length cc, .int .i64 cop], .agg #[.int .i64 m.bye, .int .i64 m.epoch, .slice q.sa m.sealed.length q.sc, .slice q.ea m.seen.length q.ec, .bool m.planned, .slice q.wa m.wrote.length q.wc], .int .i64 ((p2 : Int) - (q2 : Int) / 19), .slice oa es.length oc])) wd) := ⟨m, q, ca, cc, ds, cop, _, _, es, rfl, Dd.c.bs, Dd.o.rd, (ApR.own elemE Dd.l).rw, Dd.f, dU FD, ⟨by omega, by omega⟩, ⟨hel2, Dd.e⟩, Dd.b⟩
    clear Dd Zd Yd pt pu
    go_wp2_with fail
    refine bodyPost_ret (v := .tuple #[.agg #[.slice ca ds.length cc, .int .i64 cop], .agg #[.int .i64 m.bye, .int .i64 m.epoch, .slice q.sa m.sealed.length q.sc, .slice q.ea m.seen.length q.ec, .bool m.planned, .slice q.wa m.wrote.length q.wc], .int .i64 ((p2 : Int) - (q2 : Int) / 19), .slice oa es.length oc]) (by simp [results, Tryz.results7, go_sem, a0, a1, b0, b1, b2, b3, b4, b5, t3, t4]) rfl (dU hQ)
end Go.Proofs.YtjkjmapibcfcdaaGreat
