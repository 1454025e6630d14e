/- The walk of the law FnReader (printed by tools/mkl10r.py). -/
import Derived.Test.YtajoncomhdimnaaGreatRnB
import Derived.Test.YtajoncomhdimnaaGreatGz22
import Derived.Test.YtajoncomhdimnaaGreatNxC
import Derived.Test.YtajoncomhdimnaaGreatGn2
import Derived.Test.YtajoncomhdimnaaGreatGz18
import Derived.Test.YtajoncomhdimnaaGreatGaA
import Derived.BigQuiet
import Derived.Deep.RegionHeld3
import Derived.Deep.DeepCutAuto
namespace Go.Proofs.YtajoncomhdimnaaGreat
open Go.ChangeShapes Go.WideShapes Go.ChangeAt Go.RowKit
set_option linter.unusedVariables false
set_option linter.unusedSimpArgs false
set_option maxRecDepth 100000

theorem sameEvents_any (u v : Value) (es : List Ev) (w : World) (hu : RdEventS u es w) (hv : RdEventS v es w) :
  Calls Tryz.prog 23 #[u, v] w fun e w' => e = .returned (.bool true) ∧ Below w.heap.size w w' := by
 obtain ⟨ua, uc, rfl, hl⟩ := formEventS hu
 obtain ⟨va, vc, rfl, -⟩ := formEventS hv
 have HU := dH fun W (hb : Below w.heap.size w W) => hu.below hb
 have HV := dH fun W (hb : Below w.heap.size w W) => hv.below hb
 have hne : ((es.length : Int) != (es.length : Int)) = false := by simp
 clear hu hv
 go_enter Tryz.func23, Tryz.ntmps23
 go_wp2
 go_loopw [5] (fun xv wr => ∃ k : Nat, xv = .int .i64 (k : Int) ∧ k ≤ es.length ∧ Below w.heap.size w wr) (fun xv _ => es.length - (intOf xv).toNat)
 case atStart => exact ⟨0, rfl, Nat.zero_le _, Below.refl _ _⟩
 case round =>
  obtain ⟨k, rfl, hk, hb⟩ := hrel
  by_cases hlt : (k : Int) < (es.length : Int)
  ·have hkl : k < es.length := by omega
   obtain ⟨b1, o1, rfl, h1⟩ := Rw.atEv (dU HU wr hb) hkl
   obtain ⟨b2, o2, rfl, h2⟩ := Rw.atEv (dU HV wr hb) hkl
   obtain ⟨s0, s1, s2⟩ := h1 k hkl
   obtain ⟨t0, t1, t2⟩ := h2 k hkl
   clear h1 h2
   generalize es[k] = y at *
   obtain ⟨y0, y1, y2⟩ := y
   simp only at s0 s1 s2 t0 t1 t2
   go_wp2
   go_quiet (fail)
   go_wp2
   go_roundw
   case rel => exact ⟨k + 1, by go_num, by omega, below_drewN hb _⟩
   case measure => simp [intOf]; omega
  ·go_wp2
   go_ret
   exact ⟨rfl, hb⟩
set_option maxHeartbeats 16000000 in
theorem walkFnReader (a0 : Option Addr) (len0 cap0 : Nat) (z0 : List Int) (w : World) (w0 : IsRow .u8 w a0 len0 cap0 z0) :
  Calls Tryz.prog 5 #[.slice a0 len0 cap0] w fun e w' => e = .returned (.bool true) ∧ Below w.heap.size w w' := by
 have hr := row8_of w0
 have hlen := hr.1
 clear w0
 by_cases hbig : 1048576 < len0
 ·have CB := dH (big_yes a0 len0 cap0 hbig hlen)
  go_enter Tryz.func5, Tryz.ntmps5
  go_wp2_with fail
  refine (dU CB _).mono ?_
  rintro e w1 ⟨rfl, rfl⟩
  go_wp2
  go_ret
  exact ⟨rfl, Below.refl _ _⟩
 have CB := dH (big_no a0 len0 cap0 hbig)
 have CD := dH (drawReaderNext_any a0 len0 cap0 w hr)
 have ba : ∀ (w : World) o, Below w.heap.size w (w.alloc o) := fun w o => (Below.refl _ _).alloc (Nat.le_refl _) o
 clear hbig hr
 go_enter Tryz.func5, Tryz.ntmps5
 go_wp2_with fail
 refine (dU CB _).mono ?_
 rintro e w1 ⟨rfl, rfl⟩
 clear CB
 go_wp2_with fail
 refine (dU CD).mono ?_
 rintro e w2 ⟨ds, cop, g, r, sure, al, ca, cc, ga, gc, ea, ec, la, lc, rfl, N2, RG, RR, RA, ⟨hd1, hd2, hd3, hd4⟩, fg, fr, ⟨ha1, ha2⟩, hsu, B2⟩
 clear CD
 have okc : okConfig (ds, cop) := ⟨hd2, by simp only; omega, by simp only; omega⟩
 have hsc : sizConfig (ds, cop) ≤ 1048576 := by unfold sizConfig; simp only; omega
 have okg := fg.ok
 have hsg := fg.siz (by omega)
 obtain ⟨fr1, fr2, fr3, fr4⟩ := id fr
 have HC := dH fun W (hb : Below w2.heap.size w2 W) => (show RdConfig (.agg #[.slice ca ds.length cc, .int .i64 cop]) (ds, cop) W from ⟨_, rfl, N2.below hb⟩)
 have HG := dH fun W (hb : Below w2.heap.size w2 W) => RdRegister.below RG hb
 have HR := dH fun W (hb : Below w2.heap.size w2 W) => RR.below hb
 have HA := dH fun W (hb : Below w2.heap.size w2 W) => RA.below hb
 have C1 := dH fun W (hb : Below w2.heap.size w2 W) => implNext_any (.agg #[.slice ca ds.length cc, .int .i64 cop]) (.agg #[.slice ga g.eras.length gc, .int .i64 g.trim]) (.agg #[.int .i64 r.epoch, .int .i64 r.off, .slice ea r.out.length ec]) (.slice la al.length lc) (ds, cop) g sure r al W (dU HC W hb) (dU HG W hb) (dU HR W hb) (dU HA W hb) okc okg ⟨by omega, by omega⟩ (fun a h => (ha2 a h).1) hsc hsg (by omega) (by omega)
 have C2 := dH fun W (hb : Below w2.heap.size w2 W) => specNext_any (.agg #[.slice ca ds.length cc, .int .i64 cop]) (.agg #[.slice ga g.eras.length gc, .int .i64 g.trim]) (.agg #[.int .i64 r.epoch, .int .i64 r.off, .slice ea r.out.length ec]) (.slice la al.length lc) (ds, cop) g sure r al W (dU HC W hb) (dU HG W hb) (dU HR W hb) (dU HA W hb) okg (fun a h => (ha2 a h).1.2) hsg (by omega) (by omega)
 simp only at C1 C2
 have TN : Hid (∀ n cd, nextM ds cop g sure r al = (n, cd) → NextTo g r n cd) := fun n cd h => next_to h
 generalize hPM : nextM ds cop g sure r al = PM at *
 obtain ⟨n, cd⟩ := PM
 have HT : Hid (NextTo g r n cd) := dU TN n cd rfl
 clear hPM TN
 (try simp only at C1 C2)
 have hrl : r.out.length ≤ 121 := fr3
 have hre : 0 ≤ r.epoch ∧ r.epoch ≤ 40 := fr1
 have hro : 0 ≤ r.off ∧ r.off ≤ 70 := fr2
 clear N2 RG RR RA fg fr fr1 fr2 fr3 fr4 okc hsc okg hsg hd1 hd2 hd3 hd4 ha1 ha2 HC HG HA
 have bX := bT (bT (ba w2 (.cells #[.slice ca ds.length cc, .int .i64 cop] 26)) (ba _ (.cells #[.slice ga g.eras.length gc, .int .i64 g.trim] 48))) (ba _ (.cells #[.int .i64 r.epoch, .int .i64 r.off, .slice ea r.out.length ec] 51))
 have PS : Hid (∀ W, Below (((w2.alloc (.cells #[.slice ca ds.length cc, .int .i64 cop] 26)).alloc (.cells #[.slice ga g.eras.length gc, .int .i64 g.trim] 48)).alloc (.cells #[.int .i64 r.epoch, .int .i64 r.off, .slice ea r.out.length ec] 51)).heap.size (((w2.alloc (.cells #[.slice ca ds.length cc, .int .i64 cop] 26)).alloc (.cells #[.slice ga g.eras.length gc, .int .i64 g.trim] 48)).alloc (.cells #[.int .i64 r.epoch, .int .i64 r.off, .slice ea r.out.length ec] 51)) W → ((W.cell? ⟨w2.heap.size, 0, none⟩ = some (.slice ca ds.length cc) ∧ W.cell? ⟨w2.heap.size, 1, none⟩ = some (.int .i64 cop)) ∧ (W.cell? ⟨w2.heap.size + 1, 0, none⟩ = some (.slice ga g.eras.length gc) ∧ W.cell? ⟨w2.heap.size + 1, 1, none⟩ = some (.int .i64 g.trim)) ∧ W.cell? ⟨w2.heap.size + 2, 0, none⟩ = some (.int .i64 r.epoch) ∧ W.cell? ⟨w2.heap.size + 2, 1, none⟩ = some (.int .i64 r.off) ∧ W.cell? ⟨w2.heap.size + 2, 2, none⟩ = some (.slice ea r.out.length ec))) := fun W hW => by
  have x := (((Bx.new w2 [.slice ca ds.length cc, .int .i64 cop] 26).below (ba _ (.cells #[.slice ga g.eras.length gc, .int .i64 g.trim] 48))).below (ba _ (.cells #[.int .i64 r.epoch, .int .i64 r.off, .slice ea r.out.length ec] 51))).below hW
  have y := (Bx.new (w2.alloc (.cells #[.slice ca ds.length cc, .int .i64 cop] 26)) [.slice ga g.eras.length gc, .int .i64 g.trim] 48).below (ba _ (.cells #[.int .i64 r.epoch, .int .i64 r.off, .slice ea r.out.length ec] 51))
  have z := Bx.new ((w2.alloc (.cells #[.slice ca ds.length cc, .int .i64 cop] 26)).alloc (.cells #[.slice ga g.eras.length gc, .int .i64 g.trim] 48)) [.int .i64 r.epoch, .int .i64 r.off, .slice ea r.out.length ec] 51
  rw [show (w2.alloc (.cells #[.slice ca ds.length cc, .int .i64 cop] 26)).heap.size = w2.heap.size + 1 from by simp] at y
  rw [show ((w2.alloc (.cells #[.slice ca ds.length cc, .int .i64 cop] 26)).alloc (.cells #[.slice ga g.eras.length gc, .int .i64 g.trim] 48)).heap.size = w2.heap.size + 2 from by simp] at z
  replace y := y.below hW
  replace z := z.below hW
  exact ⟨⟨x 0 _ rfl, x 1 _ rfl⟩, ⟨y 0 _ rfl, y 1 _ rfl⟩, z 0 _ rfl, z 1 _ rfl, z 2 _ rfl⟩
 go_upto_region 4 with fail
 generalize (((w2.alloc (.cells #[.slice ca ds.length cc, .int .i64 cop] 26)).alloc (.cells #[.slice ga g.eras.length gc, .int .i64 g.trim] 48)).alloc (.cells #[.int .i64 r.epoch, .int .i64 r.off, .slice ea r.out.length ec] 51)) = w7 at *
 obtain ⟨⟨q0, q1⟩, ⟨q2, q3⟩, q4, q5, q6⟩ := dU PS w7 (Below.refl _ _)
 go_wp2_with fail
 refine (dU C1 _ bX).mono ?_
 rintro e w8 ⟨u, rfl, O8, b8⟩
 have R8 := O8.rd
 obtain ⟨na, nc, rfl, hno⟩ := formReader R8
 have X8 := Bx.new w8 [.int .i64 n.epoch, .int .i64 n.off, .slice na n.out.length nc] 51
 have b9 := ba w8 (.cells #[.int .i64 n.epoch, .int .i64 n.off, .slice na n.out.length nc] 51)
 have R9 := R8.below b9
 have b79 := bT b8 b9
 clear C1 O8 R8 q0 q1 q2 q3 q4 q5 q6 b8 b9
 obtain ⟨⟨q0, q1⟩, ⟨q2, q3⟩, q4, q5, q6⟩ := dU PS _ b79
 go_wp2_with fail
 generalize hbn : w8.heap.size = bn at *
 generalize w8.alloc (.cells #[.int .i64 n.epoch, .int .i64 n.off, .slice na n.out.length nc] 51) = w9 at *
 clear hbn
 refine (dU C2 _ (bT bX b79)).mono ?_
 rintro e w10 ⟨u, rfl, O10, b10⟩
 have R10 := O10.rd
 obtain ⟨va, vc, rfl, -⟩ := formReader R10
 have Y10 := Bx.new w10 [.int .i64 n.epoch, .int .i64 n.off, .slice va n.out.length vc] 51
 have b10a := ba w10 (.cells #[.int .i64 n.epoch, .int .i64 n.off, .slice va n.out.length vc] 51)
 have b11 := bT b10 b10a
 have b7b := bT b79 b11
 have hnl : n.out.length ≤ 9223372036854775807 := hno
 have CS := dH fun W (hb : Below (w10.alloc (.cells #[.int .i64 n.epoch, .int .i64 n.off, .slice va n.out.length vc] 51)).heap.size (w10.alloc (.cells #[.int .i64 n.epoch, .int .i64 n.off, .slice va n.out.length vc] 51)) W) => sameEvents_any (.slice na n.out.length nc) (.slice va n.out.length vc) n.out W (by
  obtain ⟨sv, e, h⟩ := R9.below (bT b11 hb)
  cases e
  exact h) (by
  obtain ⟨sv, e, h⟩ := (R10.below b10a).below hb
  cases e
  exact h)
 have HNR := dH fun W (hb : Below (w10.alloc (.cells #[.int .i64 n.epoch, .int .i64 n.off, .slice va n.out.length vc] 51)).heap.size (w10.alloc (.cells #[.int .i64 n.epoch, .int .i64 n.off, .slice va n.out.length vc] 51)) W) => (show RdEventS (.slice na n.out.length nc) n.out W by
  obtain ⟨sv, e, h⟩ := R9.below (bT b11 hb)
  cases e
  exact h)
 have CO := dH fun W (hb : Below (w10.alloc (.cells #[.int .i64 n.epoch, .int .i64 n.off, .slice va n.out.length vc] 51)).heap.size (w10.alloc (.cells #[.int .i64 n.epoch, .int .i64 n.off, .slice va n.out.length vc] 51)) W) => implReaderOk_any (.agg #[.int .i64 n.epoch, .int .i64 n.off, .slice na n.out.length nc]) n W (R9.below (bT b11 hb))
 have PB : Hid (∀ W, Below (w10.alloc (.cells #[.int .i64 n.epoch, .int .i64 n.off, .slice va n.out.length vc] 51)).heap.size (w10.alloc (.cells #[.int .i64 n.epoch, .int .i64 n.off, .slice va n.out.length vc] 51)) W → ((W.cell? ⟨w2.heap.size, 0, none⟩ = some (.slice ca ds.length cc) ∧ W.cell? ⟨w2.heap.size, 1, none⟩ = some (.int .i64 cop)) ∧ (W.cell? ⟨w2.heap.size + 1, 0, none⟩ = some (.slice ga g.eras.length gc) ∧ W.cell? ⟨w2.heap.size + 1, 1, none⟩ = some (.int .i64 g.trim)) ∧ W.cell? ⟨w2.heap.size + 2, 0, none⟩ = some (.int .i64 r.epoch) ∧ W.cell? ⟨w2.heap.size + 2, 1, none⟩ = some (.int .i64 r.off) ∧ W.cell? ⟨w2.heap.size + 2, 2, none⟩ = some (.slice ea r.out.length ec)) ∧ (W.cell? ⟨bn, 0, none⟩ = some (.int .i64 n.epoch) ∧ W.cell? ⟨bn, 1, none⟩ = some (.int .i64 n.off) ∧ W.cell? ⟨bn, 2, none⟩ = some (.slice na n.out.length nc)) ∧ W.cell? ⟨w10.heap.size, 0, none⟩ = some (.int .i64 n.epoch) ∧ W.cell? ⟨w10.heap.size, 1, none⟩ = some (.int .i64 n.off) ∧ W.cell? ⟨w10.heap.size, 2, none⟩ = some (.slice va n.out.length vc)) := fun W hW => by
  have x := (X8.below b11).below hW
  have y := Y10.below hW
  exact ⟨dU PS W (bT b7b hW), ⟨x 0 _ rfl, x 1 _ rfl, x 2 _ rfl⟩, y 0 _ rfl, y 1 _ rfl, y 2 _ rfl⟩
 have BB := bT B2 (bT bX b7b)
 have hcd : (cd != cd) = false := by simp
 have hnep : (n.epoch != n.epoch) = false := by simp
 have hnof : (n.off != n.off) = false := by simp
 clear C2 O10 R10 Y10 q0 q1 q2 q3 q4 q5 q6 b10 b10a b11 b7b b79 PS X8 R9 bX HR hsu
 obtain ⟨⟨⟨q0, q1⟩, ⟨q2, q3⟩, q4, q5, q6⟩, ⟨n0, n1, n2⟩, v0, v1, v2⟩ := dU PB _ (Below.refl _ _)
 have CS1 := dH (dU CS _ (Below.refl _ _))
 clear CS
 go_wp2_with fail
 generalize (w10.alloc (.cells #[.int .i64 n.epoch, .int .i64 n.off, .slice va n.out.length vc] 51)) = wb at *
 refine (dU CS1).mono ?_
 rintro e w12 ⟨rfl, b12⟩
 have BC := bT BB b12
 clear CS1 BB q0 q1 q2 q3 q4 q5 q6 n0 n1 n2 v0 v1 v2
 obtain ⟨⟨⟨q0, q1⟩, ⟨q2, q3⟩, q4, q5, q6⟩, ⟨n0, n1, n2⟩, v0, v1, v2⟩ := dU PB _ b12
 have HNR1 := dU HNR w12 b12
 have HPB := dH fun W (hb : Below w12.heap.size w12 W) => dU PB W (bT b12 hb)
 have HCO := dH fun W (hb : Below w12.heap.size w12 W) => dU CO W (bT b12 hb)
 clear PB HNR CO b12
 rcases dU HT with ⟨rfl, rfl⟩ | ⟨hcc, rfl⟩ | ⟨rfl, ev, hout, h4, h5, hrr, hrn, hgt⟩
 ·clear HT HNR1 HPB HCO
  simp only [List.length_nil] at *
  go_wp2
  go_ret
  exact ⟨rfl, BC⟩
 ·clear HT HNR1 HPB HCO
  rcases hcc with rfl | rfl
  ·go_wp2
   go_ret
   exact ⟨rfl, BC⟩
  ·go_wp2
   go_ret
   exact ⟨rfl, BC⟩
 ·clear HT
  have HNL := dH (show n.out.length = r.out.length + 1 by rw [hout]; simp)
  have hkl : r.out.length < n.out.length := by have := dU HNL; omega
  have hidx : n.out[r.out.length] = ev := by simp only [hout]; simp
  obtain ⟨lb, lo, rfl, hcl⟩ := Rw.atEv HNR1 hkl
  obtain ⟨s0, s1, s2⟩ := hcl r.out.length hkl
  rw [hidx] at s0 s1 s2
  have hkw : wrap64 ((n.out.length : Int) - 1) = (r.out.length : Int) := by have := dU HNL; unfold wrap64; omega
  have hkb : (n.out.length : Int) - 1 = (r.out.length : Int) := by have := dU HNL; omega
  have hki : (r.out.length : Int) < (n.out.length : Int) := by omega
  have hle : ((n.out.length : Int) == (r.out.length : Int) + 1) = true := by have := dU HNL; simp; omega
  obtain ⟨⟨m1, m2⟩, ⟨m3, m4⟩, m5⟩ := id hrn
  have hw1 : wrap64 (4294967296 * n.epoch) = 4294967296 * n.epoch := by unfold wrap64; omega
  have hw2 : wrap64 (4294967296 * n.epoch + n.off) = 4294967296 * n.epoch + n.off := by unfold wrap64; omega
  have hw3 : wrap64 (4294967296 * r.epoch) = 4294967296 * r.epoch := by unfold wrap64; omega
  have hw4 : wrap64 (4294967296 * r.epoch + r.off) = 4294967296 * r.epoch + r.off := by unfold wrap64; omega
  have hgd : decide (4294967296 * r.epoch + r.off < 4294967296 * n.epoch + n.off) = true := decide_eq_true hgt
  obtain ⟨ek, el, ed⟩ := ev
  simp only at s0 s1 s2 h4 h5
  have bE := ba w12 (.cells #[.int .i64 ek, .int .i64 el, .string ed] 59)
  have HB13 := dH (bT BC bE)
  have CR1 := dH ((dU HCO _ bE).mono fun e w' h => (⟨h.1.of_yes hrn, h.2⟩ : e = .returned (.bool true) ∧ Below _ _ w'))
  have X13 := Bx.new w12 [.int .i64 ek, .int .i64 el, .string ed] 59
  have PB13 := dH (dU HPB _ bE)
  clear hcl hidx hout HNR1 HCO HPB BC bE hrr hrn hkl m5
  go_upto_region 15 with fail
  generalize w12.alloc (.cells #[.int .i64 ek, .int .i64 el, .string ed] 59) = w13 at *
  generalize w12.heap.size = eb at *
  clear q0 q1 q2 q3 q4 q5 q6 n0 n1 n2 v0 v1 v2 s0 s1 s2
  obtain ⟨⟨⟨q0, q1⟩, ⟨q2, q3⟩, q4, q5, q6⟩, ⟨n0, n1, n2⟩, v0, v1, v2⟩ := dU PB13
  have s0 := X13 0 _ rfl
  have s1 := X13 1 _ rfl
  have s2 := X13 2 _ rfl
  by_cases k4 : ek = 4
  ·have hp := h4 k4
   have hpb : (el != r.epoch + 1) = false := by rw [hp]; simp
   clear h4 h5 hp
   subst k4
   go_wp2_with fail
   refine (dU CR1).mono ?_
   rintro e w16 ⟨rfl, b16⟩
   have BF := bT (dU HB13) b16
   clear b16
   go_wp2
   go_ret
   exact ⟨rfl, BF⟩
  have k4b : (ek == 4) = false := by simpa using k4
  by_cases k5 : ek = 5
  ·have hp := h5 k5
   have hpb : (el != g.trim) = false := by rw [hp]; simp
   clear h4 h5 hp k4 k4b
   subst k5
   go_wp2_with fail
   refine (dU CR1).mono ?_
   rintro e w16 ⟨rfl, b16⟩
   have BF := bT (dU HB13) b16
   clear b16
   go_wp2
   go_ret
   exact ⟨rfl, BF⟩
  have k5b : (ek == 5) = false := by simpa using k5
  clear h4 h5 k4 k5
  go_wp2_with fail
  refine (dU CR1).mono ?_
  rintro e w16 ⟨rfl, b16⟩
  have BF := bT (dU HB13) b16
  clear b16
  go_wp2
  go_ret
  exact ⟨rfl, BF⟩
end Go.Proofs.YtajoncomhdimnaaGreat
