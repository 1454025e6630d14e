/- The walk of the law FnTells (printed by tools/mkl10r.py). -/
import Derived.Test.YtjkjmapibcfcdaaGreatRnB
import Derived.Test.YtjkjmapibcfcdaaGreatRnT
import Derived.Test.YtjkjmapibcfcdaaGreatNxC
import Derived.Test.YtjkjmapibcfcdaaGreatGn2
import Derived.Test.YtjkjmapibcfcdaaGreatImGa
import Derived.Test.YtjkjmapibcfcdaaGreatImplD
import Derived.Test.YtjkjmapibcfcdaaGreatGbI
import Derived.Test.YtjkjmapibcfcdaaGreatWitA
import Derived.Test.YtjkjmapibcfcdaaGreatGz18
import Derived.Test.YtjkjmapibcfcdaaGreatGaA
import Derived.BigQuiet
import Derived.Deep.RegionHeld3
import Derived.Deep.DeepCutAuto
namespace Go.Proofs.YtjkjmapibcfcdaaGreat
open Go.ChangeShapes Go.WideShapes Go.ChangeAt Go.RowKit
set_option linter.unusedVariables false
set_option linter.unusedSimpArgs false
set_option maxRecDepth 100000

def FlagT (b : Bool) (P : Prop) : Prop := b = true ↔ P
theorem toListT_ne {a b : ByteArray} (h : a ≠ b) : (a.toList == b.toList) = false := by
 obtain ⟨⟨x⟩⟩ := a
 obtain ⟨⟨y⟩⟩ := b
 rw [ByteArray.toList_eq, ByteArray.toList_eq]
 exact beq_eq_false_iff_ne.2 fun e => h (by
  have e' : x = y := e
  rw [e'])
theorem ownsB {w w' : World} {base n : Nat} {v : Value} {xs : List Value} (h : w.ownsRow base 3 1 v n xs) (hb : Below w.heap.size w w') : w'.ownsRow base 3 1 v n xs := h.kept (row := none) ⟨hb.os, hb.tape, hb.output, hb.size, fun k hk _ => hb.block k hk⟩ (by
 by_cases e : v.ownBlock = none
 ·exact .inl e
 ·exact .inr e)
set_option maxHeartbeats 16000000 in
theorem walkFnTells (a0 : Option Addr) (len0 cap0 : Nat) (z0 : List Int) (w : World) (w0 : IsRow .u8 w a0 len0 cap0 z0) :
  Calls Tryz.prog 5 #[.slice a0 len0 cap0] w fun e w' => e = .returned (.bool true) ∧ Below w.heap.size w w' := by
 have hr := row8_of w0
 have hlen := hr.1
 clear w0
 by_cases hbig : 1048576 < len0
 ·have CB := dH (big_yes a0 len0 cap0 hbig hlen)
  go_enter Tryz.func5, Tryz.ntmps5
  go_wp2_with fail
  refine (dU CB _).mono ?_
  rintro e w1 ⟨rfl, rfl⟩
  go_wp2
  go_ret
  exact ⟨rfl, Below.refl _ _⟩
 have CB := dH (big_no a0 len0 cap0 hbig)
 have CD := dH (drawReaderNext_any a0 len0 cap0 w hr)
 have ba : ∀ (w : World) o, Below w.heap.size w (w.alloc o) := fun w o => (Below.refl _ _).alloc (Nat.le_refl _) o
 clear hbig hr
 go_enter Tryz.func5, Tryz.ntmps5
 go_wp2_with fail
 refine (dU CB _).mono ?_
 rintro e w1 ⟨rfl, rfl⟩
 clear CB
 go_wp2_with fail
 refine (dU CD).mono ?_
 rintro e w2 ⟨ds, cop, g, r, sure, al, ca, cc, ga, gc, ea, ec, la, lc, rfl, N2, RG, RR, RA, ⟨hd1, hd2, hd3, hd4⟩, fg, fr, ⟨ha1, ha2⟩, hsu, B2⟩
 clear CD
 have okc : okConfig (ds, cop) := ⟨hd2, by simp only; omega, by simp only; omega⟩
 have hsc : sizConfig (ds, cop) ≤ 1048576 := by unfold sizConfig; simp only; omega
 have okg := fg.ok
 have hsg := fg.siz (by omega)
 obtain ⟨fr1, fr2, fr3, fr4⟩ := id fr
 have HC := dH fun W (hb : Below w2.heap.size w2 W) => (show RdConfig (.agg #[.slice ca ds.length cc, .int .i64 cop]) (ds, cop) W from ⟨_, rfl, N2.below hb⟩)
 have HG := dH fun W (hb : Below w2.heap.size w2 W) => RdRegister.below RG hb
 have HR := dH fun W (hb : Below w2.heap.size w2 W) => RR.below hb
 have HA := dH fun W (hb : Below w2.heap.size w2 W) => RA.below hb
 have C1 := dH fun W (hb : Below w2.heap.size w2 W) => implNext_any (.agg #[.slice ca ds.length cc, .int .i64 cop]) (.agg #[.slice ga g.eras.length gc, .int .i64 g.trim]) (.agg #[.int .i64 r.epoch, .int .i64 r.off, .slice ea r.out.length ec]) (.slice la al.length lc) (ds, cop) g sure r al W (dU HC W hb) (dU HG W hb) (dU HR W hb) (dU HA W hb) okc okg ⟨by omega, by omega⟩ (fun a h => (ha2 a h).1) hsc hsg (by omega) (by omega)
 have C2 := dH fun W (hb : Below w2.heap.size w2 W) => specNext_any (.agg #[.slice ca ds.length cc, .int .i64 cop]) (.agg #[.slice ga g.eras.length gc, .int .i64 g.trim]) (.agg #[.int .i64 r.epoch, .int .i64 r.off, .slice ea r.out.length ec]) (.slice la al.length lc) (ds, cop) g sure r al W (dU HC W hb) (dU HG W hb) (dU HR W hb) (dU HA W hb) okg (fun a h => (ha2 a h).1.2) hsg (by omega) (by omega)
 simp only at C1 C2
 have TN : Hid (∀ n, nextM ds cop g sure r al = (n, 0) → ∃ ev, n.out = r.out ++ [ev] ∧ ((ev.kind = 4 ∨ ev.kind = 5) ∨ ((ev.kind ≠ 4 ∧ ev.kind ≠ 5) ∧ ∃ set, Told ds cop g r al ev set))) := fun n h => next_tell h
 generalize hPM : nextM ds cop g sure r al = PM at *
 obtain ⟨n, cd⟩ := PM
 have HT : Hid (cd = 0 → ∃ ev, n.out = r.out ++ [ev] ∧ ((ev.kind = 4 ∨ ev.kind = 5) ∨ ((ev.kind ≠ 4 ∧ ev.kind ≠ 5) ∧ ∃ set, Told ds cop g r al ev set))) := fun h => by subst h; exact dU TN n rfl
 clear hPM TN
 (try simp only at C1 C2)
 have hrl : r.out.length ≤ 121 := fr3
 have hre : 0 ≤ r.epoch ∧ r.epoch ≤ 40 := fr1
 have hro : 0 ≤ r.off ∧ r.off ≤ 70 := fr2
 have HFA : Hid (∀ a ∈ al, fitAw a) := fun a h => (ha2 a h).1
 have HDS : Hid (ds.length ≤ 9 ∧ allInt ds ∧ 0 ≤ cop ∧ cop ≤ 5) := ⟨hd1, hd2, hd3, hd4⟩
 have HFG : Hid (fitD 40 g) := fg
 have HN := dH fun W (hb : Below w2.heap.size w2 W) => N2.below hb
 clear N2 RG RR RA fg fr fr1 fr2 fr3 fr4 okc hsc okg hsg hd1 hd2 hd3 hd4 ha2 HC
 have bX := bT (bT (ba w2 (.cells #[.slice ca ds.length cc, .int .i64 cop] 26)) (ba _ (.cells #[.slice ga g.eras.length gc, .int .i64 g.trim] 42))) (ba _ (.cells #[.int .i64 r.epoch, .int .i64 r.off, .slice ea r.out.length ec] 45))
 have PS : Hid (∀ W, Below (((w2.alloc (.cells #[.slice ca ds.length cc, .int .i64 cop] 26)).alloc (.cells #[.slice ga g.eras.length gc, .int .i64 g.trim] 42)).alloc (.cells #[.int .i64 r.epoch, .int .i64 r.off, .slice ea r.out.length ec] 45)).heap.size (((w2.alloc (.cells #[.slice ca ds.length cc, .int .i64 cop] 26)).alloc (.cells #[.slice ga g.eras.length gc, .int .i64 g.trim] 42)).alloc (.cells #[.int .i64 r.epoch, .int .i64 r.off, .slice ea r.out.length ec] 45)) W → ((W.cell? ⟨w2.heap.size, 0, none⟩ = some (.slice ca ds.length cc) ∧ W.cell? ⟨w2.heap.size, 1, none⟩ = some (.int .i64 cop)) ∧ (W.cell? ⟨w2.heap.size + 1, 0, none⟩ = some (.slice ga g.eras.length gc) ∧ W.cell? ⟨w2.heap.size + 1, 1, none⟩ = some (.int .i64 g.trim)) ∧ W.cell? ⟨w2.heap.size + 2, 0, none⟩ = some (.int .i64 r.epoch) ∧ W.cell? ⟨w2.heap.size + 2, 1, none⟩ = some (.int .i64 r.off) ∧ W.cell? ⟨w2.heap.size + 2, 2, none⟩ = some (.slice ea r.out.length ec))) := fun W hW => by
  have x := (((Bx.new w2 [.slice ca ds.length cc, .int .i64 cop] 26).below (ba _ (.cells #[.slice ga g.eras.length gc, .int .i64 g.trim] 42))).below (ba _ (.cells #[.int .i64 r.epoch, .int .i64 r.off, .slice ea r.out.length ec] 45))).below hW
  have y := (Bx.new (w2.alloc (.cells #[.slice ca ds.length cc, .int .i64 cop] 26)) [.slice ga g.eras.length gc, .int .i64 g.trim] 42).below (ba _ (.cells #[.int .i64 r.epoch, .int .i64 r.off, .slice ea r.out.length ec] 45))
  have z := Bx.new ((w2.alloc (.cells #[.slice ca ds.length cc, .int .i64 cop] 26)).alloc (.cells #[.slice ga g.eras.length gc, .int .i64 g.trim] 42)) [.int .i64 r.epoch, .int .i64 r.off, .slice ea r.out.length ec] 45
  rw [show (w2.alloc (.cells #[.slice ca ds.length cc, .int .i64 cop] 26)).heap.size = w2.heap.size + 1 from by simp] at y
  rw [show ((w2.alloc (.cells #[.slice ca ds.length cc, .int .i64 cop] 26)).alloc (.cells #[.slice ga g.eras.length gc, .int .i64 g.trim] 42)).heap.size = w2.heap.size + 2 from by simp] at z
  replace y := y.below hW
  replace z := z.below hW
  exact ⟨⟨x 0 _ rfl, x 1 _ rfl⟩, ⟨y 0 _ rfl, y 1 _ rfl⟩, z 0 _ rfl, z 1 _ rfl, z 2 _ rfl⟩
 go_upto_region 4 with fail
 generalize (((w2.alloc (.cells #[.slice ca ds.length cc, .int .i64 cop] 26)).alloc (.cells #[.slice ga g.eras.length gc, .int .i64 g.trim] 42)).alloc (.cells #[.int .i64 r.epoch, .int .i64 r.off, .slice ea r.out.length ec] 45)) = w7 at *
 obtain ⟨⟨q0, q1⟩, ⟨q2, q3⟩, q4, q5, q6⟩ := dU PS w7 (Below.refl _ _)
 go_wp2_with fail
 refine (dU C1 _ bX).mono ?_
 rintro e w8 ⟨u, rfl, O8, b8⟩
 have R8 := O8.rd
 obtain ⟨na, nc, rfl, hno⟩ := formReader R8
 have X8 := Bx.new w8 [.int .i64 n.epoch, .int .i64 n.off, .slice na n.out.length nc] 45
 have b9 := ba w8 (.cells #[.int .i64 n.epoch, .int .i64 n.off, .slice na n.out.length nc] 45)
 have R9 := R8.below b9
 have b79 := bT b8 b9
 clear C1 O8 R8 q0 q1 q2 q3 q4 q5 q6 b8 b9
 obtain ⟨⟨q0, q1⟩, ⟨q2, q3⟩, q4, q5, q6⟩ := dU PS _ b79
 go_wp2_with fail
 generalize hbn : w8.heap.size = bn at *
 generalize w8.alloc (.cells #[.int .i64 n.epoch, .int .i64 n.off, .slice na n.out.length nc] 45) = w9 at *
 clear hbn
 refine (dU C2 _ (bT bX b79)).mono ?_
 rintro e w10 ⟨u, rfl, O10, b10⟩
 have R10 := O10.rd
 obtain ⟨va, vc, rfl, -⟩ := formReader R10
 have Y10 := Bx.new w10 [.int .i64 n.epoch, .int .i64 n.off, .slice va n.out.length vc] 45
 have b10a := ba w10 (.cells #[.int .i64 n.epoch, .int .i64 n.off, .slice va n.out.length vc] 45)
 have b11 := bT b10 b10a
 have b7b := bT b79 b11
 have hnl : n.out.length ≤ 9223372036854775807 := hno
 have HNR := dH fun W (hb : Below (w10.alloc (.cells #[.int .i64 n.epoch, .int .i64 n.off, .slice va n.out.length vc] 45)).heap.size (w10.alloc (.cells #[.int .i64 n.epoch, .int .i64 n.off, .slice va n.out.length vc] 45)) W) => (show RdEventS (.slice na n.out.length nc) n.out W by
  obtain ⟨sv, e, h⟩ := R9.below (bT b11 hb)
  cases e
  exact h)
 have PB : Hid (∀ W, Below (w10.alloc (.cells #[.int .i64 n.epoch, .int .i64 n.off, .slice va n.out.length vc] 45)).heap.size (w10.alloc (.cells #[.int .i64 n.epoch, .int .i64 n.off, .slice va n.out.length vc] 45)) W → ((W.cell? ⟨w2.heap.size, 0, none⟩ = some (.slice ca ds.length cc) ∧ W.cell? ⟨w2.heap.size, 1, none⟩ = some (.int .i64 cop)) ∧ (W.cell? ⟨w2.heap.size + 1, 0, none⟩ = some (.slice ga g.eras.length gc) ∧ W.cell? ⟨w2.heap.size + 1, 1, none⟩ = some (.int .i64 g.trim)) ∧ W.cell? ⟨w2.heap.size + 2, 0, none⟩ = some (.int .i64 r.epoch) ∧ W.cell? ⟨w2.heap.size + 2, 1, none⟩ = some (.int .i64 r.off) ∧ W.cell? ⟨w2.heap.size + 2, 2, none⟩ = some (.slice ea r.out.length ec)) ∧ (W.cell? ⟨bn, 0, none⟩ = some (.int .i64 n.epoch) ∧ W.cell? ⟨bn, 1, none⟩ = some (.int .i64 n.off) ∧ W.cell? ⟨bn, 2, none⟩ = some (.slice na n.out.length nc))) := fun W hW => by
  have x := (X8.below b11).below hW
  exact ⟨dU PS W (bT b7b hW), x 0 _ rfl, x 1 _ rfl, x 2 _ rfl⟩
 have B2X := dH (bT bX b7b)
 have BB := dH (bT B2 (dU B2X))
 have hcd : (cd != cd) = false := by simp
 clear C2 O10 R10 Y10 q0 q1 q2 q3 q4 q5 q6 b10 b10a b11 b7b b79 PS X8 R9 bX HR hsu
 go_upto_region 6 with fail
 generalize (w10.alloc (.cells #[.int .i64 n.epoch, .int .i64 n.off, .slice va n.out.length vc] 45)) = wb at *
 obtain ⟨⟨⟨q0, q1⟩, ⟨q2, q3⟩, q4, q5, q6⟩, n0, n1, n2⟩ := dU PB _ (Below.refl _ _)
 by_cases hc0 : cd = 0
 case neg =>
  have hcb : (cd != 0) = true := by simpa using hc0
  clear HT HNR PB HFA HDS HFG HN HG HA
  go_wp2
  go_ret
  exact ⟨rfl, dU BB⟩
 subst hc0
 obtain ⟨ev, hout, hev⟩ := dU HT rfl
 have HEV := dH hev
 have HNL := dH (show n.out.length = r.out.length + 1 by rw [hout]; simp)
 have hkl : r.out.length < n.out.length := by have := dU HNL; omega
 have hidx : n.out[r.out.length] = ev := by simp only [hout]; simp
 obtain ⟨lb, lo, rfl, hcl⟩ := Rw.atEv (dU HNR _ (Below.refl _ _)) hkl
 obtain ⟨s0, s1, s2⟩ := hcl r.out.length hkl
 rw [hidx] at s0 s1 s2
 have hkw : wrap64 ((n.out.length : Int) - 1) = (r.out.length : Int) := by have := dU HNL; unfold wrap64; omega
 have hkb : (n.out.length : Int) - 1 = (r.out.length : Int) := by have := dU HNL; omega
 have hki : (r.out.length : Int) < (n.out.length : Int) := by omega
 obtain ⟨ek, el, ed⟩ := ev
 simp only at s0 s1 s2 HEV
 clear hcl hidx hout HNR HT hev hkl
 go_upto_region 11 with fail
 have bE := ba wb (.cells #[.int .i64 ek, .int .i64 el, .string ed] 53)
 have X13 := Bx.new wb [.int .i64 ek, .int .i64 el, .string ed] 53
 have HPB := dH fun W (hb : Below (wb.alloc (.cells #[.int .i64 ek, .int .i64 el, .string ed] 53)).heap.size (wb.alloc (.cells #[.int .i64 ek, .int .i64 el, .string ed] 53)) W) => dU PB W (bT bE hb)
 have HB2 := dH (bT (dU B2X) bE)
 have BB13 := dH (bT (dU BB) bE)
 clear PB B2X BB bE q0 q1 q2 q3 q4 q5 q6 n0 n1 n2 s0 s1 s2 hkw hkb hki
 generalize wb.alloc (.cells #[.int .i64 ek, .int .i64 el, .string ed] 53) = w13 at *
 generalize wb.heap.size = eb at *
 obtain ⟨⟨⟨q0, q1⟩, ⟨q2, q3⟩, q4, q5, q6⟩, n0, n1, n2⟩ := dU HPB _ (Below.refl _ _)
 have s0 := X13 0 _ rfl
 have s1 := X13 1 _ rfl
 have s2 := X13 2 _ rfl
 by_cases k4 : ek = 4
 ·subst k4
  clear HPB HB2 HEV X13 HFA HDS HFG HN HG HA HNL
  go_wp2
  go_ret
  exact ⟨rfl, dU BB13⟩
 have k4b : (ek == 4) = false := by simpa using k4
 by_cases k5 : ek = 5
 ·subst k5
  clear HPB HB2 HEV X13 HFA HDS HFG HN HG HA HNL k4
  go_wp2
  go_ret
  exact ⟨rfl, dU BB13⟩
 have k5b : (ek == 5) = false := by simpa using k5
 obtain ⟨set, T⟩ : ∃ set, Told ds cop g r al ⟨ek, el, ed⟩ set := by
  rcases dU HEV with h | ⟨-, h⟩
  ·rcases h with h | h
   ·exact absurd h k4
   ·exact absurd h k5
  ·exact h
 have HTL := dH T
 have HSET : Hid (allInt set ∧ set.length ≤ 1048576) := by
  have hs := T.tset
  have hf := dU HFG
  refine ⟨fun z hz => ?_, ?_⟩
  ·rw [← hs] at hz
   unfold eraN at hz
   split at hz
   ·rename_i hc
    rw [getD_lt _ (by omega)] at hz
    have := (hf.2.1 _ (List.getElem_mem (show r.epoch.toNat - 1 < g.eras.length by omega))).2.1 z hz
    omega
   ·cases hz
  ·rw [← hs]
   unfold eraN
   split
   ·rename_i hc
    rw [getD_lt _ (by omega)]
    have := (hf.2.1 _ (List.getElem_mem (show r.epoch.toNat - 1 < g.eras.length by omega))).1
    omega
   ·simp
 have CE := dH (implEraNodes_any (.agg #[.slice ga g.eras.length gc, .int .i64 g.trim]) g r.epoch w13 (dU HG w13 (dU HB2)) ((dU HFG).siz (by omega)) ⟨by omega, by omega⟩)
 rw [T.tset] at CE
 clear HEV T k4 k5 HNL HFG HG
 go_wp2_with fail
 refine (dU CE).mono ?_
 rintro e wz ⟨⟨u, rfl, OS⟩, bz⟩
 obtain ⟨-, sa, sc, rfl, -, -⟩ := id OS.bs
 -- what stands at wz
 have HSN := dH fun W (hb : Below wz.heap.size wz W) => OS.bs.below hb
 have HEV := dH fun W (hb : Below wz.heap.size wz W) => (X13.below bz).below hb
 have HPZ := dH fun W (hb : Below wz.heap.size wz W) => dU HPB W (bT bz hb)
 have HBZ := dH (bT (dU HB2) bz)
 have HAL := dH fun W (hb : Below wz.heap.size wz W) => dU HA W (bT (dU HBZ) hb)
 have HND := dH fun W (hb : Below wz.heap.size wz W) => dU HN W (bT (dU HBZ) hb)
 have BBZ := dH (bT (dU BB13) bz)
 clear CE OS X13 HPB HB2 HA HN BB13 bz q0 q1 q2 q3 q4 q5 q6 n0 n1 n2 s0 s1 s2
 go_upto_region 15 with fail
 have bE := ba wz (.cells #[] 3)
 have hoz : (wz.alloc (.cells #[] 3)).ownsRow wz.heap.size 3 1 (.slice (some ⟨wz.heap.size, 0, none⟩) 0 0) 0 (ncells []) := by
  have := World.ownsRow_made (e := 3) (size := 1) (base := wz.heap.size) wz #[] 0 (Nat.le_refl _) (by decide) (by simp)
  simpa [ncells] using this
 have HBE := dH bE
 clear bE
 obtain ⟨⟨⟨q0, q1⟩, ⟨q2, q3⟩, q4, q5, q6⟩, n0, n1, n2⟩ := dU HPZ _ (dU HBE)
 have s0 := dU HEV _ (dU HBE) 0 _ rfl
 have s1 := dU HEV _ (dU HBE) 1 _ rfl
 have s2 := dU HEV _ (dU HBE) 2 _ rfl
 generalize wz.alloc (.cells #[] 3) = w15 at *
 go_quiet (fail)
 have hoz2 := ownsB hoz (below_drewN (Below.refl _ _) nq)
 have HB16 := dH (below_drewN (dU HBE) nq)
 generalize w15.drewN nq = w16 at *
 clear hoz HBE q0 q1 q2 q3 q4 q5 q6 n0 n1 n2 s0 s1 s2
 generalize hsb0 : (ek == 3) = sb0
 have HSB0 := dH hsb0
 clear hsb0
 go_wp2
 go_loopw [14, 15, 17] (fun ov wv xv wr => ∃ k : Nat, xv = .int .i64 (k : Int) ∧ k ≤ al.length ∧ wr.ownsRow wz.heap.size 3 1 ov (setL set (al.take k)).length (ncells (setL set (al.take k))) ∧ wv = .int .i64 (wvM (goodL set el (al.take k))) ∧ Hid (Below wz.heap.size wz wr)) (fun _ _ xv _ => al.length - (intOf xv).toNat)
 case atStart => exact ⟨0, rfl, Nat.zero_le _, hoz2, rfl, HB16⟩
 case round =>
  clear HB16 hoz2
  obtain ⟨k, rfl, hk, hown, rfl, HB⟩ := hrel
  by_cases hlt : (k : Int) < (al.length : Int)
  ·have hkl : k < al.length := by omega
   obtain ⟨ab, ao, rfl, hc⟩ := (dU HAL wr (dU HB)).atAw hkl
   obtain ⟨c0, c1, c2, c3, c4, c5⟩ := hc k hkl
   have HS1 : Hid (al[k].node ∈ set → setL set (al.take (k + 1)) = setL set (al.take k) ++ [al[k].node]) := fun h => setL_yes hkl h
   have HS0 : Hid (al[k].node ∉ set → setL set (al.take (k + 1)) = setL set (al.take k)) := fun h => setL_no hkl h
   have HG1 : Hid (goodA set el al[k] → goodL set el (al.take (k + 1)) = goodL set el (al.take k) ++ [al[k].ent]) := fun h => goodL_yes hkl h
   have HG0 : Hid (¬ goodA set el al[k] → goodL set el (al.take (k + 1)) = goodL set el (al.take k)) := fun h => goodL_no hkl h
   have HL3 : Hid (goodA set el al[k] → ek ≠ 3) := fun h e => (dU HTL).loss e _ (List.getElem_mem hkl) h
   have HSL : Hid ((setL set (al.take k)).length ≤ 10) := by
    have h1 : (setL set (al.take k)).length ≤ ((al.take k).map Aw.node).length := List.length_filter_le _ _
    rw [List.length_map, List.length_take] at h1
    show _ ≤ 10
    omega
   have HAK := dH (dU HFA _ (List.getElem_mem hkl))
   generalize al[k] = a at *
   generalize hSK1 : setL set (al.take (k + 1)) = SK1 at *
   generalize setL set (al.take k) = SK at *
   generalize hGK1 : goodL set el (al.take (k + 1)) = GK1 at *
   generalize goodL set el (al.take k) = GK at *
   have HK1 := dH hSK1
   have HK2 := dH hGK1
   clear hc hSK1 hGK1
   have XA := dH (Bx.new wr [.int .i64 a.node, .bool a.has, .int .i64 a.ent.pl, .int .i64 a.ent.wave, .bool a.ent.hole, .string a.ent.data] 57)
   have HB1 := dH ((dU HB).alloc (dU HB).size (.cells #[.int .i64 a.node, .bool a.has, .int .i64 a.ent.pl, .int .i64 a.ent.wave, .bool a.ent.hole, .string a.ent.data] 57))
   have hown1 := hown.alloc (.cells #[.int .i64 a.node, .bool a.has, .int .i64 a.ent.pl, .int .i64 a.ent.wave, .bool a.ent.hole, .string a.ent.data] 57)
   have HLT := dH hown.lt
   have hsz1 : wz.heap.size ≤ wr.heap.size := (dU HB).size
   clear hown HB
   go_upto_region 20 with fail
   generalize hwa : wr.alloc (.cells #[.int .i64 a.node, .bool a.has, .int .i64 a.ent.pl, .int .i64 a.ent.wave, .bool a.ent.hole, .string a.ent.data] 57) = wa at *
   generalize hab : wr.heap.size = aab at *
   clear c0 c1 c2 c3 c4 c5
   have p0 := dU XA 0 _ rfl
   have CW := dH (within_any (.slice sa set.length sc) set a.node wa (dU HSN wa (dU HB1)))
   by_cases hs : a.node ∈ set
   case neg =>
    have CW1 := dH ((dU CW).mono fun e w' h => (⟨h.1.of_no hs, h.2⟩ : e = .returned (.bool false) ∧ w' = wa))
    have HNG := dH (show ¬ goodA set el a from fun h => hs h.2.1)
    have eS := dU HS0 hs
    have eG := dU HG0 (dU HNG)
    clear CW HS1 HS0 HG1 HG0 HL3 hs
    go_wp2_with fail
    refine (dU CW1).mono ?_
    rintro e w17 ⟨rfl, rfl⟩
    go_wp2
    go_roundw
    case rel => exact ⟨k + 1, by go_num, by omega, by rw [dU HK1, eS]; exact hown1, by rw [dU HK2, eG], HB1⟩
    case measure => simp [intOf]; omega
   case pos =>
   have CW1 := dH ((dU CW).mono fun e w' h => (⟨h.1.of_yes hs, h.2⟩ : e = .returned (.bool true) ∧ w' = wa))
   have eS := dU HS1 hs
   have HIN := dH hs
   clear CW HS1 HS0 hs
   go_wp2_with fail
   refine (dU CW1).mono ?_
   rintro e w17 ⟨rfl, rfl⟩
   clear CW1
   have q0 := dU XA 0 _ rfl
   clear p0
   have hslen := dU HSL
   go_wp2_with (at_builtin; refine appN _ rfl _ _ rfl wz.heap.size _ SK rfl (hown1.alloc _) ⟨w17.heap.size, 0, none⟩ 1 1 [a.node] rfl rfl (one_int _ _ _) ?c3 ?c4 ?_)
   case c3 => simp; omega
   case c4 => have := (dU HB1).size; simp; omega
   intro v' w18 hown18 hgrow
   have hlt18 := hown1.lt
   have HB18 := dH (((dU HB1).alloc (dU HB1).size _).grown hgrow (by have := (dU HB1).size; simp; omega) (fun j hj => (hlt18 j hj).1))
   have XA18 := dH (((dU XA).below (ba w17 _)).grown hgrow (fun e => by have := (dU HLT _ e).2; omega))
   have hown18' := own_lenN hown18
   clear hown18 hgrow hlt18 hown1 HB1 XA q0
   clear hslen HSL
   generalize w18 = wq at *
   obtain ⟨an, ah, ⟨ap, aw, ahl, ad⟩⟩ := a
   simp only at *
   have x0 := dU XA18 0 _ rfl
   have x1 := dU XA18 1 _ rfl
   have x2 := dU XA18 2 _ rfl
   have x3 := dU XA18 3 _ rfl
   have x4 := dU XA18 4 _ rfl
   have x5 := dU XA18 5 _ rfl
   cases ah
   case false =>
    have eG := dU HG0 (fun h => by cases h.1)
    clear HG0 HG1 HL3
    go_wp2
    go_roundw
    case rel => exact ⟨k + 1, by go_num, by omega, by rw [dU HK1, eS]; exact hown18', by rw [dU HK2, eG], HB18⟩
    case measure => simp [intOf]; omega
   case true =>
   have haf : (⟨ap, aw, ahl, ad⟩ : Ent).fits := (dU HAK).2
   have CK := dH (implEntOk_any ⟨ap, aw, ahl, ad⟩ haf wq)
   have HOW := dH hown18'
   clear hown18'
   by_cases he : entP ⟨ap, aw, ahl, ad⟩
   case neg =>
    have CK1 := dH ((dU CK).mono fun e w' h => (⟨h.1.of_no he, h.2⟩ : e = .returned (.bool false) ∧ Below wq.heap.size wq w'))
    unfold Ent.val at CK1
    simp only at CK1
    clear CK haf
    have HNE := dH he
    clear he
    go_wp2_with fail
    refine (dU CK1).mono ?_
    rintro e w19 ⟨rfl, b19⟩
    have hown19 := ownsB (dU HOW) b19
    have HB19 := dH (bT (dU HB18) b19)
    clear CK1 b19 HOW
    have eG := dU HG0 (fun h => dU HNE h.2.2.1)
    clear HG0 HG1 HL3
    go_wp2
    go_roundw
    case rel => exact ⟨k + 1, by go_num, by omega, by rw [dU HK1, eS]; exact hown19, by rw [dU HK2, eG], HB19⟩
    case measure => simp [intOf]; omega
   case pos =>
   have CK1 := dH ((dU CK).mono fun e w' h => (⟨h.1.of_yes he, h.2⟩ : e = .returned (.bool true) ∧ Below wq.heap.size wq w'))
   unfold Ent.val at CK1
   simp only at CK1
   have HE := dH he
   clear CK haf he
   go_wp2_with fail
   refine (dU CK1).mono ?_
   rintro e w19 ⟨rfl, b19⟩
   have hown19 := ownsB (dU HOW) b19
   have HB19 := dH (bT (dU HB18) b19)
   have XA19 := dH ((dU XA18).below b19)
   clear CK1 b19 HOW HB18 XA18 x0 x1 x2 x3 x4 x5
   have x2 := dU XA19 2 _ rfl
   have x3 := dU XA19 3 _ rfl
   have s0 := dU HEV w19 (dU HB19) 0 _ rfl
   have s1 := dU HEV w19 (dU HB19) 1 _ rfl
   by_cases hpl : ap = el
   case neg =>
    have hpb : (ap == el) = false := by simpa using hpl
    have HNE := dH hpl
    clear hpl
    have eG := dU HG0 (fun h => dU HNE h.2.2.2)
    clear HG0 HG1 HL3
    go_wp2
    go_roundw
    case rel => exact ⟨k + 1, by go_num, by omega, by rw [dU HK1, eS]; exact hown19, by rw [dU HK2, eG], HB19⟩
    case measure => simp [intOf]; omega
   case pos =>
   subst hpl
   have HGD : Hid (goodA set ap ⟨an, true, ⟨ap, aw, ahl, ad⟩⟩) := ⟨rfl, dU HIN, dU HE, rfl⟩
   have k3 : (ek == 3) = false := by simpa using dU HL3 (dU HGD)
   have eG := dU HG1 (dU HGD)
   have eW := wvM_snoc GK ⟨ap, aw, ahl, ad⟩
   clear HG0 HG1 HL3
   by_cases hw : wvM GK < aw
   ·rw [if_pos (show wvM GK < (Ent.mk ap aw ahl ad).wave from hw)] at eW
    have HEW := dH eW
    clear eW
    go_wp2
    go_roundw
    case rel =>
     exact ⟨k + 1, by go_num, by omega, by rw [dU HK1, eS]; exact hown19, by rw [dU HK2, eG, dU HEW], HB19⟩
    case measure => simp [intOf]; omega
   ·rw [if_neg (show ¬ wvM GK < (Ent.mk ap aw ahl ad).wave from hw)] at eW
    have HEW := dH eW
    clear eW
    go_wp2
    go_roundw
    case rel =>
     exact ⟨k + 1, by go_num, by omega, by rw [dU HK1, eS]; exact hown19, by rw [dU HK2, eG, dU HEW], HB19⟩
    case measure => simp [intOf]; omega
  ·obtain ⟨w1, rfl⟩ : ∃ x, x = wr := ⟨_, rfl⟩
   have hkk : al.take k = al := List.take_of_length_le (by omega)
   rw [hkk] at hown
   generalize hWV : wvM (goodL set el (List.take k al)) = WV
   rw [hkk] at hWV
   have HWV := dH hWV
   have ON := ownN_of_row hown
   obtain ⟨-, ova, ovc, rfl, -, -⟩ := id ON.bs
   have HNO := dH fun W (hb : Below w1.heap.size w1 W) => ON.bs.below hb
   have hslen : (setL set al).length ≤ 10 := by
    have h1 : (setL set al).length ≤ (al.map Aw.node).length := List.length_filter_le _ _
    rw [List.length_map] at h1
    omega
   have HSLN := dH hslen
   clear hown hkk hWV ON hslen hk
   go_wp2
   clear hlt
   go_loopw [16, 19] (fun sv xv wq => ∃ (j : Nat) (sb : Bool), xv = .int .i64 (j : Int) ∧ sv = .bool sb ∧ j ≤ al.length ∧ Hid (FlagT sb (ek = 3 ∨ ∃ i, ∃ h : i < al.length, i < j ∧ mM set el WV ek ed al[i])) ∧ Hid (Below wz.heap.size wz wq) ∧ Hid (Below w1.heap.size w1 wq)) (fun _ xv _ => al.length - (intOf xv).toNat)
   case atStart => exact ⟨0, sb0, rfl, rfl, Nat.zero_le _, (by have q : (ek == 3) = sb0 := dU HSB0; show sb0 = true ↔ _; rw [← q]; constructor; exact fun h => .inl (by simpa using h); exact fun h => by rcases h with h | ⟨i, _, h, _⟩; exact (by simpa using h); omega), HB, Below.refl _ _⟩
   case round =>
    obtain ⟨j, sb, rfl, rfl, hj, hsb, HB0, HBN⟩ := hrel
    by_cases hltj : (j : Int) < (al.length : Int)
    ·have hjl : j < al.length := by omega
     obtain ⟨ab, ao, rfl, hc⟩ := (dU HAL wr (dU HB0)).atAw hjl
     obtain ⟨c0, c1, c2, c3, c4, c5⟩ := hc j hjl
     have HST : Hid (∀ sb' : Bool, (sb' = true ↔ sb = true ∨ mM set el WV ek ed al[j]) → FlagT sb' (ek = 3 ∨ ∃ i, ∃ h : i < al.length, i < j + 1 ∧ mM set el WV ek ed al[i])) := fun sb' h => by
      have hs' : sb = true ↔ _ := dU hsb
      show sb' = true ↔ _
      rw [h, hs']
      constructor
      ·rintro ((h | ⟨i, hi, h1, h2⟩) | h)
       ·exact .inl h
       ·exact .inr ⟨i, hi, by omega, h2⟩
       ·exact .inr ⟨j, hjl, by omega, h⟩
      ·rintro (h | ⟨i, hi, h1, h2⟩)
       ·exact .inl (.inl h)
       ·rcases Nat.lt_or_ge i j with h3 | h3
        ·exact .inl (.inr ⟨i, hi, h3, h2⟩)
        ·obtain rfl : i = j := by omega
         exact .inr h2
     have HAK := dH (dU HFA _ (List.getElem_mem hjl))
     generalize al[j] = a at *
     obtain ⟨an, ah, ⟨ap, aw, ahl, ad⟩⟩ := a
     simp only at c0 c1 c2 c3 c4 c5
     have XA := dH (Bx.new wr [.int .i64 an, .bool ah, .int .i64 ap, .int .i64 aw, .bool ahl, .string ad] 57)
     have HB1 := dH ((dU HB0).alloc (dU HB0).size (.cells #[.int .i64 an, .bool ah, .int .i64 ap, .int .i64 aw, .bool ahl, .string ad] 57))
     have HBM := dH ((dU HBN).alloc (dU HBN).size (.cells #[.int .i64 an, .bool ah, .int .i64 ap, .int .i64 aw, .bool ahl, .string ad] 57))
     clear hc hsb HB0 HBN HB
     go_upto_region 31 with fail
     generalize wr.alloc (.cells #[.int .i64 an, .bool ah, .int .i64 ap, .int .i64 aw, .bool ahl, .string ad] 57) = wa at *
     generalize wr.heap.size = aab at *
     clear c0 c1 c2 c3 c4 c5
     have p0 := dU XA 0 _ rfl
     have p1 := dU XA 1 _ rfl
     have CW := dH (within_any (.slice sa set.length sc) set an wa (dU HSN wa (dU HB1)))
     have HB2 := HB1
     have HB3 := HBM
     by_cases hs : an ∈ set
     case neg =>
      have CW1 := dH ((dU CW).mono fun e w' h => (⟨h.1.of_no hs, h.2⟩ : e = .returned (.bool false) ∧ w' = wa))
      have HNE := dH hs
      clear CW hs
      go_wp2_with fail
      refine (dU CW1).mono ?_
      rintro e w17 ⟨rfl, rfl⟩
      have G1 := dH (dU HST sb ⟨fun h => .inl h, fun h => h.resolve_right (fun hm => dU HNE hm.1.2.1)⟩)
      clear HST
      go_wp2
      go_roundw
      case rel => exact ⟨j + 1, sb, by go_num, rfl, by omega, dU G1, HB2, HB3⟩
      case measure => simp [intOf]; omega
     case pos =>
     have CW1 := dH ((dU CW).mono fun e w' h => (⟨h.1.of_yes hs, h.2⟩ : e = .returned (.bool true) ∧ w' = wa))
     have HIN := dH hs
     clear CW hs
     go_wp2_with fail
     refine (dU CW1).mono ?_
     rintro e w17 ⟨rfl, rfl⟩
     clear CW1
     cases ah
     case false =>
      have G1 := dH (dU HST sb ⟨fun h => .inl h, fun h => h.resolve_right (fun hm => by cases hm.1.1)⟩)
      clear HST
      go_wp2
      go_roundw
      case rel => exact ⟨j + 1, sb, by go_num, rfl, by omega, dU G1, HB2, HB3⟩
      case measure => simp [intOf]; omega
     case true =>
     have p2 := dU XA 2 _ rfl
     have p3 := dU XA 3 _ rfl
     have p4 := dU XA 4 _ rfl
     have p5 := dU XA 5 _ rfl
     have haf : (⟨ap, aw, ahl, ad⟩ : Ent).fits := (dU HAK).2
     have CK := dH (implEntOk_any ⟨ap, aw, ahl, ad⟩ haf w17)
     clear HB2 HB3
     by_cases he : entP ⟨ap, aw, ahl, ad⟩
     case neg =>
      have CK1 := dH ((dU CK).mono fun e w' h => (⟨h.1.of_no he, h.2⟩ : e = .returned (.bool false) ∧ Below w17.heap.size w17 w'))
      unfold Ent.val at CK1
      simp only at CK1
      have HNE := dH he
      clear CK haf he
      go_wp2_with fail
      refine (dU CK1).mono ?_
      rintro e w19 ⟨rfl, b19⟩
      have HB2 := dH (bT (dU HB1) b19)
      have HB3 := dH (bT (dU HBM) b19)
      clear CK1 b19
      have G1 := dH (dU HST sb ⟨fun h => .inl h, fun h => h.resolve_right (fun hm => dU HNE hm.1.2.2.1)⟩)
      clear HST
      go_wp2
      go_roundw
      case rel => exact ⟨j + 1, sb, by go_num, rfl, by omega, dU G1, HB2, HB3⟩
      case measure => simp [intOf]; omega
     case pos =>
     have CK1 := dH ((dU CK).mono fun e w' h => (⟨h.1.of_yes he, h.2⟩ : e = .returned (.bool true) ∧ Below w17.heap.size w17 w'))
     unfold Ent.val at CK1
     simp only at CK1
     have HE := dH he
     clear CK haf he
     go_wp2_with fail
     refine (dU CK1).mono ?_
     rintro e w19 ⟨rfl, b19⟩
     have HB2 := dH (bT (dU HB1) b19)
     have HB3 := dH (bT (dU HBM) b19)
     have XA19 := dH ((dU XA).below b19)
     clear CK1 b19 HB1 HBM XA p0 p1 p2 p3 p4 p5
     have x2 := dU XA19 2 _ rfl
     have x3 := dU XA19 3 _ rfl
     have x4 := dU XA19 4 _ rfl
     have x5 := dU XA19 5 _ rfl
     have s0 := dU HEV w19 (dU HB2) 0 _ rfl
     have s1 := dU HEV w19 (dU HB2) 1 _ rfl
     have s2 := dU HEV w19 (dU HB2) 2 _ rfl
     by_cases hpl : ap = el
     case neg =>
      have hpb : (ap == el) = false := by simpa using hpl
      have HNE := dH hpl
      clear hpl
      have G1 := dH (dU HST sb ⟨fun h => .inl h, fun h => h.resolve_right (fun hm => dU HNE hm.1.2.2.2)⟩)
      clear HST
      go_wp2
      go_roundw
      case rel => exact ⟨j + 1, sb, by go_num, rfl, by omega, dU G1, HB2, HB3⟩
      case measure => simp [intOf]; omega
     case pos =>
     have hpb : (ap == el) = true := by simpa using hpl
     have HPL := dH hpl
     clear hpl
     by_cases hw : aw = WV
     case neg =>
      have hwb : (aw == WV) = false := by simpa using hw
      have HNE := dH hw
      clear hw
      have G1 := dH (dU HST sb ⟨fun h => .inl h, fun h => h.resolve_right (fun hm => dU HNE hm.2.1)⟩)
      clear HST
      go_wp2
      go_roundw
      case rel => exact ⟨j + 1, sb, by go_num, rfl, by omega, dU G1, HB2, HB3⟩
      case measure => simp [intOf]; omega
     case pos =>
     have hwb : (aw == WV) = true := by simpa using hw
     have HWW := dH hw
     clear hw
     by_cases hh : ahl = (ek == 2)
     case neg =>
      have hhb : (ahl == (ek == 2)) = false := by simpa using hh
      have HNE := dH hh
      clear hh
      have G1 := dH (dU HST sb ⟨fun h => .inl h, fun h => h.resolve_right (fun hm => dU HNE hm.2.2.1)⟩)
      clear HST
      go_wp2
      go_roundw
      case rel => exact ⟨j + 1, sb, by go_num, rfl, by omega, dU G1, HB2, HB3⟩
      case measure => simp [intOf]; omega
     case pos =>
     have hhb : (ahl == (ek == 2)) = true := by simpa using hh
     have HHH := dH hh
     clear hh
     by_cases hd : ad = ed
     case neg =>
      have hdb := toListT_ne hd
      have HNE := dH hd
      clear hd
      have G1 := dH (dU HST sb ⟨fun h => .inl h, fun h => h.resolve_right (fun hm => dU HNE hm.2.2.2)⟩)
      clear HST
      go_wp2
      go_roundw
      case rel => exact ⟨j + 1, sb, by go_num, rfl, by omega, dU G1, HB2, HB3⟩
      case measure => simp [intOf]; omega
     case pos =>
     have G1 := dH (dU HST true ⟨fun _ => .inr ⟨⟨rfl, dU HIN, dU HE, dU HPL⟩, dU HWW, dU HHH, hd⟩, fun _ => rfl⟩)
     have hdb : (ad.toList == ed.toList) = true := by rw [hd]; simp
     clear HST hd
     go_wp2
     go_roundw
     case rel => exact ⟨j + 1, true, by go_num, rfl, by omega, dU G1, HB2, HB3⟩
     case measure => simp [intOf]; omega
    ·have hst : sb = true := by
      have hs' : sb = true ↔ _ := dU hsb
      rw [hs']
      rcases (dU HTL).some with h | ⟨i, hi, hm⟩
      ·exact .inl h
      ·refine .inr ⟨i, hi, by omega, ?_⟩
       have hv : wvM (goodL set el al) = WV := dU HWV
       rw [← hv]
       exact hm
     subst hst
     clear hsb HB
     have T := dU HTL
     have hten : enoughP ds cop set (setL set al) := T.ten
     have htis : isPl el := T.tis
     have htep : el / 4294967296 = r.epoch := T.tep
     have htof : el % 4294967296 = r.off := T.tof
     have HSA : Hid (allInt (setL set al)) := fun z hz => (dU HSET).1 z (by have := (List.mem_filter.1 hz).2; simpa using this)
     have hds := dU HDS
     have CEN := dH fun W (hb : Below wz.heap.size wz W) (hb1 : Below w1.heap.size w1 W) => (implEnough_any (.slice ca ds.length cc) (.slice sa set.length sc) (.slice ova (setL set al).length ovc) ds set (setL set al) cop W (dU HND W hb) (dU HSN W hb) (dU HNO W hb1) hds.2.1 (dU HSET).1 (dU HSA) (by omega) (dU HSET).2 (by have := dU HSLN; omega) (by omega) (by omega)).mono fun e w' h => (⟨h.1.of_yes hten, h.2⟩ : e = .returned (.bool true) ∧ Below W.heap.size W w')
     have CEP := dH fun W => (show Calls Tryz.prog 10 #[.int .i64 el] W fun e w' => e = .returned (.int .i64 r.epoch) ∧ Below W.heap.size W w' by have := implEpoch_yes el htis W; rwa [htep] at this)
     have CEO := dH fun W => (show Calls Tryz.prog 21 #[.int .i64 el] W fun e w' => e = .returned (.int .i64 r.off) ∧ Below W.heap.size W w' by have := implOff_yes el htis W; rwa [htof] at this)
     have HCELL : Hid (∀ W, Below wz.heap.size wz W → W.cell? ⟨eb, 1, none⟩ = some (.int .i64 el) ∧ W.cell? ⟨w2.heap.size + 2, 0, none⟩ = some (.int .i64 r.epoch) ∧ W.cell? ⟨w2.heap.size + 2, 1, none⟩ = some (.int .i64 r.off)) := fun W hb => ⟨dU HEV W hb 1 _ rfl, (dU HPZ W hb).1.2.2.1, (dU HPZ W hb).1.2.2.2.1⟩
     clear T hten htis htep htof HSA hds HTL
     have bdr : Below wr.heap.size wr wr.drew := (Below.refl _ _).drew
     have HBW := dH (bT BBZ (dU HB0))
     have HBQ := dH (bT (dU HB0) bdr)
     have HBP := dH (bT (dU HBN) bdr)
     have HBF := dH (bT (dU HBW) bdr)
     obtain ⟨⟨q0, q1⟩, ⟨q2, q3⟩, q4, q5, q6⟩ := (dU HPZ wr (dU HB0)).1
     obtain ⟨r1, r2, r3⟩ := dU HCELL wr (dU HB0)
     obtain ⟨⟨d0, d1⟩, -, -⟩ := (dU HPZ wr.drew (dU HBQ)).1
     obtain ⟨r1d, r2d, r3d⟩ := dU HCELL wr.drew (dU HBQ)
     clear bdr HB0 HBN HBW HEV HAL HFA HSLN HWV HSB0
     go_wp2
     go_region_with (first
      | (go_at_call 20; refine (dU CEN _ (dU HBQ) (dU HBP)).mono ?_; rintro e wn ⟨rfl, bn1⟩; replace HBF := dH (bT (dU HBF) bn1); replace HBQ := dH (bT (dU HBQ) bn1); obtain ⟨r1d, r2d, r3d⟩ := dU HCELL wn (dU HBQ); clear bn1)
      | (go_at_call 10; refine (dU CEP _).mono ?_; rintro e wm ⟨rfl, bn2⟩; replace HBF := dH (bT (dU HBF) bn2); replace HBQ := dH (bT (dU HBQ) bn2); obtain ⟨r1e, r2e, r3e⟩ := dU HCELL wm (dU HBQ); clear bn2)
      | (go_at_call 21; refine (dU CEO _).mono ?_; rintro e wo ⟨rfl, bn3⟩; replace HBF := dH (bT (dU HBF) bn3); replace HBQ := dH (bT (dU HBQ) bn3); obtain ⟨r1f, r2f, r3f⟩ := dU HCELL wo (dU HBQ); clear bn3))
     all_goals
      have BF := dU HBF
      clear HBF HBQ HCELL CEN CEP CEO HBP
      go_wp2_with fail
      go_ret
      exact ⟨rfl, BF⟩
end Go.Proofs.YtjkjmapibcfcdaaGreat
