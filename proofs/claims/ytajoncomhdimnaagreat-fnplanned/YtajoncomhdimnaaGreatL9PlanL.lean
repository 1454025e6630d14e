/- The walk of the law FnPlanned (printed by tools/mkl9p.py). -/
import Derived.Test.YtajoncomhdimnaaGreatMdI
import Derived.Test.YtajoncomhdimnaaGreatPlF
import Derived.Test.YtajoncomhdimnaaGreatMnT
import Derived.Test.YtajoncomhdimnaaGreatMnR
import Derived.Test.YtajoncomhdimnaaGreatGz7
import Derived.Test.YtajoncomhdimnaaGreatGw2
import Derived.Test.YtajoncomhdimnaaGreatQ9E
import Derived.Test.YtajoncomhdimnaaGreatGbI
import Derived.Test.YtajoncomhdimnaaGreatGx6
import Derived.Test.YtajoncomhdimnaaGreatGaA
import Derived.BigQuiet
import Derived.Deep.RegionHeld3
import Derived.Deep.DeepCutAuto
namespace Go.Proofs.YtajoncomhdimnaaGreat
open Go.ChangeShapes Go.WideShapes Go.ChangeAt Go.RowKit
set_option linter.unusedVariables false
set_option linter.unusedSimpArgs false
set_option maxRecDepth 100000

theorem seenRow {b0 b1 sv ev b4 wv : Value} {m : Mn} {W : World} (h : RdMend (.agg #[b0, b1, sv, ev, b4, wv]) m W) : Rw 4 Ent.cl W ev m.seen := by
 obtain ⟨sv', ev', wv', e, -, h3, -⟩ := h
 simp only [Value.agg.injEq] at e
 have e' := congrArg Array.toList e
 simp only [List.cons.injEq] at e'
 rw [e'.2.2.2.1]
 exact h3
def FlagP (b : Bool) (P : Prop) : Prop := b = true ↔ P
set_option maxHeartbeats 16000000 in
theorem walkFnPlanned (a0 : Option Addr) (len0 cap0 : Nat) (z0 : List Int) (w : World) (w0 : IsRow .u8 w a0 len0 cap0 z0) :
  Calls Tryz.prog 4 #[.slice a0 len0 cap0] w fun e w' => e = .returned (.bool true) ∧ Below w.heap.size w w' := by
 have hr := row8_of w0
 have hlen := hr.1
 clear w0
 by_cases hbig : 1048576 < len0
 ·have CB := dH (big_yes a0 len0 cap0 hbig hlen)
  go_enter Tryz.func4, Tryz.ntmps4
  go_wp2_with fail
  refine (dU CB _).mono ?_
  rintro e w1 ⟨rfl, rfl⟩
  go_wp2
  go_ret
  exact ⟨rfl, Below.refl _ _⟩
 have CB := dH (big_no a0 len0 cap0 hbig)
 have CD := dH (drawMendPlan_any a0 len0 cap0 w hr)
 have ba : ∀ (w : World) o, Below w.heap.size w (w.alloc o) := fun w o => (Below.refl _ _).alloc (Nat.le_refl _) o
 clear hbig hr
 go_enter Tryz.func4, Tryz.ntmps4
 go_wp2_with fail
 refine (dU CB _).mono ?_
 rintro e w1 ⟨rfl, rfl⟩
 clear CB
 go_wp2_with fail
 refine (dU CD).mono ?_
 rintro e w2 ⟨m, q, ca, cc, ds, cop, u, zs, rfl, N2, R2, NU, fit, ⟨hd1, hd2, hd3, hd4⟩, ⟨hz1, hz2⟩, B2⟩
 clear CD
 obtain ⟨-, ua, uc, rfl, -, -⟩ := id NU
 obtain ⟨msa, msc, mea, mec, mwa, mwc⟩ := q
 simp only at R2
 have okm : okMend m := fit.1
 have hsm := fit.siz
 have okc : okConfig (ds, cop) := ⟨hd2, by simp only; omega, by simp only; omega⟩
 have hsc : sizConfig (ds, cop) ≤ 1048576 := by unfold sizConfig; simp only; omega
 have HC := dH fun W (hb : Below w2.heap.size w2 W) => (show RdConfig (.agg #[.slice ca ds.length cc, .int .i64 cop]) (ds, cop) W from ⟨_, rfl, N2.below hb⟩)
 have HM := dH fun W (hb : Below w2.heap.size w2 W) => R2.below hb
 have hfe : fitE m.seen := okm.2.2.2.1
 have C1 := dH fun W (hb : Below w2.heap.size w2 W) => implPlan9_any (.agg #[.slice ca ds.length cc, .int .i64 cop]) (.agg #[.int .i64 m.bye, .int .i64 m.epoch, .slice msa m.sealed.length msc, .slice mea m.seen.length mec, .bool m.planned, .slice mwa m.wrote.length mwc]) (ds, cop) m (.slice ua zs.length uc) zs W (dU HC W hb) (dU HM W hb) (NU.below hb) hz2 (by omega) okc okm hsc hsm
 have C2 := dH fun W (hb : Below w2.heap.size w2 W) => specPlan9_any (.agg #[.slice ca ds.length cc, .int .i64 cop]) (.agg #[.int .i64 m.bye, .int .i64 m.epoch, .slice msa m.sealed.length msc, .slice mea m.seen.length mec, .bool m.planned, .slice mwa m.wrote.length mwc]) (.slice ua zs.length uc) (ds, cop) m zs W (dU HC W hb) (dU HM W hb) (NU.below hb) hfe hsm (by simp only; omega) (by omega)
 simp only at C1 C2
 have TT : Hid (∀ n, plan9M ds cop m zs = (n, true) → mnP ds cop m ∧ n = plan9W m) := fun n h => plan_true h
 have TF : Hid (∀ n, plan9M ds cop m zs = (n, false) → n = m ∨ n = zeroMn) := fun n h => plan_false h
 generalize hPM : plan9M ds cop m zs = PM at *
 clear hPM
 obtain ⟨n, okk⟩ := PM
 try simp only at C1 C2
 have bX := bT (ba w2 (.cells #[.slice ca ds.length cc, .int .i64 cop] 26)) (ba _ (.cells #[.int .i64 m.bye, .int .i64 m.epoch, .slice msa m.sealed.length msc, .slice mea m.seen.length mec, .bool m.planned, .slice mwa m.wrote.length mwc] 30))
 have PS : Hid (∀ W, Below ((w2.alloc (.cells #[.slice ca ds.length cc, .int .i64 cop] 26)).alloc (.cells #[.int .i64 m.bye, .int .i64 m.epoch, .slice msa m.sealed.length msc, .slice mea m.seen.length mec, .bool m.planned, .slice mwa m.wrote.length mwc] 30)).heap.size ((w2.alloc (.cells #[.slice ca ds.length cc, .int .i64 cop] 26)).alloc (.cells #[.int .i64 m.bye, .int .i64 m.epoch, .slice msa m.sealed.length msc, .slice mea m.seen.length mec, .bool m.planned, .slice mwa m.wrote.length mwc] 30)) W → (W.cell? ⟨w2.heap.size, 0, none⟩ = some (.slice ca ds.length cc) ∧ W.cell? ⟨w2.heap.size, 1, none⟩ = some (.int .i64 cop)) ∧ W.cell? ⟨w2.heap.size + 1, 0, none⟩ = some (.int .i64 m.bye) ∧ W.cell? ⟨w2.heap.size + 1, 1, none⟩ = some (.int .i64 m.epoch) ∧ W.cell? ⟨w2.heap.size + 1, 2, none⟩ = some (.slice msa m.sealed.length msc) ∧ W.cell? ⟨w2.heap.size + 1, 3, none⟩ = some (.slice mea m.seen.length mec) ∧ W.cell? ⟨w2.heap.size + 1, 4, none⟩ = some (.bool m.planned) ∧ W.cell? ⟨w2.heap.size + 1, 5, none⟩ = some (.slice mwa m.wrote.length mwc)) := fun W hW => by
  have x := ((Bx.new w2 [.slice ca ds.length cc, .int .i64 cop] 26).below (ba _ (.cells #[.int .i64 m.bye, .int .i64 m.epoch, .slice msa m.sealed.length msc, .slice mea m.seen.length mec, .bool m.planned, .slice mwa m.wrote.length mwc] 30))).below hW
  have y := Bx.new (w2.alloc (.cells #[.slice ca ds.length cc, .int .i64 cop] 26)) [.int .i64 m.bye, .int .i64 m.epoch, .slice msa m.sealed.length msc, .slice mea m.seen.length mec, .bool m.planned, .slice mwa m.wrote.length mwc] 30
  rw [show (w2.alloc (.cells #[.slice ca ds.length cc, .int .i64 cop] 26)).heap.size = w2.heap.size + 1 from by simp] at y
  replace y := y.below hW
  exact ⟨⟨x 0 _ rfl, x 1 _ rfl⟩, y 0 _ rfl, y 1 _ rfl, y 2 _ rfl, y 3 _ rfl, y 4 _ rfl, y 5 _ rfl⟩
 have HSE := dH fun W (hb : Below w2.heap.size w2 W) => seenRow (R2.below hb)
 clear N2 R2 NU fit okm hsm hd1 hd2 hd3 hd4 hz1 hz2 hfe
 go_upto_region 4 with fail
 generalize ((w2.alloc (.cells #[.slice ca ds.length cc, .int .i64 cop] 26)).alloc (.cells #[.int .i64 m.bye, .int .i64 m.epoch, .slice msa m.sealed.length msc, .slice mea m.seen.length mec, .bool m.planned, .slice mwa m.wrote.length mwc] 30)) = w7 at *
 obtain ⟨⟨q0, q1⟩, q2, q3, q4, q5, q6, q7⟩ := dU PS w7 (Below.refl _ _)
 go_wp2_with fail
 refine (dU C1 _ bX).mono ?_
 rintro e w8 ⟨⟨u, rfl, O8⟩, b8⟩
 have R8 := O8.rd
 obtain ⟨nsa, nsc, nea, nec, nwa, nwc, rfl, -, -, -⟩ := formMend R8
 have X8 := Bx.new w8 [.int .i64 n.bye, .int .i64 n.epoch, .slice nsa n.sealed.length nsc, .slice nea n.seen.length nec, .bool n.planned, .slice nwa n.wrote.length nwc] 30
 have b9 := ba w8 (.cells #[.int .i64 n.bye, .int .i64 n.epoch, .slice nsa n.sealed.length nsc, .slice nea n.seen.length nec, .bool n.planned, .slice nwa n.wrote.length nwc] 30)
 have R9 := R8.below b9
 have b79 := bT b8 b9
 clear C1 O8 R8 q0 q1 q2 q3 q4 q5 q6 q7 b8 b9
 obtain ⟨⟨q0, q1⟩, q2, q3, q4, q5, q6, q7⟩ := dU PS _ b79
 go_wp2_with fail
 generalize hbn : w8.heap.size = bn at *
 generalize w8.alloc (.cells #[.int .i64 n.bye, .int .i64 n.epoch, .slice nsa n.sealed.length nsc, .slice nea n.seen.length nec, .bool n.planned, .slice nwa n.wrote.length nwc] 30) = w9 at *
 clear hbn
 refine (dU C2 _ (bT bX b79)).mono ?_
 rintro e w10 ⟨⟨u, rfl, O10⟩, b10⟩
 obtain ⟨vsa, vsc, vea, vec, vwa, vwc, rfl, -, -, -⟩ := formMend O10.rd
 have b11 := bT b10 (ba w10 (.cells #[.int .i64 n.bye, .int .i64 n.epoch, .slice vsa n.sealed.length vsc, .slice vea n.seen.length vec, .bool n.planned, .slice vwa n.wrote.length vwc] 30))
 have b7b := bT b79 b11
 have PB : Hid (∀ W, Below (w10.alloc (.cells #[.int .i64 n.bye, .int .i64 n.epoch, .slice vsa n.sealed.length vsc, .slice vea n.seen.length vec, .bool n.planned, .slice vwa n.wrote.length vwc] 30)).heap.size (w10.alloc (.cells #[.int .i64 n.bye, .int .i64 n.epoch, .slice vsa n.sealed.length vsc, .slice vea n.seen.length vec, .bool n.planned, .slice vwa n.wrote.length vwc] 30)) W → ((W.cell? ⟨w2.heap.size, 0, none⟩ = some (.slice ca ds.length cc) ∧ W.cell? ⟨w2.heap.size, 1, none⟩ = some (.int .i64 cop)) ∧ W.cell? ⟨w2.heap.size + 1, 0, none⟩ = some (.int .i64 m.bye) ∧ W.cell? ⟨w2.heap.size + 1, 1, none⟩ = some (.int .i64 m.epoch) ∧ W.cell? ⟨w2.heap.size + 1, 2, none⟩ = some (.slice msa m.sealed.length msc) ∧ W.cell? ⟨w2.heap.size + 1, 3, none⟩ = some (.slice mea m.seen.length mec) ∧ W.cell? ⟨w2.heap.size + 1, 4, none⟩ = some (.bool m.planned) ∧ W.cell? ⟨w2.heap.size + 1, 5, none⟩ = some (.slice mwa m.wrote.length mwc)) ∧ W.cell? ⟨bn, 0, none⟩ = some (.int .i64 n.bye) ∧ W.cell? ⟨bn, 1, none⟩ = some (.int .i64 n.epoch) ∧ W.cell? ⟨bn, 2, none⟩ = some (.slice nsa n.sealed.length nsc) ∧ W.cell? ⟨bn, 3, none⟩ = some (.slice nea n.seen.length nec) ∧ W.cell? ⟨bn, 4, none⟩ = some (.bool n.planned) ∧ W.cell? ⟨bn, 5, none⟩ = some (.slice nwa n.wrote.length nwc)) := fun W hW => by
  have x := (X8.below b11).below hW
  exact ⟨dU PS W (bT b7b hW), x 0 _ rfl, x 1 _ rfl, x 2 _ rfl, x 3 _ rfl, x 4 _ rfl, x 5 _ rfl⟩
 have R11 := R9.below b11
 have BB := bT B2 (bT bX b7b)
 have B67 := bT bX b7b
 have hne : (okk != okk) = false := by simp
 clear C2 O10 q0 q1 q2 q3 q4 q5 q6 q7 b10 b11 b7b b79 PS X8 R9 bX
 obtain ⟨⟨⟨q0, q1⟩, q2, q3, q4, q5, q6, q7⟩, n0, n1, n2, n3, n4, n5⟩ := dU PB _ (Below.refl _ _)
 generalize hwb : w10.alloc (.cells #[.int .i64 n.bye, .int .i64 n.epoch, .slice vsa n.sealed.length vsc, .slice vea n.seen.length vec, .bool n.planned, .slice vwa n.wrote.length vwc] 30) = wb at *
 cases okk
 case false =>
  have hnn := dU TF n rfl
  have hd : ((n.wrote.length : Int) == (m.wrote.length : Int)) = true ∨ (((n.wrote.length : Int) == (m.wrote.length : Int)) = false ∧ ((n.wrote.length : Int) == 0) = true) := by
   rcases hnn with h | h
   ·left; rw [h]; simp
   ·by_cases h0 : m.wrote.length = 0
    ·left; rw [h, h0]; rfl
    ·right
     rw [h]
     refine ⟨?_, rfl⟩
     have : ¬ ((zeroMn.wrote.length : Int) = (m.wrote.length : Int)) := by show ¬ ((0 : Nat) : Int) = _; omega
     simpa using this
  clear TT TF hnn PB HSE
  rcases hd with hd | ⟨hd, hd2⟩
  ·go_wp2_with fail
   rw [hwb] at *
   go_wp2
   go_ret
   exact ⟨rfl, BB⟩
  ·go_wp2_with fail
   rw [hwb] at *
   go_wp2
   go_ret
   exact ⟨rfl, BB⟩
 case true =>
 obtain ⟨hmn, hnn⟩ := dU TT n rfl
 clear TT TF
 have hmN : mnP ds cop n := by rw [hnn]; exact plan9_mn hmn
 have fN := hmN.fit
 have okN : okMend n := fN.1
 have hsN := fN.siz
 have hwl : n.wrote.length ≤ 60 := hmN.wroteLe
 have hml : m.seen.length ≤ 9223372036854775807 := by have := hmn.fit.2.2.1.1; omega
 have CE0 := dH fun (off : Int) (ho : okInt off) W (hb : Below wb.heap.size wb W) => implMendEntry_any (.agg #[.int .i64 n.bye, .int .i64 n.epoch, .slice nsa n.sealed.length nsc, .slice nea n.seen.length nec, .bool n.planned, .slice nwa n.wrote.length nwc]) n off W (R11.below hb) ho okN.2.1
 have CR := dH fun W (hb : Below wb.heap.size wb W) => implReady_any (.agg #[.slice ca ds.length cc, .int .i64 cop]) (.agg #[.int .i64 n.bye, .int .i64 n.epoch, .slice nsa n.sealed.length nsc, .slice nea n.seen.length nec, .bool n.planned, .slice nwa n.wrote.length nwc]) (ds, cop) n W (dU HC W (bT B67 hb)) (R11.below hb) okc okN hsc hsN
 have CM := dH fun W (hb : Below wb.heap.size wb W) => (implMendOk_any (.agg #[.slice ca ds.length cc, .int .i64 cop]) (.agg #[.int .i64 n.bye, .int .i64 n.epoch, .slice nsa n.sealed.length nsc, .slice nea n.seen.length nec, .bool n.planned, .slice nwa n.wrote.length nwc]) (ds, cop) n W (dU HC W (bT B67 hb)) (R11.below hb) okc okN hsc hsN).mono fun e w' h => (⟨h.1.of_yes hmN, h.2⟩ : e = .returned (.bool true) ∧ Below W.heap.size W w')
 simp only at CR
 have PE : Hid (∀ k : Nat, 1 ≤ k → k ≤ n.wrote.length → ∃ x : Ent, entR n (k : Int) = (x, true) ∧ entP x ∧ x.wave = m.bye ∧ (∀ e ∈ m.seen, e.pl = x.pl → e.data = x.data ∧ e.hole = x.hole) ∧ ((∀ e ∈ m.seen, e.pl ≠ x.pl) → x.hole = true)) := fun k h1 h2 => by
  subst hnn
  exact plan_ent hmn (k : Int) (by omega) (by omega)
 have PM : Hid (entR n ((n.wrote.length : Int) + 1) = (noEnt, false)) := by rw [Hid, hnn]; exact plan_more
 have PY : Hid (n.wrote.length = 0 → rdyP ds cop n) := fun h => by
  rw [hnn] at h ⊢
  exact plan_ready hmn h
 have PW : Hid (∀ l ∈ n.wrote, l = []) := fun l hl => by
  rw [hnn] at hl
  exact (List.mem_replicate.1 hl).2
 obtain ⟨sv', ev', wv', ew, -, -, rn, ern, hrwn, hrnn⟩ := id R11
 simp only [Value.agg.injEq, Array.mk.injEq, List.cons.injEq, and_true, true_and] at ew
 obtain ⟨-, -, rfl⟩ := ew
 have hln : rn.length = n.wrote.length := by rw [← ern, List.length_map]
 have HLN := dH hln
 have HRN := dH fun W (hb : Below wb.heap.size wb W) => hrwn.below hb
 have HRE : Hid (∀ k (hk : k < rn.length), rn[k].m.length = 0) := fun k hk => by
  have hmem : rn[k].m ∈ n.wrote := by rw [← ern]; exact List.mem_map.2 ⟨_, List.getElem_mem hk, rfl⟩
  rw [dU PW _ hmem]
  rfl
 have HSB := dH fun W (hb : Below wb.heap.size wb W) => dU HSE W (bT B67 hb)
 clear HSE hrwn hrnn ern hln PW hmn hnn hmN fN okN hsN R11 HC okc hsc q0 q1 q2 q3 q4 q5 q6 q7 n0 n1 n2 n3 n4 n5
 have sq := dH B67
 clear B67
 go_wp2_with fail
 rw [hwb] at *
 clear hwb
 go_wp2
 go_loopw [10] (fun xv wr => ∃ k : Nat, xv = .int .i64 (k : Int) ∧ (1 ≤ k ∧ k ≤ n.wrote.length + 1) ∧ Below wb.heap.size wb wr) (fun xv _ => n.wrote.length + 2 - (intOf xv).toNat)
 case atStart => exact ⟨1, rfl, ⟨Nat.le_refl _, by omega⟩, Below.refl _ _⟩
 case round =>
  obtain ⟨k, rfl, ⟨hk1, hk2⟩, hb⟩ := hrel
  obtain ⟨⟨⟨q0, q1⟩, q2, q3, q4, q5, q6, q7⟩, n0, n1, n2, n3, n4, n5⟩ := dU PB wr hb
  by_cases hle : (k : Int) ≤ (n.wrote.length : Int)
  ·obtain ⟨x, hx1, hx2, hx3, hx4, hx5⟩ := dU PE k hk1 (by omega)
   have CE := dH (dU CE0 (k : Int) ⟨by omega, by omega⟩ wr hb)
   rw [hx1] at CE
   have hxf : x.fits := entP_fit hx2
   have HX4 := dH hx4
   have HX5 := dH hx5
   obtain ⟨xp, xw, xh, xd⟩ := x
   simp only at hx3
   subst hx3
   have CO := dH fun W => (implEntOk_any ⟨xp, m.bye, xh, xd⟩ hxf W).mono fun e w' h => (⟨h.1.of_yes hx2, h.2⟩ : e = .returned (.bool true) ∧ Below W.heap.size W w')
   unfold Ent.val at CE CO
   simp only at CE CO
   clear hx1 hx2 hx4 hx5 hxf
   go_wp2_with fail
   refine (dU CE).mono ?_
   rintro e w12 ⟨rfl, b12⟩
   clear CE q0 q1 q2 q3 q4 q5 q6 q7 n0 n1 n2 n3 n4 n5
   have b13 := bT b12 (ba w12 (.cells #[.int .i64 xp, .int .i64 m.bye, .bool xh, .string xd] 36))
   have X13 := Bx.new w12 [.int .i64 xp, .int .i64 m.bye, .bool xh, .string xd] 36
   have hb13 := bT hb b13
   clear b12 b13
   have e0 := X13 0 _ rfl
   have e1 := X13 1 _ rfl
   have e2 := X13 2 _ rfl
   have e3 := X13 3 _ rfl
   go_wp2_with fail
   generalize hxb : w12.heap.size = xb at *
   generalize w12.alloc (.cells #[.int .i64 xp, .int .i64 m.bye, .bool xh, .string xd] 36) = w13 at *
   clear hxb
   refine (dU CO _).mono ?_
   rintro e w14 ⟨rfl, b14⟩
   replace X13 := X13.below b14
   have hb14 := bT hb13 b14
   clear CO e0 e1 e2 e3 b14 hb13
   obtain ⟨⟨⟨q0, q1⟩, q2, q3, q4, q5, q6, q7⟩, n0, n1, n2, n3, n4, n5⟩ := dU PB w14 hb14
   have e1 := X13 1 _ rfl
   have hkr : k - 1 < rn.length := by rw [dU HLN]; omega
   obtain ⟨wb', wo, rfl, hcw⟩ := (dU HRN w14 hb14).ls hkr
   have cw := hcw (k - 1) hkr
   rw [dU HRE (k - 1) hkr] at cw
   have hkb : (k : Int) - 1 = ((k - 1 : Nat) : Int) := by omega
   have hkw : wrap64 ((k : Int) - 1) = ((k - 1 : Nat) : Int) := by unfold wrap64; omega
   have hki : ((k - 1 : Nat) : Int) < (n.wrote.length : Int) := by omega
   clear hcw
   go_wp2
   go_loopw [13, 14] (fun sv jv wq => ∃ (j : Nat) (sb : Bool), jv = .int .i64 (j : Int) ∧ sv = .bool sb ∧ j ≤ m.seen.length ∧ Hid (FlagP sb (∃ i, ∃ h : i < m.seen.length, i < j ∧ m.seen[i].pl = xp)) ∧ Below w14.heap.size w14 wq) (fun _ jv _ => m.seen.length - (intOf jv).toNat)
   case atStart => exact ⟨0, false, rfl, rfl, Nat.zero_le _, ⟨fun h => (by cases h), fun ⟨i, _, h, _⟩ => by omega⟩, Below.refl _ _⟩
   case round =>
    obtain ⟨j, sb, rfl, rfl, hj, hsb, hq⟩ := hrel
    clear q0 q1 q2 q3 q4 q5 q6 q7 n0 n1 n2 n3 n4 n5 e1 cw
    have hbq := bT hb14 hq
    obtain ⟨⟨⟨q0, q1⟩, q2, q3, q4, q5, q6, q7⟩, n0, n1, n2, n3, n4, n5⟩ := dU PB _ hbq
    have XX := X13.below hq
    have e0 := XX 0 _ rfl
    have e2 := XX 2 _ rfl
    have e3 := XX 3 _ rfl
    by_cases hltj : (j : Int) < (m.seen.length : Int)
    ·have hjl : j < m.seen.length := by omega
     obtain ⟨sbb, so, rfl, hcs⟩ := (dU HSB _ hbq).ent hjl
     obtain ⟨s0, s1, s2, s3⟩ := hcs j hjl
     have HST : Hid (∀ sb' : Bool, (sb' = true ↔ sb = true ∨ m.seen[j].pl = xp) → FlagP sb' (∃ i, ∃ h : i < m.seen.length, i < j + 1 ∧ m.seen[i].pl = xp)) := fun sb' h => by
      have hs' : sb = true ↔ _ := dU hsb
      show sb' = true ↔ _
      rw [h, hs']
      constructor
      ·rintro (⟨i, hi, h1, h2⟩ | h)
       ·exact ⟨i, hi, by omega, h2⟩
       ·exact ⟨j, hjl, by omega, h⟩
      ·rintro ⟨i, hi, h1, h2⟩
       rcases Nat.lt_or_ge i j with h3 | h3
       ·exact .inl ⟨i, hi, h3, h2⟩
       ·obtain rfl : i = j := by omega
        exact .inr h2
     have HXj := dH (dU HX4 m.seen[j] (List.getElem_mem hjl))
     clear hcs hsb
     generalize m.seen[j] = y at *
     obtain ⟨yp, yw, yh, yd⟩ := y
     simp only at s0 s1 s2 s3 HST HXj
     by_cases hyx : yp = xp
     ·obtain ⟨hyd, hyh⟩ := dU HXj hyx
      have G1 := dH (dU HST true ⟨fun _ => .inr hyx, fun _ => rfl⟩)
      clear HST HXj
      subst hyx hyd hyh
      go_wp2
      go_quiet (fail)
      go_wp2
      go_quiet (fail)
      go_wp2
      go_roundw
      case rel => exact ⟨j + 1, true, by go_num, rfl, by omega, dU G1, (by first | exact below_drewN hq _ | exact below_drewN (below_drewN hq _) _)⟩
      case measure => simp [intOf]; omega
     ·have hyb : (yp == xp) = false := by simpa using hyx
      have G1 := dH (dU HST sb ⟨fun h => .inl h, fun h => h.resolve_right hyx⟩)
      clear HST HXj hyx
      cases sb
      all_goals
       go_wp2
       go_quiet (fail)
       go_wp2
       go_roundw
       case rel => exact ⟨j + 1, _, by go_num, rfl, by omega, dU G1, below_drewN hq _⟩
       case measure => simp [intOf]; omega
    ·cases sb
     ·have hh : xh = true := dU HX5 fun e he hp => by
       obtain ⟨i, hi, rfl⟩ := List.getElem_of_mem he
       have := (show false = true ↔ _ from dU hsb).2 ⟨i, hi, by omega, hp⟩
       cases this
      subst hh
      clear hsb HX4 HX5
      go_wp2
      go_roundw
      case rel => exact ⟨k + 1, by go_num, ⟨by omega, by omega⟩, hbq⟩
      case measure => simp [intOf]; omega
     ·clear hsb HX4 HX5
      go_wp2
      go_roundw
      case rel => exact ⟨k + 1, by go_num, ⟨by omega, by omega⟩, hbq⟩
      case measure => simp [intOf]; omega
  ·have CE := dH (dU CE0 ((n.wrote.length : Int) + 1) ⟨by omega, by omega⟩ wr hb)
   rw [dU PM] at CE
   simp only at CE
   rw [noEnt_val] at CE
   have hw1 : wrap64 ((n.wrote.length : Int) + 1) = (n.wrote.length : Int) + 1 := by unfold wrap64; omega
   clear PE CE0 PM HRN HRE HSB
   go_wp2_with fail
   refine (dU CE).mono ?_
   rintro e w12 ⟨rfl, b12⟩
   have hb13 := bT hb (bT b12 (ba w12 (.cells #[.int .i64 0, .int .i64 0, .bool false, .string ⟨#[]⟩] 36)))
   clear CE q0 q1 q2 q3 q4 q5 q6 q7 n0 n1 n2 n3 n4 n5 hw1 b12
   obtain ⟨⟨⟨q0, q1⟩, q2, q3, q4, q5, q6, q7⟩, n0, n1, n2, n3, n4, n5⟩ := dU PB _ hb13
   by_cases h0 : n.wrote.length = 0
   ·have CRy := dH ((dU CR _ hb13).mono fun e w' h => (⟨h.1.of_yes (dU PY h0), h.2⟩ : e = .returned (.bool true) ∧ Below _ _ w'))
    have H0 := dH h0
    rw [h0] at n5 CRy
    clear PY CR h0
    go_wp2_with fail
    refine (dU CRy).mono ?_
    rintro e w14 ⟨rfl, b14⟩
    have hb14 := bT hb13 b14
    clear CRy q0 q1 q2 q3 q4 q5 q6 q7 n0 n1 n2 n3 n4 n5 b14
    obtain ⟨⟨⟨q0, q1⟩, q2, q3, q4, q5, q6, q7⟩, n0, n1, n2, n3, n4, n5⟩ := dU PB _ hb14
    have CMy := dH (dU CM _ hb14)
    rw [dU H0] at n5 CMy
    go_wp2_with fail
    refine (dU CMy).mono ?_
    rintro e w15 ⟨rfl, b15⟩
    have BF := bT BB (bT hb14 b15)
    clear CM b15
    go_wp2
    go_ret
    exact ⟨rfl, BF⟩
   ·have hd0 : decide ((0 : Int) < (n.wrote.length : Int)) = true := decide_eq_true (by omega)
    have hl0 : (0 : Int) < (n.wrote.length : Int) := by omega
    have hl1 : 0 < n.wrote.length := by omega
    have hd1 : decide (0 < n.wrote.length) = true := decide_eq_true hl1
    clear PY CR
    go_wp2_with fail
    refine (dU CM _ hb13).mono ?_
    rintro e w15 ⟨rfl, b15⟩
    have BF := bT BB (bT hb13 b15)
    clear CM b15
    go_wp2
    go_ret
    exact ⟨rfl, BF⟩
end Go.Proofs.YtajoncomhdimnaaGreat
