/- The walk of the law FnSealing (printed by tools/mkl9s.py). -/
import Derived.Test.YtjkjmapibcfcdaaGreatMdS
import Derived.Test.YtjkjmapibcfcdaaGreatGz3
import Derived.Test.YtjkjmapibcfcdaaGreatMnU
import Derived.Test.YtjkjmapibcfcdaaGreatMnV
import Derived.Test.YtjkjmapibcfcdaaGreatGz7
import Derived.Test.YtjkjmapibcfcdaaGreatGw2
import Derived.Test.YtjkjmapibcfcdaaGreatWitA
import Derived.Test.YtjkjmapibcfcdaaGreatGx6
import Derived.Test.YtjkjmapibcfcdaaGreatGaA
import Derived.BigQuiet
import Derived.Deep.RegionHeld3
import Derived.Deep.DeepCutAuto
namespace Go.Proofs.YtjkjmapibcfcdaaGreat
open Go.ChangeShapes Go.WideShapes Go.ChangeAt Go.RowKit
set_option linter.unusedVariables false
set_option linter.unusedSimpArgs false
set_option maxRecDepth 100000

theorem seenRow {b0 b1 sv ev b4 wv : Value} {m : Mn} {W : World} (h : RdMend (.agg #[b0, b1, sv, ev, b4, wv]) m W) : Rw 4 Ent.cl W ev m.seen := by
 obtain ⟨sv', ev', wv', e, -, h3, -⟩ := h
 simp only [Value.agg.injEq] at e
 have e' := congrArg Array.toList e
 simp only [List.cons.injEq] at e'
 rw [e'.2.2.2.1]
 exact h3
theorem sealRow {b0 b1 sv ev b4 wv : Value} {m : Mn} {W : World} (h : RdMend (.agg #[b0, b1, sv, ev, b4, wv]) m W) : Ns W sv m.sealed := by
 obtain ⟨sv', ev', wv', e, h2, -, -⟩ := h
 simp only [Value.agg.injEq] at e
 have e' := congrArg Array.toList e
 simp only [List.cons.injEq] at e'
 rw [e'.2.2.1]
 exact h2
def FlagP (b : Bool) (P : Prop) : Prop := b = true ↔ P
set_option maxHeartbeats 16000000 in
theorem walkFnSealing (a0 : Option Addr) (len0 cap0 : Nat) (z0 : List Int) (w : World) (w0 : IsRow .u8 w a0 len0 cap0 z0) :
  Calls Tryz.prog 3 #[.slice a0 len0 cap0] w fun e w' => e = .returned (.bool true) ∧ Below w.heap.size w w' := by
 have hr := row8_of w0
 have hlen := hr.1
 clear w0
 by_cases hbig : 1048576 < len0
 ·have CB := dH (big_yes a0 len0 cap0 hbig hlen)
  go_enter Tryz.func3, Tryz.ntmps3
  go_wp2_with fail
  refine (dU CB _).mono ?_
  rintro e w1 ⟨rfl, rfl⟩
  go_wp2
  go_ret
  exact ⟨rfl, Below.refl _ _⟩
 have CB := dH (big_no a0 len0 cap0 hbig)
 have CD := dH (drawMendSeal_any a0 len0 cap0 w hr)
 have ba : ∀ (w : World) o, Below w.heap.size w (w.alloc o) := fun w o => (Below.refl _ _).alloc (Nat.le_refl _) o
 clear hbig hr
 go_enter Tryz.func3, Tryz.ntmps3
 go_wp2_with fail
 refine (dU CB _).mono ?_
 rintro e w1 ⟨rfl, rfl⟩
 clear CB
 go_wp2_with fail
 refine (dU CD).mono ?_
 rintro e w2 ⟨m, q, ca, cc, ds, cop, node, u, es, rfl, N2, R2, NU, fit, ⟨hd1, hd2, hd3, hd4⟩, hnd, ⟨hz1, hz2⟩, B2⟩
 clear CD
 obtain ⟨-, ua, uc, rfl, -, -⟩ := id NU
 obtain ⟨msa, msc, mea, mec, mwa, mwc⟩ := q
 simp only at R2
 have okm : okMend m := fit.1
 have hsm := fit.siz
 have okc : okConfig (ds, cop) := ⟨hd2, by simp only; omega, by simp only; omega⟩
 have hsc : sizConfig (ds, cop) ≤ 1048576 := by unfold sizConfig; simp only; omega
 have HC := dH fun W (hb : Below w2.heap.size w2 W) => (show RdConfig (.agg #[.slice ca ds.length cc, .int .i64 cop]) (ds, cop) W from ⟨_, rfl, N2.below hb⟩)
 have HM := dH fun W (hb : Below w2.heap.size w2 W) => R2.below hb
 have hfe : fitE m.seen := okm.2.2.2.1
 have hfl : fitE es := fun e he => (hz2 e he).1
 have C1 := dH fun W (hb : Below w2.heap.size w2 W) => implSeal9_any (.agg #[.slice ca ds.length cc, .int .i64 cop]) (.agg #[.int .i64 m.bye, .int .i64 m.epoch, .slice msa m.sealed.length msc, .slice mea m.seen.length mec, .bool m.planned, .slice mwa m.wrote.length mwc]) (ds, cop) m node (.slice ua es.length uc) es W (dU HC W hb) (dU HM W hb) (NU.below hb) ⟨by omega, by omega⟩ hfl (by omega) okc okm hsc hsm
 have C2 := dH fun W (hb : Below w2.heap.size w2 W) => specSeal9_any (.agg #[.slice ca ds.length cc, .int .i64 cop]) (.agg #[.int .i64 m.bye, .int .i64 m.epoch, .slice msa m.sealed.length msc, .slice mea m.seen.length mec, .bool m.planned, .slice mwa m.wrote.length mwc]) (.slice ua es.length uc) (ds, cop) m node es W (dU HC W hb) (dU HM W hb) (NU.below hb) hfe hfl hsm (by simp only; omega) (by omega)
 simp only at C1 C2
 have TT : Hid (∀ n, seal9M ds cop m node es = (n, true) → mnP ds cop m ∧ mnP ds cop n ∧ n.planned = false ∧ node ∈ n.sealed ∧ (∀ e ∈ es, epL e.pl = m.epoch → ∃ o ∈ n.seen, o.pl = e.pl ∧ e.wave ≤ o.wave) ∧ ∀ e ∈ m.seen, ∃ o ∈ n.seen, o.pl = e.pl ∧ e.wave ≤ o.wave) := fun n h => seal9_true h
 have TF : Hid (∀ n, seal9M ds cop m node es = (n, false) → n = m ∨ n = zeroMn) := fun n h => seal9_false h
 generalize hPM : seal9M ds cop m node es = PM at *
 clear hPM
 obtain ⟨n, okk⟩ := PM
 try simp only at C1 C2
 have bX := bT (ba w2 (.cells #[.slice ca ds.length cc, .int .i64 cop] 26)) (ba _ (.cells #[.int .i64 m.bye, .int .i64 m.epoch, .slice msa m.sealed.length msc, .slice mea m.seen.length mec, .bool m.planned, .slice mwa m.wrote.length mwc] 30))
 have PS : Hid (∀ W, Below ((w2.alloc (.cells #[.slice ca ds.length cc, .int .i64 cop] 26)).alloc (.cells #[.int .i64 m.bye, .int .i64 m.epoch, .slice msa m.sealed.length msc, .slice mea m.seen.length mec, .bool m.planned, .slice mwa m.wrote.length mwc] 30)).heap.size ((w2.alloc (.cells #[.slice ca ds.length cc, .int .i64 cop] 26)).alloc (.cells #[.int .i64 m.bye, .int .i64 m.epoch, .slice msa m.sealed.length msc, .slice mea m.seen.length mec, .bool m.planned, .slice mwa m.wrote.length mwc] 30)) W → (W.cell? ⟨w2.heap.size, 0, none⟩ = some (.slice ca ds.length cc) ∧ W.cell? ⟨w2.heap.size, 1, none⟩ = some (.int .i64 cop)) ∧ W.cell? ⟨w2.heap.size + 1, 0, none⟩ = some (.int .i64 m.bye) ∧ W.cell? ⟨w2.heap.size + 1, 1, none⟩ = some (.int .i64 m.epoch) ∧ W.cell? ⟨w2.heap.size + 1, 2, none⟩ = some (.slice msa m.sealed.length msc) ∧ W.cell? ⟨w2.heap.size + 1, 3, none⟩ = some (.slice mea m.seen.length mec) ∧ W.cell? ⟨w2.heap.size + 1, 4, none⟩ = some (.bool m.planned) ∧ W.cell? ⟨w2.heap.size + 1, 5, none⟩ = some (.slice mwa m.wrote.length mwc)) := fun W hW => by
  have x := ((Bx.new w2 [.slice ca ds.length cc, .int .i64 cop] 26).below (ba _ (.cells #[.int .i64 m.bye, .int .i64 m.epoch, .slice msa m.sealed.length msc, .slice mea m.seen.length mec, .bool m.planned, .slice mwa m.wrote.length mwc] 30))).below hW
  have y := Bx.new (w2.alloc (.cells #[.slice ca ds.length cc, .int .i64 cop] 26)) [.int .i64 m.bye, .int .i64 m.epoch, .slice msa m.sealed.length msc, .slice mea m.seen.length mec, .bool m.planned, .slice mwa m.wrote.length mwc] 30
  rw [show (w2.alloc (.cells #[.slice ca ds.length cc, .int .i64 cop] 26)).heap.size = w2.heap.size + 1 from by simp] at y
  replace y := y.below hW
  exact ⟨⟨x 0 _ rfl, x 1 _ rfl⟩, y 0 _ rfl, y 1 _ rfl, y 2 _ rfl, y 3 _ rfl, y 4 _ rfl, y 5 _ rfl⟩
 have HSE := dH fun W (hb : Below w2.heap.size w2 W) => seenRow (R2.below hb)
 have HLE := dH fun W (hb : Below w2.heap.size w2 W) => NU.below hb
 have hms : m.seen.length ≤ 62 := fit.2.2.1.1
 have HFT : Hid (∀ x, x ∈ es ∨ x ∈ m.seen → okInt x.pl) := fun x h => by
  rcases h with h | h
  ·exact ⟨(hfl x h).1, (hfl x h).2.1⟩
  ·exact ⟨(hfe x h).1, (hfe x h).2.1⟩
 clear N2 R2 NU fit okm hsm hd1 hd2 hd3 hd4 hz2 hfe hfl hnd
 go_upto_region 4 with fail
 generalize ((w2.alloc (.cells #[.slice ca ds.length cc, .int .i64 cop] 26)).alloc (.cells #[.int .i64 m.bye, .int .i64 m.epoch, .slice msa m.sealed.length msc, .slice mea m.seen.length mec, .bool m.planned, .slice mwa m.wrote.length mwc] 30)) = w7 at *
 obtain ⟨⟨q0, q1⟩, q2, q3, q4, q5, q6, q7⟩ := dU PS w7 (Below.refl _ _)
 go_wp2_with fail
 refine (dU C1 _ bX).mono ?_
 rintro e w8 ⟨⟨u, rfl, O8⟩, b8⟩
 have R8 := O8.rd
 obtain ⟨nsa, nsc, nea, nec, nwa, nwc, rfl, -, -, -⟩ := formMend R8
 have X8 := Bx.new w8 [.int .i64 n.bye, .int .i64 n.epoch, .slice nsa n.sealed.length nsc, .slice nea n.seen.length nec, .bool n.planned, .slice nwa n.wrote.length nwc] 30
 have b9 := ba w8 (.cells #[.int .i64 n.bye, .int .i64 n.epoch, .slice nsa n.sealed.length nsc, .slice nea n.seen.length nec, .bool n.planned, .slice nwa n.wrote.length nwc] 30)
 have R9 := R8.below b9
 have b79 := bT b8 b9
 clear C1 O8 R8 q0 q1 q2 q3 q4 q5 q6 q7 b8 b9
 obtain ⟨⟨q0, q1⟩, q2, q3, q4, q5, q6, q7⟩ := dU PS _ b79
 go_wp2_with fail
 generalize hbn : w8.heap.size = bn at *
 generalize w8.alloc (.cells #[.int .i64 n.bye, .int .i64 n.epoch, .slice nsa n.sealed.length nsc, .slice nea n.seen.length nec, .bool n.planned, .slice nwa n.wrote.length nwc] 30) = w9 at *
 clear hbn
 refine (dU C2 _ (bT bX b79)).mono ?_
 rintro e w10 ⟨⟨u, rfl, O10⟩, b10⟩
 obtain ⟨vsa, vsc, vea, vec, vwa, vwc, rfl, -, -, -⟩ := formMend O10.rd
 have b11 := bT b10 (ba w10 (.cells #[.int .i64 n.bye, .int .i64 n.epoch, .slice vsa n.sealed.length vsc, .slice vea n.seen.length vec, .bool n.planned, .slice vwa n.wrote.length vwc] 30))
 have b7b := bT b79 b11
 have PB : Hid (∀ W, Below (w10.alloc (.cells #[.int .i64 n.bye, .int .i64 n.epoch, .slice vsa n.sealed.length vsc, .slice vea n.seen.length vec, .bool n.planned, .slice vwa n.wrote.length vwc] 30)).heap.size (w10.alloc (.cells #[.int .i64 n.bye, .int .i64 n.epoch, .slice vsa n.sealed.length vsc, .slice vea n.seen.length vec, .bool n.planned, .slice vwa n.wrote.length vwc] 30)) W → ((W.cell? ⟨w2.heap.size, 0, none⟩ = some (.slice ca ds.length cc) ∧ W.cell? ⟨w2.heap.size, 1, none⟩ = some (.int .i64 cop)) ∧ W.cell? ⟨w2.heap.size + 1, 0, none⟩ = some (.int .i64 m.bye) ∧ W.cell? ⟨w2.heap.size + 1, 1, none⟩ = some (.int .i64 m.epoch) ∧ W.cell? ⟨w2.heap.size + 1, 2, none⟩ = some (.slice msa m.sealed.length msc) ∧ W.cell? ⟨w2.heap.size + 1, 3, none⟩ = some (.slice mea m.seen.length mec) ∧ W.cell? ⟨w2.heap.size + 1, 4, none⟩ = some (.bool m.planned) ∧ W.cell? ⟨w2.heap.size + 1, 5, none⟩ = some (.slice mwa m.wrote.length mwc)) ∧ W.cell? ⟨bn, 0, none⟩ = some (.int .i64 n.bye) ∧ W.cell? ⟨bn, 1, none⟩ = some (.int .i64 n.epoch) ∧ W.cell? ⟨bn, 2, none⟩ = some (.slice nsa n.sealed.length nsc) ∧ W.cell? ⟨bn, 3, none⟩ = some (.slice nea n.seen.length nec) ∧ W.cell? ⟨bn, 4, none⟩ = some (.bool n.planned) ∧ W.cell? ⟨bn, 5, none⟩ = some (.slice nwa n.wrote.length nwc)) := fun W hW => by
  have x := (X8.below b11).below hW
  exact ⟨dU PS W (bT b7b hW), x 0 _ rfl, x 1 _ rfl, x 2 _ rfl, x 3 _ rfl, x 4 _ rfl, x 5 _ rfl⟩
 have R11 := R9.below b11
 have BB := bT B2 (bT bX b7b)
 have B67 := bT bX b7b
 have hne : (okk != okk) = false := by simp
 clear C2 O10 q0 q1 q2 q3 q4 q5 q6 q7 b10 b11 b7b b79 PS X8 R9 bX
 obtain ⟨⟨⟨q0, q1⟩, q2, q3, q4, q5, q6, q7⟩, n0, n1, n2, n3, n4, n5⟩ := dU PB _ (Below.refl _ _)
 generalize hwb : w10.alloc (.cells #[.int .i64 n.bye, .int .i64 n.epoch, .slice vsa n.sealed.length vsc, .slice vea n.seen.length vec, .bool n.planned, .slice vwa n.wrote.length vwc] 30) = wb at *
 cases okk
 case false =>
  have hnn := dU TF n rfl
  have hd : ((n.seen.length : Int) == (m.seen.length : Int)) = true ∨ (((n.seen.length : Int) == (m.seen.length : Int)) = false ∧ ((n.seen.length : Int) == 0) = true) := by
   rcases hnn with h | h
   ·left; rw [h]; simp
   ·by_cases h0 : m.seen.length = 0
    ·left; rw [h, h0]; rfl
    ·right
     rw [h]
     refine ⟨?_, rfl⟩
     have : ¬ ((zeroMn.seen.length : Int) = (m.seen.length : Int)) := by show ¬ ((0 : Nat) : Int) = _; omega
     simpa using this
  clear TT TF hnn PB HSE
  rcases hd with hd | ⟨hd, hd2⟩
  ·go_wp2_with fail
   rw [hwb] at *
   go_wp2
   go_ret
   exact ⟨rfl, BB⟩
  ·go_wp2_with fail
   rw [hwb] at *
   go_wp2
   go_ret
   exact ⟨rfl, BB⟩
 case true =>
 obtain ⟨hmn, hmN, hnp, hnode, hlist, hseen⟩ := dU TT n rfl
 clear TT TF
 have fN := hmN.fit
 have okN : okMend n := fN.1
 have hsN := fN.siz
 have CM := dH fun W (hb : Below wb.heap.size wb W) => (implMendOk_any (.agg #[.slice ca ds.length cc, .int .i64 cop]) (.agg #[.int .i64 n.bye, .int .i64 n.epoch, .slice nsa n.sealed.length nsc, .slice nea n.seen.length nec, .bool n.planned, .slice nwa n.wrote.length nwc]) (ds, cop) n W (dU HC W (bT B67 hb)) (R11.below hb) okc okN hsc hsN).mono fun e w' h => (⟨h.1.of_yes hmN, h.2⟩ : e = .returned (.bool true) ∧ Below W.heap.size W w')
 have CW := dH fun W (hb : Below wb.heap.size wb W) => (within_any (.slice nsa n.sealed.length nsc) n.sealed node W (sealRow (R11.below hb))).mono fun e w' h => (⟨h.1.of_yes hnode, h.2⟩ : e = .returned (.bool true) ∧ w' = W)
 have HNR := dH fun W (hb : Below wb.heap.size wb W) => seenRow (R11.below hb)
 have HSB := dH fun W (hb : Below wb.heap.size wb W) => dU HSE W (bT B67 hb)
 have HLB := dH fun W (hb : Below wb.heap.size wb W) => dU HLE W (bT B67 hb)
 have HNP := dH hnp
 have hnl : n.seen.length ≤ 9223372036854775807 := by have := fN.2.2.1.1; omega
 have HALL : Hid (∀ x, x ∈ es ∨ x ∈ m.seen → okInt x.pl ∧ (epL x.pl ≠ m.epoch ∨ ∃ o ∈ n.seen, o.pl = x.pl ∧ x.wave ≤ o.wave)) := fun x h => ⟨dU HFT x h, by
  rcases h with h | h
  ·by_cases he : epL x.pl = m.epoch
   ·exact .inr (hlist x h he)
   ·exact .inl he
  ·exact .inr (hseen x h)⟩
 clear HSE HLE HFT hlist hseen hmn hmN hnp hnode fN okN hsN R11 HC okc hsc q0 q1 q2 q3 q4 q5 q6 q7 n0 n1 n2 n3 n4 n5 B67
 go_wp2_with fail
 rw [hwb] at *
 clear hwb
 go_wp2
 go_loopw [11] (fun xv wr => ∃ k : Nat, xv = .int .i64 (k : Int) ∧ k ≤ es.length + m.seen.length ∧ Hid (Below wb.heap.size wb wr)) (fun xv _ => es.length + m.seen.length - (intOf xv).toNat)
 case atStart => exact ⟨0, rfl, Nat.zero_le _, Below.refl _ _⟩
 case round =>
  obtain ⟨k, rfl, hk, HB⟩ := hrel
  obtain ⟨⟨⟨q0, q1⟩, q2, q3, q4, q5, q6, q7⟩, n0, n1, n2, n3, n4, n5⟩ := dU PB wr (dU HB)
  by_cases hlt : (k : Int) < (es.length : Int) + (m.seen.length : Int)
  ·have E1 := dH (BxZ.new (B := wb.heap.size) wr [.int .i64 0, .int .i64 0, .bool false, .string ⟨#[]⟩] 36 (dU HB).size)
   have B1 := dH (bT (dU HB) (ba wr (.cells #[.int .i64 0, .int .i64 0, .bool false, .string ⟨#[]⟩] 36)))
   have hbe : wb.heap.size ≤ wr.heap.size := (dU HB).size
   clear HB
   go_upto_region 14 with fail
   generalize wr.alloc (.cells #[.int .i64 0, .int .i64 0, .bool false, .string ⟨#[]⟩] 36) = wa at *
   generalize wr.heap.size = eb at *
   clear q0 q1 q2 q3 q4 q5 q6 q7 n0 n1 n2 n3 n4 n5
   obtain ⟨⟨⟨q0, q1⟩, q2, q3, q4, q5, q6, q7⟩, n0, n1, n2, n3, n4, n5⟩ := dU PB wa (dU B1)
   go_upto_if 72 with fail
   go_cut [72] (fun s72 wx => ∃ x : Ent, Hid (x ∈ es ∨ x ∈ m.seen) ∧ Hid (Bx wx eb [.int .i64 x.pl, .int .i64 x.wave, .bool x.hole, .string x.data]) ∧ Hid (Below wb.heap.size wb wx))
   case first =>
    by_cases hkl : (k : Int) < (es.length : Int)
    ·have hkn : k < es.length := by omega
     obtain ⟨lb, lo, rfl, hcl⟩ := (dU HLB wa (dU B1)).ent hkn
     obtain ⟨s0, s1, s2, s3⟩ := hcl _ hkn
     obtain ⟨⟨z0, f0⟩, ⟨z1, f1⟩, ⟨z2, f2⟩, ⟨z3, f3⟩⟩ : (_ ∧ _) ∧ (_ ∧ _) ∧ (_ ∧ _) ∧ (_ ∧ _) := ⟨(dU E1).2 0 _ rfl, (dU E1).2 1 _ rfl, (dU E1).2 2 _ rfl, (dU E1).2 3 _ rfl⟩
     have HYM : Hid (es[k] ∈ es ∨ es[k] ∈ m.seen) := .inl (List.getElem_mem hkn)
     generalize es[k] = y at *
     have HXB := dH (((((dU E1).put 0 (.int .i64 y.pl)).put 1 (.int .i64 y.wave)).put 2 (.bool y.hole)).put 3 (.string y.data)).bx
     have HWB := dH (((((dU B1).setCell (p := ⟨eb, 0, none⟩) hbe (.int .i64 y.pl)).setCell (p := ⟨eb, 1, none⟩) hbe (.int .i64 y.wave)).setCell (p := ⟨eb, 2, none⟩) hbe (.bool y.hole)).setCell (p := ⟨eb, 3, none⟩) hbe (.string y.data))
     clear hcl
     go_wp2
     go_meet
     case rel => exact ⟨y, HYM, HXB, HWB⟩
    ·have hkn : k - es.length < m.seen.length := by omega
     obtain ⟨lb, lo, rfl, hcl⟩ := (dU HSB wa (dU B1)).ent hkn
     obtain ⟨s0, s1, s2, s3⟩ := hcl _ hkn
     obtain ⟨⟨z0, f0⟩, ⟨z1, f1⟩, ⟨z2, f2⟩, ⟨z3, f3⟩⟩ : (_ ∧ _) ∧ (_ ∧ _) ∧ (_ ∧ _) ∧ (_ ∧ _) := ⟨(dU E1).2 0 _ rfl, (dU E1).2 1 _ rfl, (dU E1).2 2 _ rfl, (dU E1).2 3 _ rfl⟩
     have HYM : Hid (m.seen[k - es.length] ∈ es ∨ m.seen[k - es.length] ∈ m.seen) := .inr (List.getElem_mem hkn)
     have hkw : wrap64 ((k : Int) - (es.length : Int)) = ((k - es.length : Nat) : Int) := by unfold wrap64; omega
     have hki : ((k - es.length : Nat) : Int) < (m.seen.length : Int) := by omega
     have hkj : (k : Int) - (es.length : Int) = ((k - es.length : Nat) : Int) := by omega
     generalize m.seen[k - es.length] = y at *
     have HXB := dH (((((dU E1).put 0 (.int .i64 y.pl)).put 1 (.int .i64 y.wave)).put 2 (.bool y.hole)).put 3 (.string y.data)).bx
     have HWB := dH (((((dU B1).setCell (p := ⟨eb, 0, none⟩) hbe (.int .i64 y.pl)).setCell (p := ⟨eb, 1, none⟩) hbe (.int .i64 y.wave)).setCell (p := ⟨eb, 2, none⟩) hbe (.bool y.hole)).setCell (p := ⟨eb, 3, none⟩) hbe (.string y.data))
     clear hcl
     go_wp2
     go_meet
     case rel => exact ⟨y, HYM, HXB, HWB⟩
   case rest =>
    clear E1 B1
    obtain ⟨x, HXM, HXB, HWB⟩ := hcut
    generalize wc = wx at *
    obtain ⟨hxi, hxa⟩ := dU HALL x (dU HXM)
    have HXA := dH hxa
    have CEx := dH fun W => implEp_any x.pl hxi.1 hxi.2 W
    clear q0 q1 q2 q3 q4 q5 q6 q7 n0 n1 n2 n3 n4 n5 HXM hxa hxi
    obtain ⟨xp, xw, xh, xd⟩ := x
    simp only at HXB HXA CEx
    obtain ⟨⟨⟨q0, q1⟩, q2, q3, q4, q5, q6, q7⟩, n0, n1, n2, n3, n4, n5⟩ := dU PB wx (dU HWB)
    have e0 := dU HXB 0 _ rfl
    go_upto_region 17 with fail
    go_cut [13] (fun s13 wy => ∃ sb : Bool, s13 = .bool sb ∧ Hid (FlagP sb (epL xp ≠ m.epoch)) ∧ Hid (Below wx.heap.size wx wy))
    case first =>
     have bdr : Below wx.heap.size wx wx.drew := (Below.refl _ _).drew
     have HDW := dH (bT (dU HWB) bdr)
     have HBD := dH bdr
     have e0d := ((dU HXB).below bdr) 0 _ rfl
     have q3d := (dU PB wx.drew (dU HDW)).1.2.2.1
     clear bdr
     generalize epL xp = E at *
     have HF : Hid (FlagP (E != m.epoch) (E ≠ m.epoch)) := by show (E != m.epoch) = true ↔ _; simp
     clear HXA
     go_wp2_with fail
     go_region_with (go_at_call 10; refine (dU CEx _).mono ?_; rintro e wy ⟨rfl, hy⟩; have r1 := (dU PB wy (bT (dU HDW) hy)).1.2.2.1; have HY := dH (bT (dU HBD) hy); clear hy)
     all_goals
      go_wp2_with fail
      go_meet
      case rel => exact ⟨_, rfl, HF, HY⟩
    case rest =>
     obtain ⟨sb0, rfl, HS0, HY⟩ := hcut
     generalize wc = wy at *
     clear q0 q1 q2 q3 q4 q5 q6 q7 n0 n1 n2 n3 n4 n5 e0 CEx
     have HXY := dH ((dU HXB).below (dU HY))
     have HWY := dH (bT (dU HWB) (dU HY))
     clear HXB HWB HY
     obtain ⟨⟨⟨q0, q1⟩, q2, q3, q4, q5, q6, q7⟩, n0, n1, n2, n3, n4, n5⟩ := dU PB wy (dU HWY)
     go_wp2
     go_loopw [13, 14] (fun sv jv wq => ∃ (j : Nat) (sb : Bool), jv = .int .i64 (j : Int) ∧ sv = .bool sb ∧ j ≤ n.seen.length ∧ Hid (FlagP sb (epL xp ≠ m.epoch ∨ ∃ i, ∃ h : i < n.seen.length, i < j ∧ n.seen[i].pl = xp ∧ xw ≤ n.seen[i].wave)) ∧ Hid (Below wy.heap.size wy wq)) (fun _ jv _ => n.seen.length - (intOf jv).toNat)
     case atStart => exact ⟨0, sb0, rfl, rfl, Nat.zero_le _, (by have q : sb0 = true ↔ epL xp ≠ m.epoch := dU HS0; show sb0 = true ↔ _; rw [q]; exact ⟨.inl, fun h => h.resolve_right fun ⟨i, _, h, _⟩ => by omega⟩), Below.refl _ _⟩
     case round =>
      clear HS0 q0 q1 q2 q3 q4 q5 q6 q7 n0 n1 n2 n3 n4 n5
      obtain ⟨j, sb, rfl, rfl, hj, hsb, HQ⟩ := hrel
      have HBQ := dH (bT (dU HWY) (dU HQ))
      obtain ⟨⟨⟨q0, q1⟩, q2, q3, q4, q5, q6, q7⟩, n0, n1, n2, n3, n4, n5⟩ := dU PB _ (dU HBQ)
      have e0 := ((dU HXY).below (dU HQ)) 0 _ rfl
      have e1 := ((dU HXY).below (dU HQ)) 1 _ rfl
      by_cases hltj : (j : Int) < (n.seen.length : Int)
      ·have hjl : j < n.seen.length := by omega
       obtain ⟨sbb, so, rfl, hcs⟩ := (dU HNR _ (dU HBQ)).ent hjl
       obtain ⟨s0, s1, s2, s3⟩ := hcs j hjl
       have HST : Hid (∀ sb' : Bool, (sb' = true ↔ sb = true ∨ (n.seen[j].pl = xp ∧ xw ≤ n.seen[j].wave)) → FlagP sb' (epL xp ≠ m.epoch ∨ ∃ i, ∃ h : i < n.seen.length, i < j + 1 ∧ n.seen[i].pl = xp ∧ xw ≤ n.seen[i].wave)) := fun sb' h => by
        have hs' : sb = true ↔ _ := dU hsb
        show sb' = true ↔ _
        rw [h, hs']
        constructor
        ·rintro ((h | ⟨i, hi, h1, h2⟩) | h)
         ·exact .inl h
         ·exact .inr ⟨i, hi, by omega, h2⟩
         ·exact .inr ⟨j, hjl, by omega, h⟩
        ·rintro (h | ⟨i, hi, h1, h2⟩)
         ·exact .inl (.inl h)
         ·rcases Nat.lt_or_ge i j with h3 | h3
          ·exact .inl (.inr ⟨i, hi, h3, h2⟩)
          ·obtain rfl : i = j := by omega
           exact .inr h2
       clear hcs hsb HXA
       generalize n.seen[j] = y at *
       obtain ⟨yp, yw, yh, yd⟩ := y
       simp only at s0 s1 s2 s3 HST
       cases sb
       ·by_cases hyx : yp = xp
        ·by_cases hyw : xw ≤ yw
         ·have G1 := dH (dU HST true ⟨fun _ => .inr ⟨hyx, hyw⟩, fun _ => rfl⟩)
          have hyd : decide (xw ≤ yw) = true := decide_eq_true hyw
          clear HST
          subst hyx
          go_wp2
          go_quiet (fail)
          go_wp2
          go_roundw
          case rel => exact ⟨j + 1, true, by go_num, rfl, by omega, dU G1, below_drewN (dU HQ) _⟩
          case measure => simp [intOf]; omega
         ·have G1 := dH (dU HST false ⟨fun h => (by cases h), fun h => h.elim (fun h => (by cases h)) fun h => absurd h.2 hyw⟩)
          have hyd : decide (xw ≤ yw) = false := decide_eq_false hyw
          clear HST
          subst hyx
          go_wp2
          go_quiet (fail)
          go_wp2
          go_roundw
          case rel => exact ⟨j + 1, false, by go_num, rfl, by omega, dU G1, below_drewN (dU HQ) _⟩
          case measure => simp [intOf]; omega
        ·have G1 := dH (dU HST false ⟨fun h => (by cases h), fun h => h.elim (fun h => (by cases h)) fun h => absurd h.1 hyx⟩)
         have hyb : (yp == xp) = false := by simpa using hyx
         clear HST hyx
         go_wp2
         go_quiet (fail)
         go_wp2
         go_roundw
         case rel => exact ⟨j + 1, false, by go_num, rfl, by omega, dU G1, below_drewN (dU HQ) _⟩
         case measure => simp [intOf]; omega
       ·have G1 := dH (dU HST true ⟨fun _ => .inl rfl, fun _ => rfl⟩)
        clear HST
        go_wp2
        go_quiet (fail)
        go_wp2
        go_roundw
        case rel => exact ⟨j + 1, true, by go_num, rfl, by omega, dU G1, below_drewN (dU HQ) _⟩
        case measure => simp [intOf]; omega
      ·have hst : sb = true := by
        have hs' : sb = true ↔ _ := dU hsb
        rw [hs']
        rcases dU HXA with h | ⟨o, ho, h1, h2⟩
        ·exact .inl h
        ·obtain ⟨i, hi, rfl⟩ := List.getElem_of_mem ho
         exact .inr ⟨i, hi, by omega, h1, h2⟩
       subst hst
       clear hsb HXA
       go_wp2
       go_roundw
       case rel => exact ⟨k + 1, by go_num, by omega, dU HBQ⟩
       case measure => simp [intOf]; omega
  ·have CW1 := dH (dU CW wr (dU HB))
   have CM1 := dH (dU CM wr (dU HB))
   have HBW := dH (bT BB (dU HB))
   rw [dU HNP] at n4 CM1
   clear CW CM
   go_wp2_with fail
   refine (dU CW1).mono ?_
   rintro e w15 ⟨rfl, rfl⟩
   go_wp2_with fail
   refine (dU CM1).mono ?_
   rintro e w16 ⟨rfl, b16⟩
   have r4 := (dU PB w16 (bT (dU HB) b16)).2.2.2.2.2.1
   rw [dU HNP] at r4
   have BF := bT (dU HBW) b16
   clear PB HB HBW b16 q0 q1 q2 q3 q4 q5 q6 q7 n0 n1 n2 n3 n4 n5
   go_wp2
   go_ret
   exact ⟨rfl, BF⟩
end Go.Proofs.YtjkjmapibcfcdaaGreat
