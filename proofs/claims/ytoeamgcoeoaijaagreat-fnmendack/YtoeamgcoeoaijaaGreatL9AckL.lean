/- The walk of the law FnMendAck (printed by tools/mkl9a.py). -/
import Derived.Test.YtoeamgcoeoaijaaGreatMdH
import Derived.Test.YtoeamgcoeoaijaaGreatGz7
import Derived.Test.YtoeamgcoeoaijaaGreatMnN
import Derived.Test.YtoeamgcoeoaijaaGreatMnQ
import Derived.Test.YtoeamgcoeoaijaaGreatGw2
import Derived.Test.YtoeamgcoeoaijaaGreatGaT
import Derived.Test.YtoeamgcoeoaijaaGreatGx6
import Derived.Test.YtoeamgcoeoaijaaGreatGaA
import Derived.Deep.RegionHeld3
import Derived.Deep.DeepCutAuto
namespace Go.Proofs.YtoeamgcoeoaijaaGreat
open Go.ChangeShapes Go.WideShapes Go.ChangeAt Go.RowKit
set_option linter.unusedVariables false
set_option linter.unusedSimpArgs false
set_option maxRecDepth 100000

set_option maxHeartbeats 16000000 in
theorem walkFnMendAck (a0 : Option Addr) (len0 cap0 : Nat) (z0 : List Int) (w : World) (w0 : IsRow .u8 w a0 len0 cap0 z0) :
  Calls Tryz.prog 5 #[.slice a0 len0 cap0] w fun e w' => e = .returned (.bool true) ∧ Below w.heap.size w w' := by
 have hr := row8_of w0
 have hlen := hr.1
 clear w0
 by_cases hbig : 1048576 < len0
 ·have CB := dH (big_yes a0 len0 cap0 hbig hlen)
  go_enter Tryz.func5, Tryz.ntmps5
  go_wp2_with fail
  refine (dU CB _).mono ?_
  rintro e w1 ⟨rfl, rfl⟩
  go_wp2
  go_ret
  exact ⟨rfl, Below.refl _ _⟩
 have CB := dH (big_no a0 len0 cap0 hbig)
 have CD := dH fun W (hb : Below w.heap.size w W) => drawMendAck_any a0 len0 cap0 W (hr.below hb)
 have ba : ∀ (w : World) o, Below w.heap.size w (w.alloc o) := fun w o => (Below.refl _ _).alloc (Nat.le_refl _) o
 clear hbig hr
 go_enter Tryz.func5, Tryz.ntmps5
 go_wp2_with fail
 refine (dU CB _).mono ?_
 rintro e w1 ⟨rfl, rfl⟩
 clear CB
 go_wp2_with fail
 refine (dU CD _ (Below.refl _ _)).mono ?_
 rintro e w2 ⟨m, q, ca, cc, ds, cop, off, node, rfl, N2, R2, fit, ⟨hd1, hd2, hd3, hd4⟩, ho, hn, b2⟩
 obtain ⟨msa, msc, mea, mec, mwa, mwc⟩ := q
 simp only at R2
 have okm : okMend m := fit.1
 have hsm := fit.siz
 have okc : okConfig (ds, cop) := ⟨hd2, by simp only; omega, by simp only; omega⟩
 have hsc : sizConfig (ds, cop) ≤ 1048576 := by unfold sizConfig; simp only; omega
 have HC := dH fun W (hb : Below w2.heap.size w2 W) => (show RdConfig (.agg #[.slice ca ds.length cc, .int .i64 cop]) (ds, cop) W from ⟨_, rfl, N2.below hb⟩)
 have HM := dH fun W (hb : Below w2.heap.size w2 W) => R2.below hb
 have C3 := dH fun W (hb : Below w2.heap.size w2 W) => implMendOk_any (.agg #[.slice ca ds.length cc, .int .i64 cop]) (.agg #[.int .i64 m.bye, .int .i64 m.epoch, .slice msa m.sealed.length msc, .slice mea m.seen.length mec, .bool m.planned, .slice mwa m.wrote.length mwc]) (ds, cop) m W (dU HC W hb) (dU HM W hb) okc okm hsc hsm
 have C4 := dH fun W (hb : Below w2.heap.size w2 W) => specMendOk_any (.agg #[.slice ca ds.length cc, .int .i64 cop]) (.agg #[.int .i64 m.bye, .int .i64 m.epoch, .slice msa m.sealed.length msc, .slice mea m.seen.length mec, .bool m.planned, .slice mwa m.wrote.length mwc]) (ds, cop) m W (dU HC W hb) (dU HM W hb) okm.2.2.2.1
 simp only at C3 C4
 generalize mnP ds cop m = PMn at *
 have bX := bT (ba w2 (.cells #[.slice ca ds.length cc, .int .i64 cop] 26)) (ba _ (.cells #[.int .i64 m.bye, .int .i64 m.epoch, .slice msa m.sealed.length msc, .slice mea m.seen.length mec, .bool m.planned, .slice mwa m.wrote.length mwc] 30))
 have PS : Hid (∀ W, Below ((w2.alloc (.cells #[.slice ca ds.length cc, .int .i64 cop] 26)).alloc (.cells #[.int .i64 m.bye, .int .i64 m.epoch, .slice msa m.sealed.length msc, .slice mea m.seen.length mec, .bool m.planned, .slice mwa m.wrote.length mwc] 30)).heap.size ((w2.alloc (.cells #[.slice ca ds.length cc, .int .i64 cop] 26)).alloc (.cells #[.int .i64 m.bye, .int .i64 m.epoch, .slice msa m.sealed.length msc, .slice mea m.seen.length mec, .bool m.planned, .slice mwa m.wrote.length mwc] 30)) W → (W.cell? ⟨w2.heap.size, 0, none⟩ = some (.slice ca ds.length cc) ∧ W.cell? ⟨w2.heap.size, 1, none⟩ = some (.int .i64 cop)) ∧ W.cell? ⟨w2.heap.size + 1, 0, none⟩ = some (.int .i64 m.bye) ∧ W.cell? ⟨w2.heap.size + 1, 1, none⟩ = some (.int .i64 m.epoch) ∧ W.cell? ⟨w2.heap.size + 1, 2, none⟩ = some (.slice msa m.sealed.length msc) ∧ W.cell? ⟨w2.heap.size + 1, 3, none⟩ = some (.slice mea m.seen.length mec) ∧ W.cell? ⟨w2.heap.size + 1, 4, none⟩ = some (.bool m.planned) ∧ W.cell? ⟨w2.heap.size + 1, 5, none⟩ = some (.slice mwa m.wrote.length mwc)) := fun W hW => by
  have x := ((Bx.new w2 [.slice ca ds.length cc, .int .i64 cop] 26).below (ba _ (.cells #[.int .i64 m.bye, .int .i64 m.epoch, .slice msa m.sealed.length msc, .slice mea m.seen.length mec, .bool m.planned, .slice mwa m.wrote.length mwc] 30))).below hW
  have y := Bx.new (w2.alloc (.cells #[.slice ca ds.length cc, .int .i64 cop] 26)) [.int .i64 m.bye, .int .i64 m.epoch, .slice msa m.sealed.length msc, .slice mea m.seen.length mec, .bool m.planned, .slice mwa m.wrote.length mwc] 30
  rw [show (w2.alloc (.cells #[.slice ca ds.length cc, .int .i64 cop] 26)).heap.size = w2.heap.size + 1 from by simp] at y
  replace y := y.below hW
  exact ⟨⟨x 0 _ rfl, x 1 _ rfl⟩, y 0 _ rfl, y 1 _ rfl, y 2 _ rfl, y 3 _ rfl, y 4 _ rfl, y 5 _ rfl⟩
 clear HC HM N2 R2 fit okm hsm okc hsc hd1 hd2 hd3 hd4 ho hn
 go_upto_region 4 with fail
 generalize ((w2.alloc (.cells #[.slice ca ds.length cc, .int .i64 cop] 26)).alloc (.cells #[.int .i64 m.bye, .int .i64 m.epoch, .slice msa m.sealed.length msc, .slice mea m.seen.length mec, .bool m.planned, .slice mwa m.wrote.length mwc] 30)) = w3 at *
 have bdr : Below w3.heap.size w3 w3.drew := (Below.refl _ _).drew
 obtain ⟨⟨q0, q1⟩, q2, q3, q4, q5, q6, q7⟩ := dU PS w3 (Below.refl _ _)
 go_wp2_with fail
 go_cut [34] (fun s wx => s = .bool false ∧ Below w3.heap.size w3 wx)
 case first =>
  go_region_held3 (fun W => (W.cell? ⟨w2.heap.size, 0, none⟩ = some (.slice ca ds.length cc) ∧ W.cell? ⟨w2.heap.size, 1, none⟩ = some (.int .i64 cop)) ∧ W.cell? ⟨w2.heap.size + 1, 0, none⟩ = some (.int .i64 m.bye) ∧ W.cell? ⟨w2.heap.size + 1, 1, none⟩ = some (.int .i64 m.epoch) ∧ W.cell? ⟨w2.heap.size + 1, 2, none⟩ = some (.slice msa m.sealed.length msc) ∧ W.cell? ⟨w2.heap.size + 1, 3, none⟩ = some (.slice mea m.seen.length mec) ∧ W.cell? ⟨w2.heap.size + 1, 4, none⟩ = some (.bool m.planned) ∧ W.cell? ⟨w2.heap.size + 1, 5, none⟩ = some (.slice mwa m.wrote.length mwc)) (first | exact dU PS _ c7 | exact dU PS _ c6 | exact dU PS _ bdr | go_keep)
   (first
    | (go_at_call 14; refine (dU C3 _ (bT bX bdr)).mono ?_; rintro e w6 ⟨⟨bm, rfl, h6⟩, b6⟩; have HB6 := dH h6; have c6 := bT bdr b6; clear h6 b6)
    | (go_at_call 22; refine (dU C4 _ (bT bX c6)).mono ?_; rintro e w7 ⟨⟨bm2, rfl, h7⟩, b7⟩; have ebm : bm = bm2 := bEq (dU HB6) h7; subst ebm; have c7 := bT c6 b7; have hne1 : (bm != bm) = false := (by simp); clear h7 b7))
  all_goals
   go_wp2_with fail
   go_meet
   case rel => exact ⟨rfl, c7⟩
 case rest =>
 obtain ⟨rfl, bc⟩ := hcut
 have B5 := bT b2 (bT bX bc)
 generalize wc = w5 at *
 clear C3 C4 PS bX bdr q0 q1 q2 q3 q4 q5 q6 q7 bc b2 PMn
 go_wp2_with fail
 refine (dU CD _ B5).mono ?_
 rintro e w6 ⟨m, q, ca, cc, ds, cop, off, node, rfl, N6, R6, fit, ⟨hd1, hd2, hd3, hd4⟩, ho, hn, b6⟩
 have B6 := bT B5 b6
 clear CD B5 b6
 obtain ⟨msa, msc, mea, mec, mwa, mwc⟩ := q
 simp only at R6
 have okm : okMend m := fit.1
 have hsm := fit.siz
 have okc : okConfig (ds, cop) := ⟨hd2, by simp only; omega, by simp only; omega⟩
 have hsc : sizConfig (ds, cop) ≤ 1048576 := by unfold sizConfig; simp only; omega
 have HC := dH fun W (hb : Below w6.heap.size w6 W) => (show RdConfig (.agg #[.slice ca ds.length cc, .int .i64 cop]) (ds, cop) W from ⟨_, rfl, N6.below hb⟩)
 have HM := dH fun W (hb : Below w6.heap.size w6 W) => R6.below hb
 have okx : okInt node := ⟨by omega, by omega⟩
 have C1 := dH fun W (hb : Below w6.heap.size w6 W) => implAck9_any (.agg #[.slice ca ds.length cc, .int .i64 cop]) (.agg #[.int .i64 m.bye, .int .i64 m.epoch, .slice msa m.sealed.length msc, .slice mea m.seen.length mec, .bool m.planned, .slice mwa m.wrote.length mwc]) (ds, cop) m off node W (dU HC W hb) (dU HM W hb) okc okm okx hsc hsm
 have C2 := dH fun W (hb : Below w6.heap.size w6 W) => specAck9_any (.agg #[.slice ca ds.length cc, .int .i64 cop]) (.agg #[.int .i64 m.bye, .int .i64 m.epoch, .slice msa m.sealed.length msc, .slice mea m.seen.length mec, .bool m.planned, .slice mwa m.wrote.length mwc]) (ds, cop) m off node W (dU HC W hb) (dU HM W hb) okm.2.2.2.1 hsm hsc
 simp only at C1 C2
 have HA : Hid (((ack9M ds cop m off node).2 = true ∧ mnP ds cop m ∧ ack9P ds m off node ∧ (ack9M ds cop m off node).1 = ack9W m off node) ∨ ((ack9M ds cop m off node).2 = false ∧ ((ack9M ds cop m off node).1 = m ∨ (ack9M ds cop m off node).1 = zeroMn))) := by
  rw [Hid]
  by_cases h1 : mnP ds cop m
  ·by_cases h2 : ack9P ds m off node
   ·rw [ack9M_yes h1 h2]; exact .inl ⟨rfl, h1, h2, rfl⟩
   ·rw [ack9M_no h1 h2]; exact .inr ⟨rfl, .inl rfl⟩
  ·rw [ack9M_bad h1]; exact .inr ⟨rfl, .inr rfl⟩
 generalize (ack9M ds cop m off node).1 = n at *
 generalize (ack9M ds cop m off node).2 = okk at *
 have bX := bT (ba w6 (.cells #[.slice ca ds.length cc, .int .i64 cop] 26)) (ba _ (.cells #[.int .i64 m.bye, .int .i64 m.epoch, .slice msa m.sealed.length msc, .slice mea m.seen.length mec, .bool m.planned, .slice mwa m.wrote.length mwc] 30))
 have PS : Hid (∀ W, Below ((w6.alloc (.cells #[.slice ca ds.length cc, .int .i64 cop] 26)).alloc (.cells #[.int .i64 m.bye, .int .i64 m.epoch, .slice msa m.sealed.length msc, .slice mea m.seen.length mec, .bool m.planned, .slice mwa m.wrote.length mwc] 30)).heap.size ((w6.alloc (.cells #[.slice ca ds.length cc, .int .i64 cop] 26)).alloc (.cells #[.int .i64 m.bye, .int .i64 m.epoch, .slice msa m.sealed.length msc, .slice mea m.seen.length mec, .bool m.planned, .slice mwa m.wrote.length mwc] 30)) W → (W.cell? ⟨w6.heap.size, 0, none⟩ = some (.slice ca ds.length cc) ∧ W.cell? ⟨w6.heap.size, 1, none⟩ = some (.int .i64 cop)) ∧ W.cell? ⟨w6.heap.size + 1, 0, none⟩ = some (.int .i64 m.bye) ∧ W.cell? ⟨w6.heap.size + 1, 1, none⟩ = some (.int .i64 m.epoch) ∧ W.cell? ⟨w6.heap.size + 1, 2, none⟩ = some (.slice msa m.sealed.length msc) ∧ W.cell? ⟨w6.heap.size + 1, 3, none⟩ = some (.slice mea m.seen.length mec) ∧ W.cell? ⟨w6.heap.size + 1, 4, none⟩ = some (.bool m.planned) ∧ W.cell? ⟨w6.heap.size + 1, 5, none⟩ = some (.slice mwa m.wrote.length mwc)) := fun W hW => by
  have x := ((Bx.new w6 [.slice ca ds.length cc, .int .i64 cop] 26).below (ba _ (.cells #[.int .i64 m.bye, .int .i64 m.epoch, .slice msa m.sealed.length msc, .slice mea m.seen.length mec, .bool m.planned, .slice mwa m.wrote.length mwc] 30))).below hW
  have y := Bx.new (w6.alloc (.cells #[.slice ca ds.length cc, .int .i64 cop] 26)) [.int .i64 m.bye, .int .i64 m.epoch, .slice msa m.sealed.length msc, .slice mea m.seen.length mec, .bool m.planned, .slice mwa m.wrote.length mwc] 30
  rw [show (w6.alloc (.cells #[.slice ca ds.length cc, .int .i64 cop] 26)).heap.size = w6.heap.size + 1 from by simp] at y
  replace y := y.below hW
  exact ⟨⟨x 0 _ rfl, x 1 _ rfl⟩, y 0 _ rfl, y 1 _ rfl, y 2 _ rfl, y 3 _ rfl, y 4 _ rfl, y 5 _ rfl⟩
 have HFD := dH (show ds.length ≤ 9 ∧ allInt ds ∧ 0 ≤ cop ∧ cop ≤ 5 from ⟨hd1, hd2, hd3, hd4⟩)
 have HN6 := dH fun W (hb : Below w6.heap.size w6 W) => N6.below hb
 clear HM N6 R6 fit okm hsm hd1 hd2 hd3 hd4
 go_upto_region 7 with fail
 generalize ((w6.alloc (.cells #[.slice ca ds.length cc, .int .i64 cop] 26)).alloc (.cells #[.int .i64 m.bye, .int .i64 m.epoch, .slice msa m.sealed.length msc, .slice mea m.seen.length mec, .bool m.planned, .slice mwa m.wrote.length mwc] 30)) = w7 at *
 obtain ⟨⟨q0, q1⟩, q2, q3, q4, q5, q6, q7⟩ := dU PS w7 (Below.refl _ _)
 go_wp2_with fail
 refine (dU C1 _ bX).mono ?_
 rintro e w8 ⟨⟨u, rfl, O8⟩, b8⟩
 have R8 := O8.rd
 obtain ⟨nsa, nsc, nea, nec, nwa, nwc, rfl, -, -, -⟩ := formMend R8
 have X8 := Bx.new w8 [.int .i64 n.bye, .int .i64 n.epoch, .slice nsa n.sealed.length nsc, .slice nea n.seen.length nec, .bool n.planned, .slice nwa n.wrote.length nwc] 30
 have b9 := ba w8 (.cells #[.int .i64 n.bye, .int .i64 n.epoch, .slice nsa n.sealed.length nsc, .slice nea n.seen.length nec, .bool n.planned, .slice nwa n.wrote.length nwc] 30)
 have R9 := R8.below b9
 have b79 := bT b8 b9
 clear C1 O8 R8 q0 q1 q2 q3 q4 q5 q6 q7 b8 b9
 obtain ⟨⟨q0, q1⟩, q2, q3, q4, q5, q6, q7⟩ := dU PS _ b79
 go_wp2_with fail
 generalize hbn : w8.heap.size = bn at *
 generalize w8.alloc (.cells #[.int .i64 n.bye, .int .i64 n.epoch, .slice nsa n.sealed.length nsc, .slice nea n.seen.length nec, .bool n.planned, .slice nwa n.wrote.length nwc] 30) = w9 at *
 clear hbn
 refine (dU C2 _ (bT bX b79)).mono ?_
 rintro e w10 ⟨⟨u, rfl, O10⟩, b10⟩
 obtain ⟨vsa, vsc, vea, vec, vwa, vwc, rfl, -, -, -⟩ := formMend O10.rd
 have b11 := bT b10 (ba w10 (.cells #[.int .i64 n.bye, .int .i64 n.epoch, .slice vsa n.sealed.length vsc, .slice vea n.seen.length vec, .bool n.planned, .slice vwa n.wrote.length vwc] 30))
 have b7b := bT b79 b11
 have PB : Hid (∀ W, Below (w10.alloc (.cells #[.int .i64 n.bye, .int .i64 n.epoch, .slice vsa n.sealed.length vsc, .slice vea n.seen.length vec, .bool n.planned, .slice vwa n.wrote.length vwc] 30)).heap.size (w10.alloc (.cells #[.int .i64 n.bye, .int .i64 n.epoch, .slice vsa n.sealed.length vsc, .slice vea n.seen.length vec, .bool n.planned, .slice vwa n.wrote.length vwc] 30)) W → ((W.cell? ⟨w6.heap.size, 0, none⟩ = some (.slice ca ds.length cc) ∧ W.cell? ⟨w6.heap.size, 1, none⟩ = some (.int .i64 cop)) ∧ W.cell? ⟨w6.heap.size + 1, 0, none⟩ = some (.int .i64 m.bye) ∧ W.cell? ⟨w6.heap.size + 1, 1, none⟩ = some (.int .i64 m.epoch) ∧ W.cell? ⟨w6.heap.size + 1, 2, none⟩ = some (.slice msa m.sealed.length msc) ∧ W.cell? ⟨w6.heap.size + 1, 3, none⟩ = some (.slice mea m.seen.length mec) ∧ W.cell? ⟨w6.heap.size + 1, 4, none⟩ = some (.bool m.planned) ∧ W.cell? ⟨w6.heap.size + 1, 5, none⟩ = some (.slice mwa m.wrote.length mwc)) ∧ W.cell? ⟨bn, 0, none⟩ = some (.int .i64 n.bye) ∧ W.cell? ⟨bn, 1, none⟩ = some (.int .i64 n.epoch) ∧ W.cell? ⟨bn, 2, none⟩ = some (.slice nsa n.sealed.length nsc) ∧ W.cell? ⟨bn, 3, none⟩ = some (.slice nea n.seen.length nec) ∧ W.cell? ⟨bn, 4, none⟩ = some (.bool n.planned) ∧ W.cell? ⟨bn, 5, none⟩ = some (.slice nwa n.wrote.length nwc)) := fun W hW => by
  have x := (X8.below b11).below hW
  exact ⟨dU PS W (bT b7b hW), x 0 _ rfl, x 1 _ rfl, x 2 _ rfl, x 3 _ rfl, x 4 _ rfl, x 5 _ rfl⟩
 have R11 := R9.below b11
 have BB := bT B6 (bT bX b7b)
 have B67 := bT bX b7b
 have hne : (okk != okk) = false := by simp
 clear C2 O10 q0 q1 q2 q3 q4 q5 q6 q7 b10 b11 b7b b79 PS X8 R9 bX
 obtain ⟨⟨⟨q0, q1⟩, q2, q3, q4, q5, q6, q7⟩, n0, n1, n2, n3, n4, n5⟩ := dU PB _ (Below.refl _ _)
 generalize hwb : w10.alloc (.cells #[.int .i64 n.bye, .int .i64 n.epoch, .slice vsa n.sealed.length vsc, .slice vea n.seen.length vec, .bool n.planned, .slice vwa n.wrote.length vwc] 30) = wb at *
 rcases dU HA with ⟨rfl, hmn, hap, hnn⟩ | ⟨rfl, hnn⟩
 case inr =>
  have hd : ((n.wrote.length : Int) == (m.wrote.length : Int)) = true ∨ (((n.wrote.length : Int) == (m.wrote.length : Int)) = false ∧ ((n.wrote.length : Int) == 0) = true) := by
   rcases hnn with h | h
   ·left; rw [h]; simp
   ·by_cases h0 : m.wrote.length = 0
    ·left; rw [h, h0]; rfl
    ·right
     rw [h]
     refine ⟨?_, rfl⟩
     have : ¬ ((zeroMn.wrote.length : Int) = (m.wrote.length : Int)) := by show ¬ ((0 : Nat) : Int) = _; omega
     simpa using this
  clear HA hnn PB
  rcases hd with hd | ⟨hd, hd2⟩
  ·go_wp2_with fail
   rw [hwb] at *
   go_wp2
   go_ret
   exact ⟨rfl, BB⟩
  ·go_wp2_with fail
   rw [hwb] at *
   go_wp2
   go_ret
   exact ⟨rfl, BB⟩
 case inl =>
 clear HA
 have hmN : mnP ds cop n := by rw [hnn]; exact ack9_mn hmn hap
 have fN := hmN.fit
 have hmG := forg9_mn (x := node) hmN
 have fG := hmG.fit
 have okN : okMend n := fN.1
 have hsN := fN.siz
 have CF := dH fun W (hb : Below wb.heap.size wb W) => implForget9_any (.agg #[.slice ca ds.length cc, .int .i64 cop]) (.agg #[.int .i64 n.bye, .int .i64 n.epoch, .slice nsa n.sealed.length nsc, .slice nea n.seen.length nec, .bool n.planned, .slice nwa n.wrote.length nwc]) (ds, cop) n node W (dU HC W (bT B67 hb)) (R11.below hb) okc okN hsc hsN
 simp only at CF
 rw [forg9M_yes hmN] at CF
 simp only at CF
 have CR := dH fun W (hb : Below wb.heap.size wb W) => implReady_any (.agg #[.slice ca ds.length cc, .int .i64 cop]) (.agg #[.int .i64 n.bye, .int .i64 n.epoch, .slice nsa n.sealed.length nsc, .slice nea n.seen.length nec, .bool n.planned, .slice nwa n.wrote.length nwc]) (ds, cop) n W (dU HC W (bT B67 hb)) (R11.below hb) okc okN hsc hsN
 obtain ⟨sv', ev', wv', ew, -, -, rn, ern, hrwn, hrnn⟩ := id R11
 simp only [Value.agg.injEq, Array.mk.injEq, List.cons.injEq, and_true, true_and] at ew
 obtain ⟨-, -, rfl⟩ := ew
 have hln : rn.length = n.wrote.length := by rw [← ern, List.length_map]
 have HRN := dH fun W (hb : Below wb.heap.size wb W) => hrwn.below hb
 have CH0 : Hid (∀ W, Below wb.heap.size wb W → ∀ k (hk : k < rn.length), Calls Tryz.prog 26 #[.agg #[.slice ca ds.length cc, .int .i64 cop], .slice rn[k].a rn[k].m.length rn[k].c] W fun e w' => RetB (holdsP ds cop rn[k].m) e ∧ Below W.heap.size W w') := fun W hb k hk => by
  have hmem : rn[k].m ∈ n.wrote := by rw [← ern]; exact List.mem_map.2 ⟨_, List.getElem_mem hk, rfl⟩
  have h21 := fN.2.2.2.2 _ hmem
  obtain ⟨d1, d2, d3, d4⟩ := dU HFD
  exact implHolds_any _ (Sv idL rn[k]) ds rn[k].m cop W (dU HN6 W (bT B67 hb)) ((hrnn _ (List.getElem_mem hk)).below hb) d2 (okN.2.2.2.2 _ hmem) (by omega) (by omega) (by omega) (by omega)
 have PR : Hid (rdyP ds cop n ↔ (n.planned = true ∧ ∀ i (h : i < rn.length), holdsP ds cop rn[i].m)) := by
  unfold rdyP Hid
  rw [← ern]
  constructor
  ·rintro ⟨h1, h2, h3⟩
   exact ⟨h2, fun i hi => h3 _ (List.mem_map.2 ⟨_, List.getElem_mem hi, rfl⟩)⟩
  ·rintro ⟨h2, h3⟩
   refine ⟨hmN, h2, fun l hl => ?_⟩
   obtain ⟨p, hp, rfl⟩ := List.mem_map.1 hl
   obtain ⟨i, hi, rfl⟩ := List.getElem_of_mem hp
   exact h3 i hi
 obtain ⟨ko, rfl⟩ : ∃ ko : Nat, off = (ko : Int) + 1 := ⟨off.toNat - 1, by have := hap.1; omega⟩
 have hnw : n.wrote = m.wrote.set ko (putL node (m.wrote.getD ko [])) := by
  rw [hnn]
  show m.wrote.set (((ko : Int) + 1).toNat - 1) (putL node (m.wrote.getD (((ko : Int) + 1).toNat - 1) [])) = _
  rw [show ((ko : Int) + 1).toNat - 1 = ko by omega]
 have hko : ko < rn.length := by
  rw [hln, hnw, List.length_set]
  have := hap.1
  omega
 have hkn : node ∈ rn[ko].m := by
  have h1 : n.wrote[ko]? = some rn[ko].m := by rw [← ern, List.getElem?_map, List.getElem?_eq_getElem hko]; rfl
  have h2 : ko < m.wrote.length := by have := hap.1; omega
  rw [hnw, List.getElem?_set_self h2] at h1
  rw [← Option.some.inj h1]
  exact mem_putL.2 (.inl rfl)
 have CWo : Hid (∀ W, Below wb.heap.size wb W → ∀ (hko : ko < rn.length), Calls Tryz.prog 13 #[.slice rn[ko].a rn[ko].m.length rn[ko].c, .int .i64 node] W fun e w' => e = .returned (.bool true) ∧ w' = W) := fun W hb _ => by
  refine (within_any (Sv idL rn[ko]) rn[ko].m node W ((hrnn _ (List.getElem_mem hko)).below hb)).mono ?_
  rintro e w' ⟨⟨bb, rfl, h1⟩, h2⟩
  rw [h1.2 hkn]
  exact ⟨rfl, h2⟩
 have hsl : n.seen.length = m.seen.length := by rw [hnn]; rfl
 generalize hg : forg9W n node = g at *
 have hgw : g.wrote = n.wrote.map fun l => lessL l [node] := by rw [← hg]; rfl
 have hgs : g.seen.length = m.seen.length := by rw [← hg]; exact hsl
 have HKo := dH hko
 have HWL : Hid (n.wrote.length ≤ 1048576) := by have h1 := hsN; unfold sizMend sizIntSS at h1; show n.wrote.length ≤ 1048576; omega
 have HEN := dH ern
 have HLN := dH hln
 have HGW := dH hgw
 have HGS := dH hgs
 have HSN := dH (⟨hmn, hap, hmN, fN, hmG, fG⟩ : _ ∧ _ ∧ _ ∧ _ ∧ _ ∧ _)
 clear hnn hnw hkn hsl hg hgw hgs hmn hap hmN fN hmG fG okN hsN hln hko ern hrwn hrnn R11 okx
 go_wp2_with fail
 rw [hwb] at *
 go_wp2_with fail
 refine (dU CF _ (Below.refl _ _)).mono ?_
 rintro e w12 ⟨⟨u, rfl, O12⟩, b12⟩
 have R12 := O12.rd
 obtain ⟨gsa, gsc, gea, gec, gwa, gwc, rfl, -, -, -⟩ := formMend R12
 have X12 := Bx.new w12 [.int .i64 g.bye, .int .i64 g.epoch, .slice gsa g.sealed.length gsc, .slice gea g.seen.length gec, .bool g.planned, .slice gwa g.wrote.length gwc] 30
 have b13 := ba w12 (.cells #[.int .i64 g.bye, .int .i64 g.epoch, .slice gsa g.sealed.length gsc, .slice gea g.seen.length gec, .bool g.planned, .slice gwa g.wrote.length gwc] 30)
 have R13 := R12.below b13
 have Bb := bT b12 b13
 have PD : Hid (∀ W, Below (w12.alloc (.cells #[.int .i64 g.bye, .int .i64 g.epoch, .slice gsa g.sealed.length gsc, .slice gea g.seen.length gec, .bool g.planned, .slice gwa g.wrote.length gwc] 30)).heap.size (w12.alloc (.cells #[.int .i64 g.bye, .int .i64 g.epoch, .slice gsa g.sealed.length gsc, .slice gea g.seen.length gec, .bool g.planned, .slice gwa g.wrote.length gwc] 30)) W → (((W.cell? ⟨w6.heap.size, 0, none⟩ = some (.slice ca ds.length cc) ∧ W.cell? ⟨w6.heap.size, 1, none⟩ = some (.int .i64 cop)) ∧ W.cell? ⟨w6.heap.size + 1, 0, none⟩ = some (.int .i64 m.bye) ∧ W.cell? ⟨w6.heap.size + 1, 1, none⟩ = some (.int .i64 m.epoch) ∧ W.cell? ⟨w6.heap.size + 1, 2, none⟩ = some (.slice msa m.sealed.length msc) ∧ W.cell? ⟨w6.heap.size + 1, 3, none⟩ = some (.slice mea m.seen.length mec) ∧ W.cell? ⟨w6.heap.size + 1, 4, none⟩ = some (.bool m.planned) ∧ W.cell? ⟨w6.heap.size + 1, 5, none⟩ = some (.slice mwa m.wrote.length mwc)) ∧ W.cell? ⟨bn, 0, none⟩ = some (.int .i64 n.bye) ∧ W.cell? ⟨bn, 1, none⟩ = some (.int .i64 n.epoch) ∧ W.cell? ⟨bn, 2, none⟩ = some (.slice nsa n.sealed.length nsc) ∧ W.cell? ⟨bn, 3, none⟩ = some (.slice nea n.seen.length nec) ∧ W.cell? ⟨bn, 4, none⟩ = some (.bool n.planned) ∧ W.cell? ⟨bn, 5, none⟩ = some (.slice nwa n.wrote.length nwc)) ∧ W.cell? ⟨w12.heap.size, 0, none⟩ = some (.int .i64 g.bye) ∧ W.cell? ⟨w12.heap.size, 1, none⟩ = some (.int .i64 g.epoch) ∧ W.cell? ⟨w12.heap.size, 2, none⟩ = some (.slice gsa g.sealed.length gsc) ∧ W.cell? ⟨w12.heap.size, 3, none⟩ = some (.slice gea g.seen.length gec) ∧ W.cell? ⟨w12.heap.size, 4, none⟩ = some (.bool g.planned) ∧ W.cell? ⟨w12.heap.size, 5, none⟩ = some (.slice gwa g.wrote.length gwc)) := fun W hW => by
  have x := X12.below hW
  exact ⟨dU PB W (bT Bb hW), x 0 _ rfl, x 1 _ rfl, x 2 _ rfl, x 3 _ rfl, x 4 _ rfl, x 5 _ rfl⟩
 have CRr := dH fun W (hW : Below (w12.alloc (.cells #[.int .i64 g.bye, .int .i64 g.epoch, .slice gsa g.sealed.length gsc, .slice gea g.seen.length gec, .bool g.planned, .slice gwa g.wrote.length gwc] 30)).heap.size (w12.alloc (.cells #[.int .i64 g.bye, .int .i64 g.epoch, .slice gsa g.sealed.length gsc, .slice gea g.seen.length gec, .bool g.planned, .slice gwa g.wrote.length gwc] 30)) W) => dU CR W (bT Bb hW)
 have CHr := dH fun W (hW : Below (w12.alloc (.cells #[.int .i64 g.bye, .int .i64 g.epoch, .slice gsa g.sealed.length gsc, .slice gea g.seen.length gec, .bool g.planned, .slice gwa g.wrote.length gwc] 30)).heap.size (w12.alloc (.cells #[.int .i64 g.bye, .int .i64 g.epoch, .slice gsa g.sealed.length gsc, .slice gea g.seen.length gec, .bool g.planned, .slice gwa g.wrote.length gwc] 30)) W) => dU CH0 W (bT Bb hW)
 have CWr := dH fun W (hW : Below (w12.alloc (.cells #[.int .i64 g.bye, .int .i64 g.epoch, .slice gsa g.sealed.length gsc, .slice gea g.seen.length gec, .bool g.planned, .slice gwa g.wrote.length gwc] 30)).heap.size (w12.alloc (.cells #[.int .i64 g.bye, .int .i64 g.epoch, .slice gsa g.sealed.length gsc, .slice gea g.seen.length gec, .bool g.planned, .slice gwa g.wrote.length gwc] 30)) W) => dU CWo W (bT Bb hW)
 have HRr := dH fun W (hW : Below (w12.alloc (.cells #[.int .i64 g.bye, .int .i64 g.epoch, .slice gsa g.sealed.length gsc, .slice gea g.seen.length gec, .bool g.planned, .slice gwa g.wrote.length gwc] 30)).heap.size (w12.alloc (.cells #[.int .i64 g.bye, .int .i64 g.epoch, .slice gsa g.sealed.length gsc, .slice gea g.seen.length gec, .bool g.planned, .slice gwa g.wrote.length gwc] 30)) W) => dU HRN W (bT Bb hW)
 have HCr := dH fun W (hW : Below (w12.alloc (.cells #[.int .i64 g.bye, .int .i64 g.epoch, .slice gsa g.sealed.length gsc, .slice gea g.seen.length gec, .bool g.planned, .slice gwa g.wrote.length gwc] 30)).heap.size (w12.alloc (.cells #[.int .i64 g.bye, .int .i64 g.epoch, .slice gsa g.sealed.length gsc, .slice gea g.seen.length gec, .bool g.planned, .slice gwa g.wrote.length gwc] 30)) W) => dU HC W (bT (bT B67 Bb) hW)
 have B13 := bT BB Bb
 have CM : Hid (∀ W, Below (w12.alloc (.cells #[.int .i64 g.bye, .int .i64 g.epoch, .slice gsa g.sealed.length gsc, .slice gea g.seen.length gec, .bool g.planned, .slice gwa g.wrote.length gwc] 30)).heap.size (w12.alloc (.cells #[.int .i64 g.bye, .int .i64 g.epoch, .slice gsa g.sealed.length gsc, .slice gea g.seen.length gec, .bool g.planned, .slice gwa g.wrote.length gwc] 30)) W → Calls Tryz.prog 14 #[.agg #[.slice ca ds.length cc, .int .i64 cop], .agg #[.int .i64 g.bye, .int .i64 g.epoch, .slice gsa g.sealed.length gsc, .slice gea g.seen.length gec, .bool g.planned, .slice gwa g.wrote.length gwc]] W fun e w' => e = .returned (.bool true) ∧ Below W.heap.size W w') := fun W hW => by
  obtain ⟨-, -, -, -, mG, fG⟩ := dU HSN
  refine (implMendOk_any (.agg #[.slice ca ds.length cc, .int .i64 cop]) (.agg #[.int .i64 g.bye, .int .i64 g.epoch, .slice gsa g.sealed.length gsc, .slice gea g.seen.length gec, .bool g.planned, .slice gwa g.wrote.length gwc]) (ds, cop) g W (dU HCr W hW) (R13.below hW) okc fG.1 hsc fG.siz).mono ?_
  rintro e w' ⟨⟨bb, rfl, h1⟩, h2⟩
  rw [h1.2 mG]
  exact ⟨rfl, h2⟩
 obtain ⟨sv', ev', wv', ew, -, -, rg, erg, hrwg, hrng⟩ := R13
 simp only [Value.agg.injEq, Array.mk.injEq, List.cons.injEq, and_true, true_and] at ew
 obtain ⟨-, -, rfl⟩ := ew
 have hlg : rg.length = n.wrote.length := by
  have h1 := congrArg List.length erg
  rw [dU HGW, List.length_map, List.length_map] at h1
  exact h1
 have HRG := dH fun W (hb : Below (w12.alloc (.cells #[.int .i64 g.bye, .int .i64 g.epoch, .slice gsa g.sealed.length gsc, .slice gea g.seen.length gec, .bool g.planned, .slice gwa g.wrote.length gwc] 30)).heap.size (w12.alloc (.cells #[.int .i64 g.bye, .int .i64 g.epoch, .slice gsa g.sealed.length gsc, .slice gea g.seen.length gec, .bool g.planned, .slice gwa g.wrote.length gwc] 30)) W) => hrwg.below hb
 have HGk : Hid (∀ k (hk : k < rg.length) (hk' : k < rn.length), rg[k].m = lessL rn[k].m [node]) := fun k hk hk' => by
  have h1 : (rg.map Nst.m)[k]? = some rg[k].m := by rw [List.getElem?_map, List.getElem?_eq_getElem hk]; rfl
  have h2 : (rn.map Nst.m)[k]? = some rn[k].m := by rw [List.getElem?_map, List.getElem?_eq_getElem hk']; rfl
  rw [erg, dU HGW, List.getElem?_map, ← dU HEN, h2] at h1
  exact (Option.some.inj h1).symm
 have CG : Hid (∀ W, Below (w12.alloc (.cells #[.int .i64 g.bye, .int .i64 g.epoch, .slice gsa g.sealed.length gsc, .slice gea g.seen.length gec, .bool g.planned, .slice gwa g.wrote.length gwc] 30)).heap.size (w12.alloc (.cells #[.int .i64 g.bye, .int .i64 g.epoch, .slice gsa g.sealed.length gsc, .slice gea g.seen.length gec, .bool g.planned, .slice gwa g.wrote.length gwc] 30)) W → ∀ k (hk : k < rg.length) (hk' : k < rn.length), Calls Tryz.prog 13 #[.slice rg[k].a rg[k].m.length rg[k].c, .int .i64 node] W fun e w' => e = .returned (.bool false) ∧ w' = W) := fun W hb k hk hk' => by
  refine (within_any (Sv idL rg[k]) rg[k].m node W ((hrng _ (List.getElem_mem hk)).below hb)).mono ?_
  rintro e w' ⟨⟨bb, rfl, h1⟩, h2⟩
  have h3 : ¬ node ∈ rg[k].m := by
   rw [dU HGk k hk hk', mem_lessL]
   rintro ⟨-, h⟩
   exact h (by simp)
  have h4 : bb = false := by
   cases bb
   ·rfl
   ·exact absurd (h1.1 rfl) h3
  rw [h4]
  exact ⟨rfl, h2⟩
 have HLG := dH hlg
 clear CF CR CH0 CWo HRN PB O12 R12 X12 b12 b13 hlg hrwg hrng erg HCr q0 q1 q2 q3 q4 q5 q6 q7 n0 n1 n2 n3 n4 n5
 obtain ⟨⟨⟨⟨q0, q1⟩, q2, q3, q4, q5, q6, q7⟩, n0, n1, n2, n3, n4, n5⟩, g0, g1, g2, g3, g4, g5⟩ := dU PD _ (Below.refl _ _)
 have I0 : Hid (n.planned = true ↔ (n.planned = true ∧ ∀ i (h : i < rn.length), i < 0 → holdsP ds cop rn[i].m)) := ⟨fun h => ⟨h, fun i hi h' => by omega⟩, fun h => h.1⟩
 go_wp2
 generalize hbg : w12.heap.size = bg at *
 generalize hw13 : w12.alloc (.cells #[.int .i64 g.bye, .int .i64 g.epoch, .slice gsa g.sealed.length gsc, .slice gea g.seen.length gec, .bool g.planned, .slice gwa g.wrote.length gwc] 30) = w13 at *
 clear hbg hw13
 go_loopw [17, 18] (fun e x wr => ∃ (k : Nat) (bv : Bool), e = .bool bv ∧ x = .int .i64 (k : Int) ∧ k ≤ n.wrote.length ∧ Hid (bv = true ↔ (n.planned = true ∧ ∀ i (h : i < rn.length), i < k → holdsP ds cop rn[i].m)) ∧ Below w13.heap.size w13 wr) (fun _ x _ => n.wrote.length - (intOf x).toNat)
 case atStart => exact ⟨0, n.planned, rfl, rfl, Nat.zero_le _, I0, Below.refl _ _⟩
 case round =>
  clear I0 q0 q1 q2 q3 q4 q5 q6 q7 n0 n1 n2 n3 n4 n5 g0 g1 g2 g3 g4 g5
  obtain ⟨k, bv, rfl, rfl, hk, hE, hb⟩ := hrel
  obtain ⟨⟨⟨⟨q0, q1⟩, q2, q3, q4, q5, q6, q7⟩, n0, n1, n2, n3, n4, n5⟩, g0, g1, g2, g3, g4, g5⟩ := dU PD wr hb
  have hwl := dU HWL
  by_cases hlt : (k : Int) < (n.wrote.length : Int)
  ·have hkl : k < rn.length := by have := dU HLN; omega
   have hkg : k < rg.length := by have := dU HLG; omega
   obtain ⟨b, off1, rfl, hce⟩ := (dU HRr wr hb).ls hkl
   obtain ⟨b', off2, rfl, hcg⟩ := (dU HRG wr hb).ls hkg
   have EE := hce k hkl
   have EG := hcg k hkg
   have CH := dH fun W (hW : Below wr.heap.size wr W) => dU CHr W (bT hb hW) k hkl
   have CW0 := dH fun W (hW : Below wr.heap.size wr W) => dU CG W (bT hb hW) k hkg hkl
   have HL0 : Hid (rg[k].m.length ≤ rn[k].m.length) := by rw [dU HGk k hkg hkl]; exact lessL_len _ _
   have GT : Hid (∀ b9 : Bool, (b9 = true ↔ holdsP ds cop rn[k].m) → bv = true → (b9 = true ↔ (n.planned = true ∧ ∀ i (h : i < rn.length), i < k + 1 → holdsP ds cop rn[i].m))) := fun b9 h9 hbv => by
    have e0 := (dU hE).1 hbv
    rw [h9]
    constructor
    ·intro h
     refine ⟨e0.1, fun i hi hik => ?_⟩
     rcases Nat.lt_or_ge i k with h1 | h1
     ·exact e0.2 i hi h1
     ·obtain rfl : i = k := by omega
      exact h
    ·intro h
     exact h.2 k hkl (by omega)
   have GF : Hid (bv = false → (false = true ↔ (n.planned = true ∧ ∀ i (h : i < rn.length), i < k + 1 → holdsP ds cop rn[i].m))) := fun hbv => by
    constructor
    ·intro h; cases h
    ·intro h
     have := (dU hE).2 ⟨h.1, fun i hi hik => h.2 i hi (by omega)⟩
     rw [hbv] at this
     cases this
   generalize rn[k] = y at *
   obtain ⟨ya, yc, yn⟩ := y
   generalize rg[k] = y' at *
   obtain ⟨ya', yc', yn'⟩ := y'
   simp only at EE EG CH CW0 GT HL0
   have PK : Hid (∀ W, Below wr.heap.size wr W → (W.cell? ⟨w6.heap.size, 0, none⟩ = some (.slice ca ds.length cc) ∧ W.cell? ⟨w6.heap.size, 1, none⟩ = some (.int .i64 cop)) ∧ W.cell? ⟨bn, 5, none⟩ = some (.slice (some ⟨b, off1, none⟩) n.wrote.length nwc) ∧ W.cell? ⟨b, off1 + k, none⟩ = some (.slice ya yn.length yc)) := fun W hW => by
    have q8 := dU PD W (bT hb hW)
    exact ⟨q8.1.1.1, q8.1.2.2.2.2.2.2, (hW.cell (p := ⟨b, off1 + k, none⟩) (dCell_lt EE)).trans EE⟩
   have PL0 : Hid (∀ W, Below wr.heap.size wr W → (W.cell? ⟨bg, 5, none⟩ = some (.slice (some ⟨b', off2, none⟩) g.wrote.length gwc) ∧ W.cell? ⟨b', off2 + k, none⟩ = some (.slice ya' yn'.length yc')) ∧ W.cell? ⟨bn, 5, none⟩ = some (.slice (some ⟨b, off1, none⟩) n.wrote.length nwc) ∧ W.cell? ⟨b, off1 + k, none⟩ = some (.slice ya yn.length yc)) := fun W hW => by
    have q8 := dU PD W (bT hb hW)
    exact ⟨⟨q8.2.2.2.2.2.2, (hW.cell (p := ⟨b', off2 + k, none⟩) (dCell_lt EG)).trans EG⟩, q8.1.2.2.2.2.2.2, (hW.cell (p := ⟨b, off1 + k, none⟩) (dCell_lt EE)).trans EE⟩
   have bd : Below wr.heap.size wr wr.drew := (Below.refl _ _).drew
   have hkn : (k : Int) < (n.wrote.length : Int) := hlt
   have hkgn : (k : Int) < (g.wrote.length : Int) := by have h1 := congrArg List.length (dU HGW); rw [List.length_map] at h1; omega
   have hle : ¬ ((yn.length : Int) < (yn'.length : Int)) := by have := dU HL0; omega
   clear hce hcg EE EG hE g0 g1 g2 g3 g4
   cases bv
   ·replace GF := dH (dU GF rfl)
    clear GT CH
    go_upto_region 18 with fail
    go_wp2_with fail
    have hwd := bd
    refine wp_region_noPanic ?_
    refine wp_region_held_drew (S := fun W => (W.cell? ⟨w6.heap.size, 0, none⟩ = some (.slice ca ds.length cc) ∧ W.cell? ⟨w6.heap.size, 1, none⟩ = some (.int .i64 cop)) ∧ W.cell? ⟨bn, 5, none⟩ = some (.slice (some ⟨b, off1, none⟩) n.wrote.length nwc) ∧ W.cell? ⟨b, off1 + k, none⟩ = some (.slice ya yn.length yc)) (by kernel_rfl) (by first | exact dU PK _ hwd | exact dU PK _ bd) (fun hHeld => ?_)
    clear bd
    generalize wr.drew = wd at *
    refine tY 0 (v := ?_) rfl (by kernel_rfl) (.inl ⟨by rfl, ?_⟩) ‹_› ?_
    rotate_left 1
    ·intro w hSw
     (try dsimp only at hSw)
     first | (go_simp; done) | (go_simp; with_reducible rfl)
    try simp only [Act.put, sA, sB, sC]
    refine tY 1 (v := ?_) rfl (by kernel_rfl) (.inl ⟨by rfl, ?_⟩) ‹_› ?_
    rotate_left 1
    ·intro w hSw
     (try dsimp only at hSw)
     first | (go_simp; done) | (go_simp; with_reducible rfl)
    try simp only [Act.put, sA, sB, sC]
    refine tY 2 rfl (by kernel_rfl) (.inr ⟨by rfl, rfl⟩) ‹_› ?_
    try simp only [Act.put, sA, sB, sC]
    refine tY 3 rfl (by kernel_rfl) (.inr ⟨by rfl, rfl⟩) ‹_› ?_
    try simp only [Act.put, sA, sB, sC]
    refine tY 4 rfl (by kernel_rfl) (.inr ⟨by rfl, rfl⟩) ‹_› ?_
    try simp only [Act.put, sA, sB, sC]
    refine tY 5 rfl (by kernel_rfl) (.inr ⟨by rfl, rfl⟩) ‹_› ?_
    try simp only [Act.put, sA, sB, sC]
    refine tY 6 rfl (by kernel_rfl) (.inr ⟨by rfl, rfl⟩) ‹_› ?_
    try simp only [Act.put, sA, sB, sC]
    refine tY 7 rfl (by kernel_rfl) (.inr ⟨by rfl, rfl⟩) ‹_› ?_
    try simp only [Act.put, sA, sB, sC]
    refine tY 8 rfl (by kernel_rfl) (.inr ⟨by rfl, rfl⟩) ‹_› ?_
    try simp only [Act.put, sA, sB, sC]
    refine tY 9 (v := ?_) rfl (by kernel_rfl) (.inl ⟨by rfl, ?_⟩) ‹_› ?_
    rotate_left 1
    ·intro w hSw
     (try dsimp only at hSw)
     first | (go_simp; done) | (go_simp; with_reducible rfl)
    try simp only [Act.put, sA, sB, sC]
    refine tY 10 (v := ?_) rfl (by kernel_rfl) (.inl ⟨by rfl, ?_⟩) ‹_› ?_
    rotate_left 1
    ·intro w hSw
     (try dsimp only at hSw)
     first | (go_simp; done) | (go_simp; with_reducible rfl)
    try simp only [Act.put, sA, sB, sC]
    refine wpAnyH_done (by kernel_rfl) ?_ _
    refine NoPanic.normal ?_
    clear PK
    generalize hwy : wd = wy at *
    have PLy := dH fun W (hW : Below wy.heap.size wy W) => dU PL0 W (bT hwd hW)
    have CWy := dH fun W (hW : Below wy.heap.size wy W) => dU CW0 W (bT hwd hW)
    have hby := bT hb hwd
    clear hb hwd PL0 CW0 hwy
    have hb := hby
    have PL := PLy
    have CW := CWy
    clear hby PLy CWy
    obtain ⟨⟨r0, r1⟩, r2, r3⟩ := dU PL wy (Below.refl _ _)
    have bd : Below wy.heap.size wy wy.drew := (Below.refl _ _).drew
    go_upto_region 19 with fail
    go_wp2_with fail
    have hwd := bd
    refine wp_region_noPanic ?_
    refine wp_region_held_drew (S := fun W => (W.cell? ⟨bg, 5, none⟩ = some (.slice (some ⟨b', off2, none⟩) g.wrote.length gwc) ∧ W.cell? ⟨b', off2 + k, none⟩ = some (.slice ya' yn'.length yc')) ∧ W.cell? ⟨bn, 5, none⟩ = some (.slice (some ⟨b, off1, none⟩) n.wrote.length nwc) ∧ W.cell? ⟨b, off1 + k, none⟩ = some (.slice ya yn.length yc)) (by kernel_rfl) (by first | exact dU PL _ hwd | exact dU PL _ bd) (fun hHeld => ?_)
    clear bd
    generalize wy.drew = wd at *
    refine tY 0 (v := ?_) rfl (by kernel_rfl) (.inl ⟨by rfl, ?_⟩) ‹_› ?_
    rotate_left 1
    ·intro w hSw
     (try dsimp only at hSw)
     first | (go_simp; done) | (go_simp; with_reducible rfl)
    try simp only [Act.put, sA, sB, sC]
    refine tY 1 (v := ?_) rfl (by kernel_rfl) (.inl ⟨by rfl, ?_⟩) ‹_› ?_
    rotate_left 1
    ·intro w hSw
     (try dsimp only at hSw)
     first | (go_simp; done) | (go_simp; with_reducible rfl)
    try simp only [Act.put, sA, sB, sC]
    refine tY 2 (v := ?_) rfl (by kernel_rfl) (.inl ⟨by rfl, ?_⟩) ‹_› ?_
    rotate_left 1
    ·intro w hSw
     (try dsimp only at hSw)
     first | (go_simp; done) | (go_simp; with_reducible rfl)
    try simp only [Act.put, sA, sB, sC]
    refine tY 3 (v := ?_) rfl (by kernel_rfl) (.inl ⟨by rfl, ?_⟩) ‹_› ?_
    rotate_left 1
    ·intro w hSw
     (try dsimp only at hSw)
     first | (go_simp; done) | (go_simp; with_reducible rfl)
    try simp only [Act.put, sA, sB, sC]
    refine tY 4 (v := ?_) rfl (by kernel_rfl) (.inl ⟨by rfl, ?_⟩) ‹_› ?_
    rotate_left 1
    ·intro w hSw
     (try dsimp only at hSw)
     first | (go_simp; done) | (go_simp; with_reducible rfl)
    try simp only [Act.put, sA, sB, sC]
    refine tY 5 (v := ?_) rfl (by kernel_rfl) (.inl ⟨by rfl, ?_⟩) ‹_› ?_
    rotate_left 1
    ·intro w hSw
     (try dsimp only at hSw)
     first | (go_simp; done) | (go_simp; with_reducible rfl)
    try simp only [Act.put, sA, sB, sC]
    refine wpAnyH_ready (rs := [6]) (by kernel_rfl) (by simp) ?_
    refine rC rfl (fun K hK => ?_) AllReadyH.nil
    go_simp
    refine (dU CW wd hwd).mono ?_
    rintro e wd' ⟨rfl, rfl⟩
    (try go_wp2_with fail)
    refine hK.out _ _ (by first | exact dU PL _ hwd | exact dU PL _ bd) (fun hHeld => ?_)
    clear hK K
    try simp only [Act.put, sA, sB, sC]
    refine tY 7 (v := ?_) rfl (by kernel_rfl) (.inl ⟨by rfl, ?_⟩) ‹_› ?_
    rotate_left 1
    ·intro w hSw
     (try dsimp only at hSw)
     first | (go_simp; done) | (go_simp; with_reducible rfl)
    try simp only [Act.put, sA, sB, sC]
    refine tY 8 (v := ?_) rfl (by kernel_rfl) (.inl ⟨by rfl, ?_⟩) ‹_› ?_
    rotate_left 1
    ·intro w hSw
     (try dsimp only at hSw)
     first | (go_simp; done) | (go_simp; with_reducible rfl)
    try simp only [Act.put, sA, sB, sC]
    refine tY 9 (v := ?_) rfl (by kernel_rfl) (.inl ⟨by rfl, ?_⟩) ‹_› ?_
    rotate_left 1
    ·intro w hSw
     (try dsimp only at hSw)
     first | (go_simp; done) | (go_simp; with_reducible rfl)
    try simp only [Act.put, sA, sB, sC]
    refine tY 10 (v := ?_) rfl (by kernel_rfl) (.inl ⟨by rfl, ?_⟩) ‹_› ?_
    rotate_left 1
    ·intro w hSw
     (try dsimp only at hSw)
     first | (go_simp; done) | (go_simp; with_reducible rfl)
    try simp only [Act.put, sA, sB, sC]
    refine tY 11 (v := ?_) rfl (by kernel_rfl) (.inl ⟨by rfl, ?_⟩) ‹_› ?_
    rotate_left 1
    ·intro w hSw
     (try dsimp only at hSw)
     first | (go_simp; done) | (go_simp; with_reducible rfl)
    try simp only [Act.put, sA, sB, sC]
    refine tY 12 (v := ?_) rfl (by kernel_rfl) (.inl ⟨by rfl, ?_⟩) ‹_› ?_
    rotate_left 1
    ·intro w hSw
     (try dsimp only at hSw)
     first | (go_simp; done) | (go_simp; with_reducible rfl)
    try simp only [Act.put, sA, sB, sC]
    refine tY 13 (v := ?_) rfl (by kernel_rfl) (.inl ⟨by rfl, ?_⟩) ‹_› ?_
    rotate_left 1
    ·intro w hSw
     (try dsimp only at hSw)
     first | (go_simp; done) | (go_simp; with_reducible rfl)
    try simp only [Act.put, sA, sB, sC]
    refine tY 14 (v := ?_) rfl (by kernel_rfl) (.inl ⟨by rfl, ?_⟩) ‹_› ?_
    rotate_left 1
    ·intro w hSw
     (try dsimp only at hSw)
     first | (go_simp; done) | (go_simp; with_reducible rfl)
    try simp only [Act.put, sA, sB, sC]
    refine tY 15 (v := ?_) rfl (by kernel_rfl) (.inl ⟨by rfl, ?_⟩) ‹_› ?_
    rotate_left 1
    ·intro w hSw
     (try dsimp only at hSw)
     first | (go_simp; done) | (go_simp; with_reducible rfl)
    try simp only [Act.put, sA, sB, sC]
    refine tY 16 (v := ?_) rfl (by kernel_rfl) (.inl ⟨by rfl, ?_⟩) ‹_› ?_
    rotate_left 1
    ·intro w hSw
     (try dsimp only at hSw)
     first | (go_simp; done) | (go_simp; with_reducible rfl)
    try simp only [Act.put, sA, sB, sC]
    refine tY 17 (v := ?_) rfl (by kernel_rfl) (.inl ⟨by rfl, ?_⟩) ‹_› ?_
    rotate_left 1
    ·intro w hSw
     (try dsimp only at hSw)
     first | (go_simp; done) | (go_simp; with_reducible rfl)
    try simp only [Act.put, sA, sB, sC]
    refine tY 18 (v := ?_) rfl (by kernel_rfl) (.inl ⟨by rfl, ?_⟩) ‹_› ?_
    rotate_left 1
    ·intro w hSw
     (try dsimp only at hSw)
     first | (go_simp; done) | (go_simp; with_reducible rfl)
    try simp only [Act.put, sA, sB, sC]
    refine tY 19 (v := ?_) rfl (by kernel_rfl) (.inl ⟨by rfl, ?_⟩) ‹_› ?_
    rotate_left 1
    ·intro w hSw
     (try dsimp only at hSw)
     first | (go_simp; done) | (go_simp; with_reducible rfl)
    try simp only [Act.put, sA, sB, sC]
    refine tY 20 (v := ?_) rfl (by kernel_rfl) (.inl ⟨by rfl, ?_⟩) ‹_› ?_
    rotate_left 1
    ·intro w hSw
     (try dsimp only at hSw)
     first | (go_simp; done) | (go_simp; with_reducible rfl)
    try simp only [Act.put, sA, sB, sC]
    refine tY 21 (v := ?_) rfl (by kernel_rfl) (.inl ⟨by rfl, ?_⟩) ‹_› ?_
    rotate_left 1
    ·intro w hSw
     (try dsimp only at hSw)
     first | (go_simp; done) | (go_simp; with_reducible rfl)
    try simp only [Act.put, sA, sB, sC]
    refine wpAnyH_done (by kernel_rfl) ?_ _
    refine NoPanic.normal ?_
    have hw3 := bT hb hwd
    clear PL CW
    go_wp2
    go_roundw
    case rel => exact ⟨k + 1, false, rfl, by go_num, by omega, GF, hw3⟩
    case measure => simp [intOf]; omega
   ·replace GT := dH fun b9 h9 => dU GT b9 h9 rfl
    clear GF
    go_upto_region 18 with fail
    go_wp2_with fail
    have hwd := bd
    refine wp_region_noPanic ?_
    refine wp_region_held_drew (S := fun W => (W.cell? ⟨w6.heap.size, 0, none⟩ = some (.slice ca ds.length cc) ∧ W.cell? ⟨w6.heap.size, 1, none⟩ = some (.int .i64 cop)) ∧ W.cell? ⟨bn, 5, none⟩ = some (.slice (some ⟨b, off1, none⟩) n.wrote.length nwc) ∧ W.cell? ⟨b, off1 + k, none⟩ = some (.slice ya yn.length yc)) (by kernel_rfl) (by first | exact dU PK _ hwd | exact dU PK _ bd) (fun hHeld => ?_)
    clear bd
    generalize wr.drew = wd at *
    refine tY 0 (v := ?_) rfl (by kernel_rfl) (.inl ⟨by rfl, ?_⟩) ‹_› ?_
    rotate_left 1
    ·intro w hSw
     (try dsimp only at hSw)
     first | (go_simp; done) | (go_simp; with_reducible rfl)
    try simp only [Act.put, sA, sB, sC]
    refine tY 1 (v := ?_) rfl (by kernel_rfl) (.inl ⟨by rfl, ?_⟩) ‹_› ?_
    rotate_left 1
    ·intro w hSw
     (try dsimp only at hSw)
     first | (go_simp; done) | (go_simp; with_reducible rfl)
    try simp only [Act.put, sA, sB, sC]
    refine tY 2 (v := ?_) rfl (by kernel_rfl) (.inl ⟨by rfl, ?_⟩) ‹_› ?_
    rotate_left 1
    ·intro w hSw
     (try dsimp only at hSw)
     first | (go_simp; done) | (go_simp; with_reducible rfl)
    try simp only [Act.put, sA, sB, sC]
    refine tY 3 (v := ?_) rfl (by kernel_rfl) (.inl ⟨by rfl, ?_⟩) ‹_› ?_
    rotate_left 1
    ·intro w hSw
     (try dsimp only at hSw)
     first | (go_simp; done) | (go_simp; with_reducible rfl)
    try simp only [Act.put, sA, sB, sC]
    refine tY 4 (v := ?_) rfl (by kernel_rfl) (.inl ⟨by rfl, ?_⟩) ‹_› ?_
    rotate_left 1
    ·intro w hSw
     (try dsimp only at hSw)
     first | (go_simp; done) | (go_simp; with_reducible rfl)
    try simp only [Act.put, sA, sB, sC]
    refine tY 5 (v := ?_) rfl (by kernel_rfl) (.inl ⟨by rfl, ?_⟩) ‹_› ?_
    rotate_left 1
    ·intro w hSw
     (try dsimp only at hSw)
     first | (go_simp; done) | (go_simp; with_reducible rfl)
    try simp only [Act.put, sA, sB, sC]
    refine tY 6 (v := ?_) rfl (by kernel_rfl) (.inl ⟨by rfl, ?_⟩) ‹_› ?_
    rotate_left 1
    ·intro w hSw
     (try dsimp only at hSw)
     first | (go_simp; done) | (go_simp; with_reducible rfl)
    try simp only [Act.put, sA, sB, sC]
    refine tY 7 (v := ?_) rfl (by kernel_rfl) (.inl ⟨by rfl, ?_⟩) ‹_› ?_
    rotate_left 1
    ·intro w hSw
     (try dsimp only at hSw)
     first | (go_simp; done) | (go_simp; with_reducible rfl)
    try simp only [Act.put, sA, sB, sC]
    refine wpAnyH_ready (rs := [8]) (by kernel_rfl) (by simp) ?_
    refine rC rfl (fun K hK => ?_) AllReadyH.nil
    go_simp
    refine (dU CH wd hwd).mono ?_
    rintro e wd' ⟨⟨b9, rfl, h9⟩, bl9⟩
    replace hwd := bT hwd bl9
    have GT9 : Hid (b9 = true ↔ (n.planned = true ∧ ∀ i (h : i < rn.length), i < k + 1 → holdsP ds cop rn[i].m)) := dU GT b9 h9
    clear bl9 h9
    generalize wd' = wd at *
    (try go_wp2_with fail)
    refine hK.out _ _ (by first | exact dU PK _ hwd | exact dU PK _ bd) (fun hHeld => ?_)
    clear hK K
    try simp only [Act.put, sA, sB, sC]
    refine tY 9 (v := ?_) rfl (by kernel_rfl) (.inl ⟨by rfl, ?_⟩) ‹_› ?_
    rotate_left 1
    ·intro w hSw
     (try dsimp only at hSw)
     first | (go_simp; done) | (go_simp; with_reducible rfl)
    try simp only [Act.put, sA, sB, sC]
    refine tY 10 (v := ?_) rfl (by kernel_rfl) (.inl ⟨by rfl, ?_⟩) ‹_› ?_
    rotate_left 1
    ·intro w hSw
     (try dsimp only at hSw)
     first | (go_simp; done) | (go_simp; with_reducible rfl)
    try simp only [Act.put, sA, sB, sC]
    refine wpAnyH_done (by kernel_rfl) ?_ _
    refine NoPanic.normal ?_
    clear PK GT CH
    generalize hwy : wd = wy at *
    have PLy := dH fun W (hW : Below wy.heap.size wy W) => dU PL0 W (bT hwd hW)
    have CWy := dH fun W (hW : Below wy.heap.size wy W) => dU CW0 W (bT hwd hW)
    have hby := bT hb hwd
    clear hb hwd PL0 CW0 hwy
    have hb := hby
    have PL := PLy
    have CW := CWy
    clear hby PLy CWy
    obtain ⟨⟨r0, r1⟩, r2, r3⟩ := dU PL wy (Below.refl _ _)
    have bd : Below wy.heap.size wy wy.drew := (Below.refl _ _).drew
    go_upto_region 19 with fail
    go_wp2_with fail
    have hwd := bd
    refine wp_region_noPanic ?_
    refine wp_region_held_drew (S := fun W => (W.cell? ⟨bg, 5, none⟩ = some (.slice (some ⟨b', off2, none⟩) g.wrote.length gwc) ∧ W.cell? ⟨b', off2 + k, none⟩ = some (.slice ya' yn'.length yc')) ∧ W.cell? ⟨bn, 5, none⟩ = some (.slice (some ⟨b, off1, none⟩) n.wrote.length nwc) ∧ W.cell? ⟨b, off1 + k, none⟩ = some (.slice ya yn.length yc)) (by kernel_rfl) (by first | exact dU PL _ hwd | exact dU PL _ bd) (fun hHeld => ?_)
    clear bd
    generalize wy.drew = wd at *
    refine tY 0 (v := ?_) rfl (by kernel_rfl) (.inl ⟨by rfl, ?_⟩) ‹_› ?_
    rotate_left 1
    ·intro w hSw
     (try dsimp only at hSw)
     first | (go_simp; done) | (go_simp; with_reducible rfl)
    try simp only [Act.put, sA, sB, sC]
    refine tY 1 (v := ?_) rfl (by kernel_rfl) (.inl ⟨by rfl, ?_⟩) ‹_› ?_
    rotate_left 1
    ·intro w hSw
     (try dsimp only at hSw)
     first | (go_simp; done) | (go_simp; with_reducible rfl)
    try simp only [Act.put, sA, sB, sC]
    refine tY 2 (v := ?_) rfl (by kernel_rfl) (.inl ⟨by rfl, ?_⟩) ‹_› ?_
    rotate_left 1
    ·intro w hSw
     (try dsimp only at hSw)
     first | (go_simp; done) | (go_simp; with_reducible rfl)
    try simp only [Act.put, sA, sB, sC]
    refine tY 3 (v := ?_) rfl (by kernel_rfl) (.inl ⟨by rfl, ?_⟩) ‹_› ?_
    rotate_left 1
    ·intro w hSw
     (try dsimp only at hSw)
     first | (go_simp; done) | (go_simp; with_reducible rfl)
    try simp only [Act.put, sA, sB, sC]
    refine tY 4 (v := ?_) rfl (by kernel_rfl) (.inl ⟨by rfl, ?_⟩) ‹_› ?_
    rotate_left 1
    ·intro w hSw
     (try dsimp only at hSw)
     first | (go_simp; done) | (go_simp; with_reducible rfl)
    try simp only [Act.put, sA, sB, sC]
    refine tY 5 (v := ?_) rfl (by kernel_rfl) (.inl ⟨by rfl, ?_⟩) ‹_› ?_
    rotate_left 1
    ·intro w hSw
     (try dsimp only at hSw)
     first | (go_simp; done) | (go_simp; with_reducible rfl)
    try simp only [Act.put, sA, sB, sC]
    refine wpAnyH_ready (rs := [6]) (by kernel_rfl) (by simp) ?_
    refine rC rfl (fun K hK => ?_) AllReadyH.nil
    go_simp
    refine (dU CW wd hwd).mono ?_
    rintro e wd' ⟨rfl, rfl⟩
    (try go_wp2_with fail)
    refine hK.out _ _ (by first | exact dU PL _ hwd | exact dU PL _ bd) (fun hHeld => ?_)
    clear hK K
    try simp only [Act.put, sA, sB, sC]
    refine tY 7 (v := ?_) rfl (by kernel_rfl) (.inl ⟨by rfl, ?_⟩) ‹_› ?_
    rotate_left 1
    ·intro w hSw
     (try dsimp only at hSw)
     first | (go_simp; done) | (go_simp; with_reducible rfl)
    try simp only [Act.put, sA, sB, sC]
    refine tY 8 (v := ?_) rfl (by kernel_rfl) (.inl ⟨by rfl, ?_⟩) ‹_› ?_
    rotate_left 1
    ·intro w hSw
     (try dsimp only at hSw)
     first | (go_simp; done) | (go_simp; with_reducible rfl)
    try simp only [Act.put, sA, sB, sC]
    refine tY 9 (v := ?_) rfl (by kernel_rfl) (.inl ⟨by rfl, ?_⟩) ‹_› ?_
    rotate_left 1
    ·intro w hSw
     (try dsimp only at hSw)
     first | (go_simp; done) | (go_simp; with_reducible rfl)
    try simp only [Act.put, sA, sB, sC]
    refine tY 10 (v := ?_) rfl (by kernel_rfl) (.inl ⟨by rfl, ?_⟩) ‹_› ?_
    rotate_left 1
    ·intro w hSw
     (try dsimp only at hSw)
     first | (go_simp; done) | (go_simp; with_reducible rfl)
    try simp only [Act.put, sA, sB, sC]
    refine tY 11 (v := ?_) rfl (by kernel_rfl) (.inl ⟨by rfl, ?_⟩) ‹_› ?_
    rotate_left 1
    ·intro w hSw
     (try dsimp only at hSw)
     first | (go_simp; done) | (go_simp; with_reducible rfl)
    try simp only [Act.put, sA, sB, sC]
    refine tY 12 (v := ?_) rfl (by kernel_rfl) (.inl ⟨by rfl, ?_⟩) ‹_› ?_
    rotate_left 1
    ·intro w hSw
     (try dsimp only at hSw)
     first | (go_simp; done) | (go_simp; with_reducible rfl)
    try simp only [Act.put, sA, sB, sC]
    refine tY 13 (v := ?_) rfl (by kernel_rfl) (.inl ⟨by rfl, ?_⟩) ‹_› ?_
    rotate_left 1
    ·intro w hSw
     (try dsimp only at hSw)
     first | (go_simp; done) | (go_simp; with_reducible rfl)
    try simp only [Act.put, sA, sB, sC]
    refine tY 14 (v := ?_) rfl (by kernel_rfl) (.inl ⟨by rfl, ?_⟩) ‹_› ?_
    rotate_left 1
    ·intro w hSw
     (try dsimp only at hSw)
     first | (go_simp; done) | (go_simp; with_reducible rfl)
    try simp only [Act.put, sA, sB, sC]
    refine tY 15 (v := ?_) rfl (by kernel_rfl) (.inl ⟨by rfl, ?_⟩) ‹_› ?_
    rotate_left 1
    ·intro w hSw
     (try dsimp only at hSw)
     first | (go_simp; done) | (go_simp; with_reducible rfl)
    try simp only [Act.put, sA, sB, sC]
    refine tY 16 (v := ?_) rfl (by kernel_rfl) (.inl ⟨by rfl, ?_⟩) ‹_› ?_
    rotate_left 1
    ·intro w hSw
     (try dsimp only at hSw)
     first | (go_simp; done) | (go_simp; with_reducible rfl)
    try simp only [Act.put, sA, sB, sC]
    refine tY 17 (v := ?_) rfl (by kernel_rfl) (.inl ⟨by rfl, ?_⟩) ‹_› ?_
    rotate_left 1
    ·intro w hSw
     (try dsimp only at hSw)
     first | (go_simp; done) | (go_simp; with_reducible rfl)
    try simp only [Act.put, sA, sB, sC]
    refine tY 18 (v := ?_) rfl (by kernel_rfl) (.inl ⟨by rfl, ?_⟩) ‹_› ?_
    rotate_left 1
    ·intro w hSw
     (try dsimp only at hSw)
     first | (go_simp; done) | (go_simp; with_reducible rfl)
    try simp only [Act.put, sA, sB, sC]
    refine tY 19 (v := ?_) rfl (by kernel_rfl) (.inl ⟨by rfl, ?_⟩) ‹_› ?_
    rotate_left 1
    ·intro w hSw
     (try dsimp only at hSw)
     first | (go_simp; done) | (go_simp; with_reducible rfl)
    try simp only [Act.put, sA, sB, sC]
    refine tY 20 (v := ?_) rfl (by kernel_rfl) (.inl ⟨by rfl, ?_⟩) ‹_› ?_
    rotate_left 1
    ·intro w hSw
     (try dsimp only at hSw)
     first | (go_simp; done) | (go_simp; with_reducible rfl)
    try simp only [Act.put, sA, sB, sC]
    refine tY 21 (v := ?_) rfl (by kernel_rfl) (.inl ⟨by rfl, ?_⟩) ‹_› ?_
    rotate_left 1
    ·intro w hSw
     (try dsimp only at hSw)
     first | (go_simp; done) | (go_simp; with_reducible rfl)
    try simp only [Act.put, sA, sB, sC]
    refine wpAnyH_done (by kernel_rfl) ?_ _
    refine NoPanic.normal ?_
    have hw3 := bT hb hwd
    clear PL CW
    go_wp2
    go_roundw
    case rel => exact ⟨k + 1, b9, rfl, by go_num, by omega, GT9, hw3⟩
    case measure => simp [intOf]; omega
  ·have hkk : rn.length ≤ k := by have := dU HLN; omega
   have HV : Hid (bv = true ↔ rdyP ds cop n) := by
    rw [Hid, dU PR, dU hE]
    exact ⟨fun h => ⟨h.1, fun i hi => h.2 i hi (by omega)⟩, fun h => ⟨h.1, fun i hi _ => h.2 i hi⟩⟩
   obtain ⟨b, off1, rfl, hce⟩ := (dU HRr wr hb).ls (dU HKo)
   have EE := hce ko (dU HKo)
   have CW1 := dH fun W (hW : Below wr.heap.size wr W) => dU CWr W (bT hb hW) (dU HKo)
   have CM1 := dH fun W (hW : Below wr.heap.size wr W) => dU CM W (bT hb hW)
   have CR1 := dH fun W (hW : Below wr.heap.size wr W) => dU CRr W (bT hb hW)
   have hlo : (ko : Int) < (n.wrote.length : Int) := by have h1 := dU HLN; have h2 := dU HKo; omega
   have hwo : wrap64 ((ko : Int) + 1 - 1) = (ko : Int) := by unfold wrap64; omega
   have hgs : ((g.seen.length : Int) == (m.seen.length : Int)) = true := by rw [dU HGS]; simp
   have PZ : Hid (∀ W, Below wr.heap.size wr W → ((((W.cell? ⟨w6.heap.size, 0, none⟩ = some (.slice ca ds.length cc) ∧ W.cell? ⟨w6.heap.size, 1, none⟩ = some (.int .i64 cop)) ∧ W.cell? ⟨w6.heap.size + 1, 0, none⟩ = some (.int .i64 m.bye) ∧ W.cell? ⟨w6.heap.size + 1, 1, none⟩ = some (.int .i64 m.epoch) ∧ W.cell? ⟨w6.heap.size + 1, 2, none⟩ = some (.slice msa m.sealed.length msc) ∧ W.cell? ⟨w6.heap.size + 1, 3, none⟩ = some (.slice mea m.seen.length mec) ∧ W.cell? ⟨w6.heap.size + 1, 4, none⟩ = some (.bool m.planned) ∧ W.cell? ⟨w6.heap.size + 1, 5, none⟩ = some (.slice mwa m.wrote.length mwc)) ∧ W.cell? ⟨bn, 0, none⟩ = some (.int .i64 n.bye) ∧ W.cell? ⟨bn, 1, none⟩ = some (.int .i64 n.epoch) ∧ W.cell? ⟨bn, 2, none⟩ = some (.slice nsa n.sealed.length nsc) ∧ W.cell? ⟨bn, 3, none⟩ = some (.slice nea n.seen.length nec) ∧ W.cell? ⟨bn, 4, none⟩ = some (.bool n.planned) ∧ W.cell? ⟨bn, 5, none⟩ = some (.slice (some ⟨b, off1, none⟩) n.wrote.length nwc)) ∧ W.cell? ⟨bg, 0, none⟩ = some (.int .i64 g.bye) ∧ W.cell? ⟨bg, 1, none⟩ = some (.int .i64 g.epoch) ∧ W.cell? ⟨bg, 2, none⟩ = some (.slice gsa g.sealed.length gsc) ∧ W.cell? ⟨bg, 3, none⟩ = some (.slice gea g.seen.length gec) ∧ W.cell? ⟨bg, 4, none⟩ = some (.bool g.planned) ∧ W.cell? ⟨bg, 5, none⟩ = some (.slice gwa g.wrote.length gwc)) ∧ W.cell? ⟨b, off1 + ko, none⟩ = some (.slice rn[ko].a rn[ko].m.length rn[ko].c)) := fun W hW => ⟨dU PD W (bT hb hW), (hW.cell (p := ⟨b, off1 + ko, none⟩) (dCell_lt EE)).trans EE⟩
   generalize rn[ko] = y at *
   obtain ⟨ya, yc, yn⟩ := y
   simp only at EE CW1 PZ
   have bd : Below wr.heap.size wr wr.drew := (Below.refl _ _).drew
   clear hce hE CM CG CHr CWr CRr PD PR HGk HRG HRr
   go_upto_region 21 with fail
   go_wp2_with fail
   refine (dU CW1 wr (Below.refl _ _)).mono ?_
   rintro e wz ⟨rfl, rfl⟩
   go_wp2_with fail
   refine (dU CM1 _ (Below.refl _ _)).mono ?_
   rintro e wm ⟨rfl, bm⟩
   clear q0 q1 q2 q3 q4 q5 q6 q7 n0 n1 n2 n3 n4 n5 g0 g1 g2 g3 g4 g5 EE
   obtain ⟨⟨⟨⟨⟨q0, q1⟩, q2, q3, q4, q5, q6, q7⟩, n0, n1, n2, n3, n4, n5⟩, g0, g1, g2, g3, g4, g5⟩, EE⟩ := dU PZ wm bm
   go_wp2_with fail
   refine (dU CR1 _ bm).mono ?_
   rintro e wq ⟨⟨br, rfl, hbr⟩, bq⟩
   have bmq := bT bm bq
   obtain rfl : bv = br := bEq (dU HV) hbr
   have ebr : (bv == bv) = true := by simp
   clear q0 q1 q2 q3 q4 q5 q6 q7 n0 n1 n2 n3 n4 n5 g0 g1 g2 g3 g4 g5 EE
   obtain ⟨⟨⟨⟨⟨q0, q1⟩, q2, q3, q4, q5, q6, q7⟩, n0, n1, n2, n3, n4, n5⟩, g0, g1, g2, g3, g4, g5⟩, EE⟩ := dU PZ wq bmq
   have BF := bT B13 (bT hb bmq)
   clear PZ CW1 CM1 CR1 HV hbr
   go_wp2
   go_ret
   exact ⟨by first | rfl | simp, BF⟩
end Go.Proofs.YtoeamgcoeoaijaaGreat
