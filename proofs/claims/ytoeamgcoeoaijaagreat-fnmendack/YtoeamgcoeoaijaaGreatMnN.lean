/- impl's MendAck (printed by tools/mkmnn.py). -/
import Derived.Test.YtoeamgcoeoaijaaGreatMnM
import Derived.Deep.RegionHeld3
import Derived.Deep.DeepCutAuto
namespace Go.Proofs.YtoeamgcoeoaijaaGreat
open Go.ChangeShapes Go.WideShapes Go.ChangeAt Go.RowKit
set_option linter.unusedVariables false
set_option linter.unusedSimpArgs false
set_option maxRecDepth 100000

set_option maxHeartbeats 4000000 in
theorem ackF9_any (W : World) (lo b bc bo bn : Nat) (sv ev wv : Value) (qs : List (Nst (List Int))) (ds : List Int) (cop : Int) (ca : Option Addr) (cc : Nat) (off node : Int) (m : Mn) (hP : mnP ds cop m) (hX : BxZ W lo b [.int .i64 m.bye, .int .i64 m.epoch, sv, ev, .bool m.planned, wv]) (hq : qs.map Nst.m = m.wrote) (hI : ImM W lo sv ev wv qs m.sealed m.seen) (hF : FrM b sv ev wv qs m.sealed) (hlo : lo ≤ W.heap.size) (hN : Ns W (.slice ca ds.length cc) ds) (had : allInt ds) (hax : okInt node) (hld : ds.length ≤ 1048576) (hs : sizMend m ≤ 1048576) (c0 : -9223372036854775808 ≤ cop) (c1 : cop ≤ 9223372036854775807)
  (k0 : W.cell? ⟨bc, 0, none⟩ = some (.slice ca ds.length cc)) (k1 : W.cell? ⟨bc, 1, none⟩ = some (.int .i64 cop)) (k2 : W.cell? ⟨bo, 0, none⟩ = some (.int .i64 off)) (k3 : W.cell? ⟨bn, 0, none⟩ = some (.int .i64 node)) :
  Calls Tryz.prog 68 #[.pointer (some ⟨b, 0, none⟩), .pointer (some ⟨bc, 0, none⟩), .pointer (some ⟨bo, 0, none⟩), .pointer (some ⟨bn, 0, none⟩)] W (AckQ W lo b sv ev wv ds off node m) := by
 have CA := dH (mack9_any W lo b sv ev wv qs ds cop ca cc off node m hP hX hq hI hF hlo hN had hax hld hs c0 c1)
 have HE : Hid (∀ e w', AckQ W lo b sv ev wv ds off node m e w' → ∃ ok, e = .returned (.bool ok)) := fun e w' ⟨ok, _, h, _⟩ => ⟨ok, h⟩
 generalize AckQ W lo b sv ev wv ds off node m = QQ at *
 clear hP hX hq hI hF hN had hax hs
 go_enter Tryz.func68, Tryz.ntmps68
 go_wp2_with fail
 refine (dU CA).mono ?_
 intro e w5 h5
 obtain ⟨ok, rfl⟩ := dU HE _ _ h5
 clear CA HE k0 k1 k2 k3
 go_wp2_with fail
 exact h5
set_option maxHeartbeats 8000000 in
theorem implAck9_any (cv v : Value) (c : List Int × Int) (m : Mn) (off node : Int) (w : World) (hc : RdConfig cv c w) (hv : RdMend v m w) (okc : okConfig c) (okm : okMend m) (okx : okInt node) (hsc : sizConfig c ≤ 1048576) (hs : sizMend m ≤ 1048576) :
  Calls Tryz.prog 23 #[cv, v, .int .i64 off, .int .i64 node] w fun e w' => (∃ u, e = .returned (.tuple #[u, .bool (ack9M c.1 c.2 m off node).2]) ∧ OwMend w.heap.size w'.heap.size u (ack9M c.1 c.2 m off node).1 w') ∧ Below w.heap.size w w' := by
 have ba : ∀ (w : World) o, Below w.heap.size w (w.alloc o) := fun w o => (Below.refl _ _).alloc (Nat.le_refl _) o
 obtain ⟨ds, cop⟩ := c
 obtain ⟨cs, rfl, hcn⟩ := id hc
 obtain ⟨-, ca, cc, rfl, -, -⟩ := id hcn
 have hdl : ds.length ≤ 1048576 := hsc
 have CC : Hid (∀ W bc bo bn, Below w.heap.size w W → Bx W bc [.slice ca ds.length cc, .int .i64 cop] → Bx W bo [.int .i64 off] → Bx W bn [.int .i64 node] → Calls Tryz.prog 42 #[v, .agg #[.slice ca ds.length cc, .int .i64 cop], .func (.func 68) #[] #[.pointer (some ⟨bc, 0, none⟩), .pointer (some ⟨bo, 0, none⟩), .pointer (some ⟨bn, 0, none⟩)]] W fun e w' => (∃ u, e = .returned (.tuple #[u, .bool (ack9M ds cop m off node).2]) ∧ OwMend W.heap.size w'.heap.size u (ack9M ds cop m off node).1 w') ∧ Below W.heap.size W w') := fun W bc bo bn hb k0 k1 k2 =>
  changed9_any _ v (ds, cop) m 68 #[.pointer (some ⟨bc, 0, none⟩), .pointer (some ⟨bo, 0, none⟩), .pointer (some ⟨bn, 0, none⟩)] (ack9M ds cop m off node).1 (ack9M ds cop m off node).2 W (hc.below hb) (hv.below hb) okc okm hsc hs Tryz.call68 (fun hn => by rw [ack9M_bad hn]; exact ⟨rfl, rfl⟩) (fun hp hok => by
   by_cases ha : ack9P ds m off node
   ·rw [ack9M_yes hp ha] at hok
    cases hok
   ·rw [ack9M_no hp ha]) (fun hp W' lo b sv ev wv qs hB hl1 hl2 hX hq hI hF => by
   refine (ackF9_any W' lo b bc bo bn sv ev wv qs ds cop ca cc off node m hp hX hq hI hF hl2 ((hcn.below hb).below hB) okc.1 okx hdl hs okc.2.1 okc.2.2 ((k0.below hB) 0 _ rfl) ((k0.below hB) 1 _ rfl) ((k1.below hB) 0 _ rfl) ((k2.below hB) 0 _ rfl)).mono ?_
   rintro e w5 ⟨ok, h1, rfl, h2, h3⟩
   by_cases ha : ack9P ds m off node
   ·have e1 := h1.2 ha
    subst e1
    rw [ack9M_yes hp ha]
    obtain ⟨rs', q1, q2, q3⟩ := h3 rfl
    exact ⟨rfl, h2, fun _ => ⟨sv, ev, wv, rs', q1, q2, q3⟩⟩
   ·have e1 : ok = false := by
     cases ok
     ·rfl
     ·exact absurd (h1.1 rfl) ha
    subst e1
    rw [ack9M_no hp ha]
    exact ⟨rfl, h2, fun h => by cases h⟩)
 simp only
 generalize ack9M ds cop m off node = AM at *
 obtain ⟨R, ok⟩ := AM
 simp only at *
 obtain ⟨sa, sc, ea, ec, wa, wz, rfl, hl1, hl2, hl3⟩ := formMend hv
 have HPt := dH fun (lo hi : Nat) (u : Value) (W : World) (h : OwMend lo hi u R W) => h.parts
 have HMe := dH fun (lo hi : Nat) (sv ev wv : Value) rs (W : World) (h : OwM lo hi sv ev wv rs R.sealed R.seen W) (e : rs.map Nst.m = R.wrote) => h.mend e
 clear hv hc hcn okc okm hs hsc okx
 generalize m.bye = f0 at *
 generalize m.epoch = f1 at *
 generalize m.planned = f4 at *
 generalize m.sealed = ss at *
 generalize m.seen = es at *
 generalize m.wrote = ws at *
 have B0 := (bT (bT (bT (bT (ba w (.cells #[.slice ca ds.length cc, .int .i64 cop] 26)) (ba _ (.cells #[.int .i64 f0, .int .i64 f1, .slice sa ss.length sc, .slice ea es.length ec, .bool f4, .slice wa ws.length wz] 30))) (ba _ (.cells #[.int .i64 off] 3))) (ba _ (.cells #[.int .i64 node] 3))) (ba _ (.cells #[.int .i64 0, .int .i64 0, .slice none 0 0, .slice none 0 0, .bool false, .slice none 0 0] 30)))
 have X0 := (Bx.new w [.slice ca ds.length cc, .int .i64 cop] 26).below (bT (bT (bT (ba _ (.cells #[.int .i64 f0, .int .i64 f1, .slice sa ss.length sc, .slice ea es.length ec, .bool f4, .slice wa ws.length wz] 30)) (ba _ (.cells #[.int .i64 off] 3))) (ba _ (.cells #[.int .i64 node] 3))) (ba _ (.cells #[.int .i64 0, .int .i64 0, .slice none 0 0, .slice none 0 0, .bool false, .slice none 0 0] 30)))
 have O0 := (Bx.new ((w.alloc (.cells #[.slice ca ds.length cc, .int .i64 cop] 26)).alloc (.cells #[.int .i64 f0, .int .i64 f1, .slice sa ss.length sc, .slice ea es.length ec, .bool f4, .slice wa ws.length wz] 30)) [.int .i64 off] 3).below (bT (ba _ (.cells #[.int .i64 node] 3)) (ba _ (.cells #[.int .i64 0, .int .i64 0, .slice none 0 0, .slice none 0 0, .bool false, .slice none 0 0] 30)))
 have D0 := (Bx.new (((w.alloc (.cells #[.slice ca ds.length cc, .int .i64 cop] 26)).alloc (.cells #[.int .i64 f0, .int .i64 f1, .slice sa ss.length sc, .slice ea es.length ec, .bool f4, .slice wa ws.length wz] 30)).alloc (.cells #[.int .i64 off] 3)) [.int .i64 node] 3).below (ba _ (.cells #[.int .i64 0, .int .i64 0, .slice none 0 0, .slice none 0 0, .bool false, .slice none 0 0] 30))
 have Z0 := BxZ.new (B := w.heap.size) ((((w.alloc (.cells #[.slice ca ds.length cc, .int .i64 cop] 26)).alloc (.cells #[.int .i64 f0, .int .i64 f1, .slice sa ss.length sc, .slice ea es.length ec, .bool f4, .slice wa ws.length wz] 30)).alloc (.cells #[.int .i64 off] 3)).alloc (.cells #[.int .i64 node] 3)) [.int .i64 0, .int .i64 0, .slice none 0 0, .slice none 0 0, .bool false, .slice none 0 0] 30 (by simp <;> omega)
 have e2 : ((w.alloc (.cells #[.slice ca ds.length cc, .int .i64 cop] 26)).alloc (.cells #[.int .i64 f0, .int .i64 f1, .slice sa ss.length sc, .slice ea es.length ec, .bool f4, .slice wa ws.length wz] 30)).heap.size = w.heap.size + 1 + 1 := by simp
 have e3 : (((w.alloc (.cells #[.slice ca ds.length cc, .int .i64 cop] 26)).alloc (.cells #[.int .i64 f0, .int .i64 f1, .slice sa ss.length sc, .slice ea es.length ec, .bool f4, .slice wa ws.length wz] 30)).alloc (.cells #[.int .i64 off] 3)).heap.size = w.heap.size + 1 + 1 + 1 := by simp
 have e4 : ((((w.alloc (.cells #[.slice ca ds.length cc, .int .i64 cop] 26)).alloc (.cells #[.int .i64 f0, .int .i64 f1, .slice sa ss.length sc, .slice ea es.length ec, .bool f4, .slice wa ws.length wz] 30)).alloc (.cells #[.int .i64 off] 3)).alloc (.cells #[.int .i64 node] 3)).heap.size = w.heap.size + 1 + 1 + 1 + 1 := by simp
 rw [e2] at O0
 rw [e3] at D0
 rw [e4] at Z0
 replace X0 := dH X0
 replace D0 := dH D0
 replace O0 := dH O0
 replace Z0 := dH Z0
 clear e2 e3 e4
 have hsz0 : Hid (w.heap.size + 1 + 1 + 1 + 1 + 1 = (((((w.alloc (.cells #[.slice ca ds.length cc, .int .i64 cop] 26)).alloc (.cells #[.int .i64 f0, .int .i64 f1, .slice sa ss.length sc, .slice ea es.length ec, .bool f4, .slice wa ws.length wz] 30)).alloc (.cells #[.int .i64 off] 3)).alloc (.cells #[.int .i64 node] 3)).alloc (.cells #[.int .i64 0, .int .i64 0, .slice none 0 0, .slice none 0 0, .bool false, .slice none 0 0] 30)).heap.size) := by simp [Hid]
 go_enter Tryz.func23, Tryz.ntmps23
 go_wp2_with fail
 generalize (((((w.alloc (.cells #[.slice ca ds.length cc, .int .i64 cop] 26)).alloc (.cells #[.int .i64 f0, .int .i64 f1, .slice sa ss.length sc, .slice ea es.length ec, .bool f4, .slice wa ws.length wz] 30)).alloc (.cells #[.int .i64 off] 3)).alloc (.cells #[.int .i64 node] 3)).alloc (.cells #[.int .i64 0, .int .i64 0, .slice none 0 0, .slice none 0 0, .bool false, .slice none 0 0] 30)) = w0 at *
 have hs0 := dU hsz0
 refine (dU CC w0 w.heap.size (w.heap.size + 1 + 1) (w.heap.size + 1 + 1 + 1) B0 (dU X0) (dU O0) (dU D0)).mono ?_
 rintro e w1 ⟨⟨u1, rfl, N1⟩, b1⟩
 obtain ⟨ua, uc, va, vc, oa, oc, rs, rfl, hrs, M1⟩ := dU HPt _ _ _ _ N1
 have BB := bT B0 b1
 have RB := (dU Z0).below b1
 have s1 := b1.size
 clear CC X0 D0 O0 Z0 B0 b1 N1 HPt
 have hVz : w1.heap.size = ((((((w1.setCell ⟨w.heap.size + 1 + 1 + 1 + 1, 0, none⟩ (.int .i64 R.bye)).setCell ⟨w.heap.size + 1 + 1 + 1 + 1, 1, none⟩ (.int .i64 R.epoch)).setCell ⟨w.heap.size + 1 + 1 + 1 + 1, 2, none⟩ (.slice ua R.sealed.length uc)).setCell ⟨w.heap.size + 1 + 1 + 1 + 1, 3, none⟩ (.slice va R.seen.length vc)).setCell ⟨w.heap.size + 1 + 1 + 1 + 1, 4, none⟩ (.bool R.planned)).setCell ⟨w.heap.size + 1 + 1 + 1 + 1, 5, none⟩ (.slice oa R.wrote.length oc)).heap.size := by simp
 obtain ⟨z0, g0⟩ := RB.2 0 _ rfl
 obtain ⟨z1, g1⟩ := RB.2 1 _ rfl
 obtain ⟨z2, g2⟩ := RB.2 2 _ rfl
 obtain ⟨z3, g3⟩ := RB.2 3 _ rfl
 obtain ⟨z4, g4⟩ := RB.2 4 _ rfl
 obtain ⟨z5, g5⟩ := RB.2 5 _ rfl
 have YY := dH ((((((RB.put 0 (.int .i64 R.bye)).put 1 (.int .i64 R.epoch)).put 2 (.slice ua R.sealed.length uc)).put 3 (.slice va R.seen.length vc)).put 4 (.bool R.planned)).put 5 (.slice oa R.wrote.length oc))
 have BF := dH ((((((BB.setCell (p := ⟨w.heap.size + 1 + 1 + 1 + 1, 0, none⟩) (by simp only; omega) (.int .i64 R.bye)).setCell (p := ⟨w.heap.size + 1 + 1 + 1 + 1, 1, none⟩) (by simp only; omega) (.int .i64 R.epoch)).setCell (p := ⟨w.heap.size + 1 + 1 + 1 + 1, 2, none⟩) (by simp only; omega) (.slice ua R.sealed.length uc)).setCell (p := ⟨w.heap.size + 1 + 1 + 1 + 1, 3, none⟩) (by simp only; omega) (.slice va R.seen.length vc)).setCell (p := ⟨w.heap.size + 1 + 1 + 1 + 1, 4, none⟩) (by simp only; omega) (.bool R.planned)).setCell (p := ⟨w.heap.size + 1 + 1 + 1 + 1, 5, none⟩) (by simp only; omega) (.slice oa R.wrote.length oc))
 have MF := dH ((((((M1.far (b := w.heap.size + 1 + 1 + 1 + 1) (o := 0) (.inl (by omega)) (.int .i64 R.bye)).far (b := w.heap.size + 1 + 1 + 1 + 1) (o := 1) (.inl (by omega)) (.int .i64 R.epoch)).far (b := w.heap.size + 1 + 1 + 1 + 1) (o := 2) (.inl (by omega)) (.slice ua R.sealed.length uc)).far (b := w.heap.size + 1 + 1 + 1 + 1) (o := 3) (.inl (by omega)) (.slice va R.seen.length vc)).far (b := w.heap.size + 1 + 1 + 1 + 1) (o := 4) (.inl (by omega)) (.bool R.planned)).far (b := w.heap.size + 1 + 1 + 1 + 1) (o := 5) (.inl (by omega)) (.slice oa R.wrote.length oc))
 clear RB BB M1
 go_wp2_with fail
 generalize ((((((w1.setCell ⟨w.heap.size + 1 + 1 + 1 + 1, 0, none⟩ (.int .i64 R.bye)).setCell ⟨w.heap.size + 1 + 1 + 1 + 1, 1, none⟩ (.int .i64 R.epoch)).setCell ⟨w.heap.size + 1 + 1 + 1 + 1, 2, none⟩ (.slice ua R.sealed.length uc)).setCell ⟨w.heap.size + 1 + 1 + 1 + 1, 3, none⟩ (.slice va R.seen.length vc)).setCell ⟨w.heap.size + 1 + 1 + 1 + 1, 4, none⟩ (.bool R.planned)).setCell ⟨w.heap.size + 1 + 1 + 1 + 1, 5, none⟩ (.slice oa R.wrote.length oc)) = V at *
 have q0 := ((dU YY).2 0 _ rfl).1
 have q1 := ((dU YY).2 1 _ rfl).1
 have q2 := ((dU YY).2 2 _ rfl).1
 have q3 := ((dU YY).2 3 _ rfl).1
 have q4 := ((dU YY).2 4 _ rfl).1
 have q5 := ((dU YY).2 5 _ rfl).1
 refine bodyPost_ret (v := .tuple #[.agg #[.int .i64 R.bye, .int .i64 R.epoch, .slice ua R.sealed.length uc, .slice va R.seen.length vc, .bool R.planned, .slice oa R.wrote.length oc], .bool ok]) (by simp [results, Tryz.results23, go_sem, q0, q1, q2, q3, q4, q5]) rfl ⟨⟨_, rfl, dU HMe _ _ _ _ _ rs V ((dU MF).wide (by omega) (by omega)) hrs⟩, dU BF⟩
end Go.Proofs.YtoeamgcoeoaijaaGreat
