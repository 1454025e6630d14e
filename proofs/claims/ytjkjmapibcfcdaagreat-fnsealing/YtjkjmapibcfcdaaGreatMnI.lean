/- spec's MendAck (printed by tools/mkmni.py). -/
import Derived.Test.YtjkjmapibcfcdaaGreatMnB
import Derived.Test.YtjkjmapibcfcdaaGreatMnC
import Derived.Test.YtjkjmapibcfcdaaGreatGz9
import Derived.Test.YtjkjmapibcfcdaaGreatGx4
import Derived.Deep.RegionHeld3
import Derived.Deep.DeepCutAuto
namespace Go.Proofs.YtjkjmapibcfcdaaGreat
open Go.ChangeShapes Go.WideShapes Go.ChangeAt Go.RowKit
set_option linter.unusedVariables false
set_option linter.unusedSimpArgs false
set_option maxRecDepth 100000

def zeroMn : Mn := ⟨0, 0, [], [], false, []⟩
theorem OwMend.zero (lo hi : Nat) (W : World) : OwMend lo hi (.agg #[.int .i64 0, .int .i64 0, .slice none 0 0, .slice none 0 0, .bool false, .slice none 0 0]) zeroMn W :=
 ⟨.slice none 0 0, .slice none 0 0, .slice none 0 0, [], rfl, rfl, ⟨⟨by simp [zeroMn], none, 0, rfl, by simp [zeroMn], .inl rfl⟩, .inl rfl⟩, ⟨OwnRw.nil _ _ _ _ (by simp), .inl rfl⟩, ⟨OwnRw.nil _ _ _ _ (by simp), .inl rfl, (fun p hp => by cases hp), (fun i j hi => by simp at hi), fun i hi => by simp at hi⟩, .inl rfl, .inl rfl, .inl rfl⟩
theorem l9Copy_apM (v : Value) (m : Mn) (w : World) (hv : RdMend v m w) (hs : sizMend m ≤ 4194304) :
  Calls Tryz.prog 33 #[v] w fun e w' => (∃ u, e = .returned u ∧ ApM w.heap.size w'.heap.size u m w') ∧ Below w.heap.size w w' :=
 (l9Copy_ap v m w hv hs).mono fun e w' ⟨⟨sv, ev, wv, qs, h1, h2, h3⟩, h4⟩ => ⟨⟨_, h1, sv, ev, wv, qs, rfl, h2, h3⟩, h4⟩
def ack9P (ds : List Int) (m : Mn) (off node : Int) : Prop := (1 ≤ off ∧ off ≤ (m.wrote.length : Int)) ∧ (0 ≤ node ∧ node ≤ (ds.length : Int) - 1)
def ack9W (m : Mn) (off node : Int) : Mn := ⟨m.bye, m.epoch, m.sealed, m.seen, m.planned, m.wrote.set (off.toNat - 1) (putL node (m.wrote.getD (off.toNat - 1) []))⟩
open Classical in
noncomputable def ack9M (ds : List Int) (cop : Int) (m : Mn) (off node : Int) : Mn × Bool := if mnP ds cop m then (if ack9P ds m off node then (ack9W m off node, true) else (m, false)) else (zeroMn, false)
theorem ack9M_bad {ds : List Int} {cop : Int} {m : Mn} {off node : Int} (h : ¬ mnP ds cop m) : ack9M ds cop m off node = (zeroMn, false) := if_neg h
theorem ack9M_no {ds : List Int} {cop : Int} {m : Mn} {off node : Int} (h : mnP ds cop m) (hp : ¬ ack9P ds m off node) : ack9M ds cop m off node = (m, false) := (if_pos h).trans (if_neg hp)
theorem ack9M_yes {ds : List Int} {cop : Int} {m : Mn} {off node : Int} (h : mnP ds cop m) (hp : ack9P ds m off node) : ack9M ds cop m off node = (ack9W m off node, true) := (if_pos h).trans (if_pos hp)
set_option maxHeartbeats 8000000 in
theorem specAck9_ap (cv v : Value) (c : List Int × Int) (m : Mn) (off node : Int) (w : World) (hc : RdConfig cv c w) (hv : RdMend v m w) (hf : fitE m.seen) (hs : sizMend m ≤ 1048576) (hsc : c.1.length ≤ 1048576) :
  Calls Tryz.prog 145 #[cv, v, .int .i64 off, .int .i64 node] w (AnsM w (ack9M c.1 c.2 m off node)) := by
 have ba : ∀ (w : World) o, Below w.heap.size w (w.alloc o) := fun w o => (Below.refl _ _).alloc (Nat.le_refl _) o
 have CM := dH fun W (hb : Below w.heap.size w W) => specMendOk_any cv v c m W (hc.below hb) (hv.below hb) hf
 have CP := dH fun W (hb : Below w.heap.size w W) => l9Copy_apM v m W (hv.below hb) (by omega)
 obtain ⟨ds, cop⟩ := c
 obtain ⟨ca, cc, rfl, -⟩ := formConfig hc
 obtain ⟨sa, sc, ea, ec, wa, wz, rfl, hl1, hl2, hl3⟩ := formMend hv
 simp only at *
 have hwl : ∀ l ∈ m.wrote, l.length ≤ 1048576 := fun l hl => by
  obtain ⟨k, hk, rfl⟩ := List.getElem_of_mem hl
  have q := sumL_mem (ms := m.wrote) (k := k) hk
  unfold sizMend sizIntSS at hs
  omega
 have hwn : m.wrote.length ≤ 1048576 := by unfold sizMend sizIntSS at hs; omega
 have T1 : Hid (¬ mnP ds cop m → ack9M ds cop m off node = (zeroMn, false)) := ack9M_bad
 have T2 : Hid (mnP ds cop m → ¬ ack9P ds m off node → ack9M ds cop m off node = (m, false)) := ack9M_no
 have T3 : Hid (mnP ds cop m → ack9P ds m off node → ack9M ds cop m off node = (ack9W m off node, true)) := ack9M_yes
 have PA : Hid (ack9P ds m off node ↔ (1 ≤ off ∧ off ≤ (m.wrote.length : Int)) ∧ (0 ≤ node ∧ node ≤ (ds.length : Int) - 1)) := Iff.rfl
 have HPt := dH fun (lo hi : Nat) (u : Value) (W : World) (h : ApM lo hi u m W) => h.parts
 have HMe := dH fun (lo hi : Nat) (sv ev wv : Value) rs (W : World) (h : MIn lo hi sv ev wv rs m.sealed m.seen W) (e : rs.map Nst.m = m.wrote) => h.mend e
 have HMt : Hid (∀ (lo hi : Nat) (sv ev wv : Value) (rs : List (Nst (List Int))) (W : World), MIn lo hi sv ev wv rs m.sealed m.seen W → rs.map Nst.m = (ack9W m off node).wrote → OwMend lo hi (.agg #[.int .i64 m.bye, .int .i64 m.epoch, sv, ev, .bool m.planned, wv]) (ack9W m off node) W ∧ ApM lo hi (.agg #[.int .i64 m.bye, .int .i64 m.epoch, sv, ev, .bool m.planned, wv]) (ack9W m off node) W) := fun lo hi sv ev wv rs W h e => ⟨MIn.mend (m := ack9W m off node) h e, ⟨sv, ev, wv, rs, rfl, e, h⟩⟩
 have EW : Hid ((ack9W m off node).wrote = m.wrote.set (off.toNat - 1) (putL node (m.wrote.getD (off.toNat - 1) []))) := rfl
 generalize ack9M ds cop m off node = TM at *
 generalize ack9P ds m off node = PQ at *
 generalize mnP ds cop m = PM at *
 generalize m.bye = f0 at *
 generalize m.epoch = f1 at *
 generalize m.planned = f4 at *
 generalize m.sealed = ss at *
 generalize m.seen = es at *
 generalize m.wrote = ws at *
 clear hc hv hf hs
 have X0 := ((Bx.new w [.slice ca ds.length cc, .int .i64 cop] 26).below (ba _ (.cells #[.int .i64 f0, .int .i64 f1, .slice sa ss.length sc, .slice ea es.length ec, .bool f4, .slice wa ws.length wz] 30))).below (ba _ (.cells #[.int .i64 0, .int .i64 0, .slice none 0 0, .slice none 0 0, .bool false, .slice none 0 0] 30))
 have M0 := (Bx.new (w.alloc (.cells #[.slice ca ds.length cc, .int .i64 cop] 26)) [.int .i64 f0, .int .i64 f1, .slice sa ss.length sc, .slice ea es.length ec, .bool f4, .slice wa ws.length wz] 30).below (ba _ (.cells #[.int .i64 0, .int .i64 0, .slice none 0 0, .slice none 0 0, .bool false, .slice none 0 0] 30))
 have R0 := BxZ.new (B := w.heap.size) ((w.alloc (.cells #[.slice ca ds.length cc, .int .i64 cop] 26)).alloc (.cells #[.int .i64 f0, .int .i64 f1, .slice sa ss.length sc, .slice ea es.length ec, .bool f4, .slice wa ws.length wz] 30)) [.int .i64 0, .int .i64 0, .slice none 0 0, .slice none 0 0, .bool false, .slice none 0 0] 30 (by simp; omega)
 rw [show (w.alloc (.cells #[.slice ca ds.length cc, .int .i64 cop] 26)).heap.size = w.heap.size + 1 from by simp] at M0
 rw [show ((w.alloc (.cells #[.slice ca ds.length cc, .int .i64 cop] 26)).alloc (.cells #[.int .i64 f0, .int .i64 f1, .slice sa ss.length sc, .slice ea es.length ec, .bool f4, .slice wa ws.length wz] 30)).heap.size = w.heap.size + 1 + 1 from by simp] at R0
 have B0 := bT (bT (ba w (.cells #[.slice ca ds.length cc, .int .i64 cop] 26)) (ba _ (.cells #[.int .i64 f0, .int .i64 f1, .slice sa ss.length sc, .slice ea es.length ec, .bool f4, .slice wa ws.length wz] 30))) (ba _ (.cells #[.int .i64 0, .int .i64 0, .slice none 0 0, .slice none 0 0, .bool false, .slice none 0 0] 30))
 go_enter Tryz.func145, Tryz.ntmps145
 go_wp2_with fail
 generalize (((w.alloc (.cells #[.slice ca ds.length cc, .int .i64 cop] 26)).alloc (.cells #[.int .i64 f0, .int .i64 f1, .slice sa ss.length sc, .slice ea es.length ec, .bool f4, .slice wa ws.length wz] 30)).alloc (.cells #[.int .i64 0, .int .i64 0, .slice none 0 0, .slice none 0 0, .bool false, .slice none 0 0] 30)) = w0 at *
 have HX := dH fun W (hb : Below w0.heap.size w0 W) => X0.below hb
 have HM := dH fun W (hb : Below w0.heap.size w0 W) => M0.below hb
 have HR := dH fun W (hb : Below w0.heap.size w0 W) => R0.below hb
 have hr0 : w.heap.size + 1 + 1 < w0.heap.size := R0.lt
 clear X0 M0 R0
 refine (dU CM _ B0).mono ?_
 rintro e w1 ⟨⟨b1, rfl, h1⟩, bl1⟩
 cases b1
 ·have e0 := dU T1 (fun h => by have := h1.2 h; cases this)
  subst e0
  have RB := dU HR _ bl1
  have BB := bT B0 bl1
  clear h1 CM CP HX HM HR T1 T2 T3 PA HPt HMe HMt EW
  have hVz : w1.heap.size = ((((((w1.setCell ⟨w.heap.size + 1 + 1, 0, none⟩ (.int .i64 0)).setCell ⟨w.heap.size + 1 + 1, 1, none⟩ (.int .i64 0)).setCell ⟨w.heap.size + 1 + 1, 2, none⟩ (.slice none 0 0)).setCell ⟨w.heap.size + 1 + 1, 3, none⟩ (.slice none 0 0)).setCell ⟨w.heap.size + 1 + 1, 4, none⟩ (.bool false)).setCell ⟨w.heap.size + 1 + 1, 5, none⟩ (.slice none 0 0)).heap.size := by simp
  obtain ⟨z0, g0⟩ := RB.2 0 _ rfl
  obtain ⟨z1, g1⟩ := RB.2 1 _ rfl
  obtain ⟨z2, g2⟩ := RB.2 2 _ rfl
  obtain ⟨z3, g3⟩ := RB.2 3 _ rfl
  obtain ⟨z4, g4⟩ := RB.2 4 _ rfl
  obtain ⟨z5, g5⟩ := RB.2 5 _ rfl
  have YY := dH ((((((RB.put 0 (.int .i64 0)).put 1 (.int .i64 0)).put 2 (.slice none 0 0)).put 3 (.slice none 0 0)).put 4 (.bool false)).put 5 (.slice none 0 0))
  have BF := dH ((((((BB.setCell (p := ⟨w.heap.size + 1 + 1, 0, none⟩) (by simp only; omega) (.int .i64 0)).setCell (p := ⟨w.heap.size + 1 + 1, 1, none⟩) (by simp only; omega) (.int .i64 0)).setCell (p := ⟨w.heap.size + 1 + 1, 2, none⟩) (by simp only; omega) (.slice none 0 0)).setCell (p := ⟨w.heap.size + 1 + 1, 3, none⟩) (by simp only; omega) (.slice none 0 0)).setCell (p := ⟨w.heap.size + 1 + 1, 4, none⟩) (by simp only; omega) (.bool false)).setCell (p := ⟨w.heap.size + 1 + 1, 5, none⟩) (by simp only; omega) (.slice none 0 0))
  clear RB BB
  go_wp2_with fail
  generalize ((((((w1.setCell ⟨w.heap.size + 1 + 1, 0, none⟩ (.int .i64 0)).setCell ⟨w.heap.size + 1 + 1, 1, none⟩ (.int .i64 0)).setCell ⟨w.heap.size + 1 + 1, 2, none⟩ (.slice none 0 0)).setCell ⟨w.heap.size + 1 + 1, 3, none⟩ (.slice none 0 0)).setCell ⟨w.heap.size + 1 + 1, 4, none⟩ (.bool false)).setCell ⟨w.heap.size + 1 + 1, 5, none⟩ (.slice none 0 0)) = V at *
  have q0 := ((dU YY).2 0 _ rfl).1
  have q1 := ((dU YY).2 1 _ rfl).1
  have q2 := ((dU YY).2 2 _ rfl).1
  have q3 := ((dU YY).2 3 _ rfl).1
  have q4 := ((dU YY).2 4 _ rfl).1
  have q5 := ((dU YY).2 5 _ rfl).1
  refine bodyPost_ret (v := .tuple #[.agg #[.int .i64 0, .int .i64 0, .slice none 0 0, .slice none 0 0, .bool false, .slice none 0 0], .bool false]) (by simp [results, Tryz.results145, go_sem, q0, q1, q2, q3, q4, q5]) rfl (AnsM.no (OwMend.zero _ _ _) (dU BF))
 have hPM := dH (h1.1 rfl)
 clear h1 CM
 have y0 := dU HM _ bl1 0 _ rfl
 have y1 := dU HM _ bl1 1 _ rfl
 have y2 := dU HM _ bl1 2 _ rfl
 have y3 := dU HM _ bl1 3 _ rfl
 have y4 := dU HM _ bl1 4 _ rfl
 have y5 := dU HM _ bl1 5 _ rfl
 go_wp2_with fail
 refine (dU CP _ (bT B0 bl1)).mono ?_
 rintro e w2 ⟨⟨u, rfl, OU⟩, b2⟩
 obtain ⟨ua, uc, va, vc, oa, oc, rs, rfl, hrs, MO⟩ := dU HPt _ _ _ _ OU
 have hs1 := bl1.size
 have hs2 := b2.size
 have hsB := B0.size
 have bO := ba w2 (.cells #[.int .i64 f0, .int .i64 f1, .slice ua ss.length uc, .slice va es.length vc, .bool f4, .slice oa ws.length oc] 30)
 have OB := BxZ.new (B := w.heap.size) w2 [.int .i64 f0, .int .i64 f1, .slice ua ss.length uc, .slice va es.length vc, .bool f4, .slice oa ws.length oc] 30 (by omega)
 have M3 := MO.below (Nat.le_refl _) bO
 have hb3 := bT bl1 (bT b2 bO)
 clear y0 y1 y2 y3 y4 y5 OU CP MO
 have y5' := dU HM _ hb3 5 _ rfl
 have x0' := dU HX _ hb3 0 _ rfl
 have CI := dH fun W => l1In_any off 1 (ws.length : Int) W
 have CJ := dH fun W => l1In_any node 0 ((ds.length : Int) - 1) W
 go_wp2_with fail
 generalize hob : w2.heap.size = ob at *
 generalize w2.alloc (.cells #[.int .i64 f0, .int .i64 f1, .slice ua ss.length uc, .slice va es.length vc, .bool f4, .slice oa ws.length oc] 30) = w3 at *
 have hob3 : ob < w3.heap.size := OB.lt
 refine (dU CI _).mono ?_
 rintro e wi ⟨⟨bi, rfl, hi⟩, hwi⟩
 subst wi
 clear CI
 cases bi
 ·have e0 := dU T2 (dU hPM) (fun h => by have := hi.2 ((dU PA).1 h).1; cases this)
  subst e0
  have RB := dU HR _ hb3
  have BB := bT B0 hb3
  have o0 := (OB.2 0 _ rfl).1
  have o1 := (OB.2 1 _ rfl).1
  have o2 := (OB.2 2 _ rfl).1
  have o3 := (OB.2 3 _ rfl).1
  have o4 := (OB.2 4 _ rfl).1
  have o5 := (OB.2 5 _ rfl).1
  clear hi CJ HX HM HR T1 T2 T3 PA HPt HMt EW OB
  have hVz : w3.heap.size = ((((((w3.setCell ⟨w.heap.size + 1 + 1, 0, none⟩ (.int .i64 f0)).setCell ⟨w.heap.size + 1 + 1, 1, none⟩ (.int .i64 f1)).setCell ⟨w.heap.size + 1 + 1, 2, none⟩ (.slice ua ss.length uc)).setCell ⟨w.heap.size + 1 + 1, 3, none⟩ (.slice va es.length vc)).setCell ⟨w.heap.size + 1 + 1, 4, none⟩ (.bool f4)).setCell ⟨w.heap.size + 1 + 1, 5, none⟩ (.slice oa ws.length oc)).heap.size := by simp
  obtain ⟨z0, g0⟩ := RB.2 0 _ rfl
  obtain ⟨z1, g1⟩ := RB.2 1 _ rfl
  obtain ⟨z2, g2⟩ := RB.2 2 _ rfl
  obtain ⟨z3, g3⟩ := RB.2 3 _ rfl
  obtain ⟨z4, g4⟩ := RB.2 4 _ rfl
  obtain ⟨z5, g5⟩ := RB.2 5 _ rfl
  have YY := dH ((((((RB.put 0 (.int .i64 f0)).put 1 (.int .i64 f1)).put 2 (.slice ua ss.length uc)).put 3 (.slice va es.length vc)).put 4 (.bool f4)).put 5 (.slice oa ws.length oc))
  have BF := dH ((((((BB.setCell (p := ⟨w.heap.size + 1 + 1, 0, none⟩) (by simp only; omega) (.int .i64 f0)).setCell (p := ⟨w.heap.size + 1 + 1, 1, none⟩) (by simp only; omega) (.int .i64 f1)).setCell (p := ⟨w.heap.size + 1 + 1, 2, none⟩) (by simp only; omega) (.slice ua ss.length uc)).setCell (p := ⟨w.heap.size + 1 + 1, 3, none⟩) (by simp only; omega) (.slice va es.length vc)).setCell (p := ⟨w.heap.size + 1 + 1, 4, none⟩) (by simp only; omega) (.bool f4)).setCell (p := ⟨w.heap.size + 1 + 1, 5, none⟩) (by simp only; omega) (.slice oa ws.length oc))
  have MF := dH ((((((M3.far (b := w.heap.size + 1 + 1) (o := 0) (.inl (by omega)) (.int .i64 f0)).far (b := w.heap.size + 1 + 1) (o := 1) (.inl (by omega)) (.int .i64 f1)).far (b := w.heap.size + 1 + 1) (o := 2) (.inl (by omega)) (.slice ua ss.length uc)).far (b := w.heap.size + 1 + 1) (o := 3) (.inl (by omega)) (.slice va es.length vc)).far (b := w.heap.size + 1 + 1) (o := 4) (.inl (by omega)) (.bool f4)).far (b := w.heap.size + 1 + 1) (o := 5) (.inl (by omega)) (.slice oa ws.length oc))
  clear RB BB
  go_wp2_with fail
  generalize ((((((w3.setCell ⟨w.heap.size + 1 + 1, 0, none⟩ (.int .i64 f0)).setCell ⟨w.heap.size + 1 + 1, 1, none⟩ (.int .i64 f1)).setCell ⟨w.heap.size + 1 + 1, 2, none⟩ (.slice ua ss.length uc)).setCell ⟨w.heap.size + 1 + 1, 3, none⟩ (.slice va es.length vc)).setCell ⟨w.heap.size + 1 + 1, 4, none⟩ (.bool f4)).setCell ⟨w.heap.size + 1 + 1, 5, none⟩ (.slice oa ws.length oc)) = V at *
  have q0 := ((dU YY).2 0 _ rfl).1
  have q1 := ((dU YY).2 1 _ rfl).1
  have q2 := ((dU YY).2 2 _ rfl).1
  have q3 := ((dU YY).2 3 _ rfl).1
  have q4 := ((dU YY).2 4 _ rfl).1
  have q5 := ((dU YY).2 5 _ rfl).1
  refine bodyPost_ret (v := .tuple #[.agg #[.int .i64 f0, .int .i64 f1, .slice ua ss.length uc, .slice va es.length vc, .bool f4, .slice oa ws.length oc], .bool false]) (by simp [results, Tryz.results145, go_sem, q0, q1, q2, q3, q4, q5]) rfl (AnsM.no (dU HMe _ _ _ _ _ rs V ((dU MF).wide (by omega) (by omega)) hrs) (dU BF))
 have hI := hi.1 rfl
 clear hi
 go_wp2_with fail
 refine (dU CJ _).mono ?_
 rintro e wj ⟨⟨bj, rfl, hj⟩, hwj⟩
 subst wj
 clear CJ
 cases bj
 ·have e0 := dU T2 (dU hPM) (fun h => by have := hj.2 ((dU PA).1 h).2; cases this)
  subst e0
  have RB := dU HR _ hb3
  have BB := bT B0 hb3
  have o0 := (OB.2 0 _ rfl).1
  have o1 := (OB.2 1 _ rfl).1
  have o2 := (OB.2 2 _ rfl).1
  have o3 := (OB.2 3 _ rfl).1
  have o4 := (OB.2 4 _ rfl).1
  have o5 := (OB.2 5 _ rfl).1
  clear hj HX HM HR T1 T2 T3 PA HPt HMt EW OB
  have hVz : w3.heap.size = ((((((w3.setCell ⟨w.heap.size + 1 + 1, 0, none⟩ (.int .i64 f0)).setCell ⟨w.heap.size + 1 + 1, 1, none⟩ (.int .i64 f1)).setCell ⟨w.heap.size + 1 + 1, 2, none⟩ (.slice ua ss.length uc)).setCell ⟨w.heap.size + 1 + 1, 3, none⟩ (.slice va es.length vc)).setCell ⟨w.heap.size + 1 + 1, 4, none⟩ (.bool f4)).setCell ⟨w.heap.size + 1 + 1, 5, none⟩ (.slice oa ws.length oc)).heap.size := by simp
  obtain ⟨z0, g0⟩ := RB.2 0 _ rfl
  obtain ⟨z1, g1⟩ := RB.2 1 _ rfl
  obtain ⟨z2, g2⟩ := RB.2 2 _ rfl
  obtain ⟨z3, g3⟩ := RB.2 3 _ rfl
  obtain ⟨z4, g4⟩ := RB.2 4 _ rfl
  obtain ⟨z5, g5⟩ := RB.2 5 _ rfl
  have YY := dH ((((((RB.put 0 (.int .i64 f0)).put 1 (.int .i64 f1)).put 2 (.slice ua ss.length uc)).put 3 (.slice va es.length vc)).put 4 (.bool f4)).put 5 (.slice oa ws.length oc))
  have BF := dH ((((((BB.setCell (p := ⟨w.heap.size + 1 + 1, 0, none⟩) (by simp only; omega) (.int .i64 f0)).setCell (p := ⟨w.heap.size + 1 + 1, 1, none⟩) (by simp only; omega) (.int .i64 f1)).setCell (p := ⟨w.heap.size + 1 + 1, 2, none⟩) (by simp only; omega) (.slice ua ss.length uc)).setCell (p := ⟨w.heap.size + 1 + 1, 3, none⟩) (by simp only; omega) (.slice va es.length vc)).setCell (p := ⟨w.heap.size + 1 + 1, 4, none⟩) (by simp only; omega) (.bool f4)).setCell (p := ⟨w.heap.size + 1 + 1, 5, none⟩) (by simp only; omega) (.slice oa ws.length oc))
  have MF := dH ((((((M3.far (b := w.heap.size + 1 + 1) (o := 0) (.inl (by omega)) (.int .i64 f0)).far (b := w.heap.size + 1 + 1) (o := 1) (.inl (by omega)) (.int .i64 f1)).far (b := w.heap.size + 1 + 1) (o := 2) (.inl (by omega)) (.slice ua ss.length uc)).far (b := w.heap.size + 1 + 1) (o := 3) (.inl (by omega)) (.slice va es.length vc)).far (b := w.heap.size + 1 + 1) (o := 4) (.inl (by omega)) (.bool f4)).far (b := w.heap.size + 1 + 1) (o := 5) (.inl (by omega)) (.slice oa ws.length oc))
  clear RB BB
  go_wp2_with fail
  generalize ((((((w3.setCell ⟨w.heap.size + 1 + 1, 0, none⟩ (.int .i64 f0)).setCell ⟨w.heap.size + 1 + 1, 1, none⟩ (.int .i64 f1)).setCell ⟨w.heap.size + 1 + 1, 2, none⟩ (.slice ua ss.length uc)).setCell ⟨w.heap.size + 1 + 1, 3, none⟩ (.slice va es.length vc)).setCell ⟨w.heap.size + 1 + 1, 4, none⟩ (.bool f4)).setCell ⟨w.heap.size + 1 + 1, 5, none⟩ (.slice oa ws.length oc)) = V at *
  have q0 := ((dU YY).2 0 _ rfl).1
  have q1 := ((dU YY).2 1 _ rfl).1
  have q2 := ((dU YY).2 2 _ rfl).1
  have q3 := ((dU YY).2 3 _ rfl).1
  have q4 := ((dU YY).2 4 _ rfl).1
  have q5 := ((dU YY).2 5 _ rfl).1
  refine bodyPost_ret (v := .tuple #[.agg #[.int .i64 f0, .int .i64 f1, .slice ua ss.length uc, .slice va es.length vc, .bool f4, .slice oa ws.length oc], .bool false]) (by simp [results, Tryz.results145, go_sem, q0, q1, q2, q3, q4, q5]) rfl (AnsM.no (dU HMe _ _ _ _ _ rs V ((dU MF).wide (by omega) (by omega)) hrs) (dU BF))
 have e0 := dU T3 (dU hPM) ((dU PA).2 ⟨hI, hj.1 rfl⟩)
 subst e0
 obtain ⟨j, hj'⟩ : ∃ j : Nat, off = (j : Int) + 1 := ⟨off.toNat - 1, by omega⟩
 have hrl : rs.length = ws.length := by rw [← hrs, List.length_map]
 have hjl : j < rs.length := by omega
 have ej : off.toNat - 1 = j := by omega
 have eg : ws.getD j [] = rs[j].m := by
  have h1 : ws[j]'(by omega) = (rs.map Nst.m)[j]'(by simpa using hjl) := by simp only [hrs]
  rw [List.getElem_map] at h1
  rw [List.getD_eq_getElem?_getD, List.getElem?_eq_getElem (by omega), Option.getD_some, h1]
 have EWj : Hid (∀ p : Nst (List Int), p.m = putL node rs[j].m → (rs.set j p).map Nst.m = (ack9W m off node).wrote) := fun p hp => by
  rw [dU EW, ej, eg, List.map_set, hrs, hp]
 have hnl : rs[j].m.length ≤ 1048576 := hwl _ (by rw [← hrs]; exact List.mem_map.2 ⟨_, List.getElem_mem hjl, rfl⟩)
 have hne0 : rs ≠ [] := fun e => by rw [e] at hjl; simp at hjl
 obtain ⟨g, rfl, -, hgh, hgl⟩ := M3.head hne0
 obtain ⟨g', o', e', c5, f5, n5⟩ := M3.owm.cell hjl
 cases e'
 rw [Nat.zero_add] at c5 f5
 clear hne0
 have M4 := dH M3
 have t3 : IntKind.i64.wrap ((j : Int) + 1 - 1) = (j : Int) := by rw [IntKind.wrap_i64]; omega
 have t6 : IntKind.i64.wrap (j : Int) = (j : Int) := by rw [IntKind.wrap_i64]; omega
 have t4 : (j : Int) < (ws.length : Int) := by omega
 have t5 : (0 : Int) ≤ (j : Int) := by omega
 subst hj'
 generalize hy : rs[j] = y at *
 obtain ⟨ya, yc, yn⟩ := y
 simp only at *
 have p0 := (OB.2 5 _ rfl).1
 have bd : Below w3.heap.size w3 w3.drew := (Below.refl _ _).drew
 clear hj hI M3 T1 T2 T3 PA HPt HMe EW y5' x0' eg ej
 go_wp2_with fail
 refine wp_region_noPanic ?_
 refine wp_region_held_drew (S := fun W => W.cell? ⟨ob, 5, none⟩ = some (.slice (some ⟨g, 0, none⟩) ws.length oc)) (by kernel_rfl) (by first | exact pd | exact p0 | go_keep) (fun hHeld => ?_)
 have hwd : Below w3.heap.size w3 w3.drew := bd
 have cd := (bd.cell (p := ⟨g, j, none⟩) (dCell_lt c5)).trans c5
 have fd := (bd.frozen (p := ⟨g, j, none⟩) (dCell_lt c5)).trans f5
 have nd := n5.below bd
 have pd := (OB.below bd).2 5 _ rfl |>.1
 clear c5 f5 n5
 generalize w3.drew = wd at *
 refine tY 0 (v := ?_) rfl (by kernel_rfl) (.inl ⟨by rfl, ?_⟩) ‹_› ?_
 rotate_left 1
 ·intro w hSw
  (try dsimp only at hSw)
  first | (go_simp; done) | (go_simp; with_reducible rfl)
 try simp only [Act.put, sA, sB, sC]
 refine tY 1 (v := ?_) rfl (by kernel_rfl) (.inl ⟨by rfl, ?_⟩) ‹_› ?_
 rotate_left 1
 ·intro w hSw
  (try dsimp only at hSw)
  first | (go_simp; done) | (go_simp; with_reducible rfl)
 try simp only [Act.put, sA, sB, sC]
 refine tY 2 (v := ?_) rfl (by kernel_rfl) (.inl ⟨by rfl, ?_⟩) ‹_› ?_
 rotate_left 1
 ·intro w hSw
  (try dsimp only at hSw)
  first | (go_simp; done) | (go_simp; with_reducible rfl)
 try simp only [Act.put, sA, sB, sC]
 refine tY 3 (v := ?_) rfl (by kernel_rfl) (.inl ⟨by rfl, ?_⟩) ‹_› ?_
 rotate_left 1
 ·intro w hSw
  (try dsimp only at hSw)
  first | (go_simp; done) | (go_simp; with_reducible rfl)
 try simp only [Act.put, sA, sB, sC]
 refine tY 4 (v := ?_) rfl (by kernel_rfl) (.inl ⟨by rfl, ?_⟩) ‹_› ?_
 rotate_left 1
 ·intro w hSw
  (try dsimp only at hSw)
  first | (go_simp; done) | (go_simp; with_reducible rfl)
 try simp only [Act.put, sA, sB, sC]
 refine tY 5 (v := ?_) rfl (by kernel_rfl) (.inl ⟨by rfl, ?_⟩) ‹_› ?_
 rotate_left 1
 ·intro w hSw
  (try dsimp only at hSw)
  first | (go_simp; done) | (go_simp; with_reducible rfl)
 try simp only [Act.put, sA, sB, sC]
 refine tY 6 (v := ?_) rfl (by kernel_rfl) (.inl ⟨by rfl, ?_⟩) ‹_› ?_
 rotate_left 1
 ·intro w hSw
  (try dsimp only at hSw)
  first | (go_simp; done) | (go_simp; with_reducible rfl)
 try simp only [Act.put, sA, sB, sC]
 refine tY 7 (v := ?_) rfl (by kernel_rfl) (.inl ⟨by rfl, ?_⟩) ‹_› ?_
 rotate_left 1
 ·intro w hSw
  (try dsimp only at hSw)
  first | (go_simp; done) | (go_simp; with_reducible rfl)
 try simp only [Act.put, sA, sB, sC]
 refine tY 8 (v := ?_) rfl (by kernel_rfl) (.inl ⟨by rfl, ?_⟩) ‹_› ?_
 rotate_left 1
 ·intro w hSw
  (try dsimp only at hSw)
  first | (go_simp; done) | (go_simp; with_reducible rfl)
 try simp only [Act.put, sA, sB, sC]
 refine tY 10 (v := ?_) rfl (by kernel_rfl) (.inl ⟨by rfl, ?_⟩) ‹_› ?_
 rotate_left 1
 ·intro w hSw
  (try dsimp only at hSw)
  first | (go_simp; done) | (go_simp; with_reducible rfl)
 try simp only [Act.put, sA, sB, sC]
 refine wpAnyH_ready (rs := [9]) (by kernel_rfl) (by simp) ?_
 refine rC rfl (fun K hK => ?_) AllReadyH.nil
 go_simp
 refine hK.out _ _ (by first | exact pd | exact p0 | go_keep) (fun hHeld => ?_)
 clear hK K
 try simp only [Act.put, sA, sB, sC]
 refine wpAnyH_ready (rs := [11]) (by kernel_rfl) (by simp) ?_
 refine rC rfl (fun K hK => ?_) AllReadyH.nil
 go_simp
 refine (l4Put_all (.slice ya yn.length yc) yn node wd nd (by omega)).mono ?_
 rintro e w5 ⟨⟨q, rfl, Q5⟩, b5⟩
 obtain ⟨-, qa, qc, rfl, -, -⟩ := Q5.bs
 have hsd := hwd.size
 have hs5 := b5.size
 have Md := (dU M4).below (by omega) (bT hwd b5)
 have Od := OB.below (bT hwd b5)
 have cd' := (b5.cell (p := ⟨g, j, none⟩) (dCell_lt cd)).trans cd
 have fd' := (b5.frozen (p := ⟨g, j, none⟩) (dCell_lt cd)).trans fd
 have T5 := Md.told (p := ⟨qa, qc, putL node yn⟩) hjl (B := wd.heap.size) (by omega) hs5 (by omega) Q5
 have pd := (Od.2 5 _ rfl).1
 have hw5 := bT hwd b5
 clear cd fd nd hwd b5 Q5 Md
 (try go_wp2_with fail)
 refine hK.out _ _ (by first | exact pd | exact p0 | go_keep) (fun hHeld => ?_)
 clear hK K
 try simp only [Act.put, sA, sB, sC]
 refine tY 12 (v := ?_) rfl (by kernel_rfl) (.inl ⟨by rfl, ?_⟩) ‹_› ?_
 rotate_left 1
 ·intro w hSw
  (try dsimp only at hSw)
  first | (go_simp; done) | (go_simp; with_reducible rfl)
 try simp only [Act.put, sA, sB, sC]
 refine wpAnyH_ready (rs := [13]) (by kernel_rfl) (by simp) ?_
 refine rC rfl (fun K hK => ?_) AllReadyH.nil
 go_simp
 have hgo : g ≠ ob := by omega
 have O6 := Od.far (b' := g) (o := j) (Ne.symm hgo) (.slice qa (putL node yn).length qc)
 have hg0 : w0.heap.size ≤ g := by omega
 have hb6 := (bT hb3 hw5).setCell (p := ⟨g, j, none⟩) hg0 (.slice qa (putL node yn).length qc)
 have hz6 : w5.heap.size = (w5.setCell ⟨g, j, none⟩ (.slice qa (putL node yn).length qc)).heap.size := by simp
 have pd := (O6.2 5 _ rfl).1
 clear cd' fd' Od hw5
 generalize w5.setCell ⟨g, j, none⟩ (.slice qa (putL node yn).length qc) = w6 at *
 (try go_wp2_with fail)
 refine hK.out _ _ (by first | exact pd | exact p0 | go_keep) (fun hHeld => ?_)
 clear hK K
 try simp only [Act.put, sA, sB, sC]
 refine wpAnyH_done (by kernel_rfl) ?_ _
 refine NoPanic.normal ?_
 have RB := dU HR _ hb6
 have BB := bT B0 hb6
 have o0 := (O6.2 0 _ rfl).1
 have o1 := (O6.2 1 _ rfl).1
 have o2 := (O6.2 2 _ rfl).1
 have o3 := (O6.2 3 _ rfl).1
 have o4 := (O6.2 4 _ rfl).1
 have o5 := (O6.2 5 _ rfl).1
 have G9 := dH (dU EWj ⟨qa, qc, putL node yn⟩ rfl)
 clear HX HM HR EWj O6 OB M4 pd p0
 have hVz : w6.heap.size = ((((((w6.setCell ⟨w.heap.size + 1 + 1, 0, none⟩ (.int .i64 f0)).setCell ⟨w.heap.size + 1 + 1, 1, none⟩ (.int .i64 f1)).setCell ⟨w.heap.size + 1 + 1, 2, none⟩ (.slice ua ss.length uc)).setCell ⟨w.heap.size + 1 + 1, 3, none⟩ (.slice va es.length vc)).setCell ⟨w.heap.size + 1 + 1, 4, none⟩ (.bool f4)).setCell ⟨w.heap.size + 1 + 1, 5, none⟩ (.slice (some ⟨g, 0, none⟩) ws.length oc)).heap.size := by simp
 obtain ⟨z0, g0⟩ := RB.2 0 _ rfl
 obtain ⟨z1, g1⟩ := RB.2 1 _ rfl
 obtain ⟨z2, g2⟩ := RB.2 2 _ rfl
 obtain ⟨z3, g3⟩ := RB.2 3 _ rfl
 obtain ⟨z4, g4⟩ := RB.2 4 _ rfl
 obtain ⟨z5, g5⟩ := RB.2 5 _ rfl
 have YY := dH ((((((RB.put 0 (.int .i64 f0)).put 1 (.int .i64 f1)).put 2 (.slice ua ss.length uc)).put 3 (.slice va es.length vc)).put 4 (.bool f4)).put 5 (.slice (some ⟨g, 0, none⟩) ws.length oc))
 have BF := dH ((((((BB.setCell (p := ⟨w.heap.size + 1 + 1, 0, none⟩) (by simp only; omega) (.int .i64 f0)).setCell (p := ⟨w.heap.size + 1 + 1, 1, none⟩) (by simp only; omega) (.int .i64 f1)).setCell (p := ⟨w.heap.size + 1 + 1, 2, none⟩) (by simp only; omega) (.slice ua ss.length uc)).setCell (p := ⟨w.heap.size + 1 + 1, 3, none⟩) (by simp only; omega) (.slice va es.length vc)).setCell (p := ⟨w.heap.size + 1 + 1, 4, none⟩) (by simp only; omega) (.bool f4)).setCell (p := ⟨w.heap.size + 1 + 1, 5, none⟩) (by simp only; omega) (.slice (some ⟨g, 0, none⟩) ws.length oc))
 have MF := dH ((((((T5.far (b := w.heap.size + 1 + 1) (o := 0) (.inl (by omega)) (.int .i64 f0)).far (b := w.heap.size + 1 + 1) (o := 1) (.inl (by omega)) (.int .i64 f1)).far (b := w.heap.size + 1 + 1) (o := 2) (.inl (by omega)) (.slice ua ss.length uc)).far (b := w.heap.size + 1 + 1) (o := 3) (.inl (by omega)) (.slice va es.length vc)).far (b := w.heap.size + 1 + 1) (o := 4) (.inl (by omega)) (.bool f4)).far (b := w.heap.size + 1 + 1) (o := 5) (.inl (by omega)) (.slice (some ⟨g, 0, none⟩) ws.length oc))
 clear RB BB
 go_wp2_with fail
 generalize ((((((w6.setCell ⟨w.heap.size + 1 + 1, 0, none⟩ (.int .i64 f0)).setCell ⟨w.heap.size + 1 + 1, 1, none⟩ (.int .i64 f1)).setCell ⟨w.heap.size + 1 + 1, 2, none⟩ (.slice ua ss.length uc)).setCell ⟨w.heap.size + 1 + 1, 3, none⟩ (.slice va es.length vc)).setCell ⟨w.heap.size + 1 + 1, 4, none⟩ (.bool f4)).setCell ⟨w.heap.size + 1 + 1, 5, none⟩ (.slice (some ⟨g, 0, none⟩) ws.length oc)) = V at *
 have q0 := ((dU YY).2 0 _ rfl).1
 have q1 := ((dU YY).2 1 _ rfl).1
 have q2 := ((dU YY).2 2 _ rfl).1
 have q3 := ((dU YY).2 3 _ rfl).1
 have q4 := ((dU YY).2 4 _ rfl).1
 have q5 := ((dU YY).2 5 _ rfl).1
 refine bodyPost_ret (v := .tuple #[.agg #[.int .i64 f0, .int .i64 f1, .slice ua ss.length uc, .slice va es.length vc, .bool f4, .slice (some ⟨g, 0, none⟩) ws.length oc], .bool true]) (by simp [results, Tryz.results145, go_sem, q0, q1, q2, q3, q4, q5]) rfl (AnsM.yes (dU HMt _ _ _ _ _ _ V ((dU MF).wide (by omega) (by omega)) (dU G9)) (dU BF))
end Go.Proofs.YtjkjmapibcfcdaaGreat
