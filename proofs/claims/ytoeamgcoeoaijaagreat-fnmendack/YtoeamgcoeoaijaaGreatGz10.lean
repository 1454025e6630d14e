/- Several texts in one: MnK, MnL. -/
import Derived.Test.YtoeamgcoeoaijaaGreatMnI
import Derived.Test.YtoeamgcoeoaijaaGreatMnJ
import Derived.Test.YtoeamgcoeoaijaaGreatGw2
import Derived.Deep.RegionHeld3
import Derived.Deep.DeepCutAuto
import Derived.Test.YtoeamgcoeoaijaaGreatWrT
namespace Go.Proofs.YtoeamgcoeoaijaaGreat
open Go.ChangeShapes Go.WideShapes Go.ChangeAt Go.RowKit
set_option linter.unusedSimpArgs false
set_option linter.unusedVariables false
set_option maxRecDepth 100000
theorem ImM.below {W W' : World} {lo : Nat} {sv ev wv : Value} {rs : List (Nst (List Int))} {ss : List Int} {es : List Ent} (h : ImM W lo sv ev wv rs ss es) (hb : Below W.heap.size W W') : ImM W' lo sv ev wv rs ss es := ⟨h.1.below hb, h.2.1.below hb, h.2.2.1.below hb, fun p hp => (h.2.2.2.1 p hp).below hb, h.2.2.2.2⟩
def FrM (b : Nat) (sv ev wv : Value) (rs : List (Nst (List Int))) (ss : List Int) : Prop := (ss = [] ∨ bO sv ≠ b) ∧ touch ev ≠ some b ∧ Off b wv rs
theorem ImM.fresh {W : World} {lo b : Nat} {sv ev wv : Value} {rs : List (Nst (List Int))} {ss : List Int} {es : List Ent} (h : ImM W lo sv ev wv rs ss es) (hb : W.heap.size ≤ b) : FrM b sv ev wv rs ss := by
 obtain ⟨h1, h2, h3, h4, h5, -⟩ := h
 refine ⟨?_, fun e => ?_, ?_, fun p hp => ?_⟩
 ·rcases h1.bs.lt with q | q
  ·exact .inl q
  ·exact .inr (by omega)
 ·have := (h2.touched elemE e).2
  omega
 ·rcases h3.ltG lsCl_len (by decide) with q | q
  ·exact .inl q
  ·exact .inr (by omega)
 ·rcases (h4 p hp).bs.lt with q | q
  ·exact .inl q
  ·exact .inr (by omega)
set_option maxHeartbeats 8000000 in
theorem changed9_any (cv v : Value) (c : List Int × Int) (m : Mn) (F : Nat) (caps : Array Value) (RR : Mn) (ok : Bool) (w : World) (hc : RdConfig cv c w) (hv : RdMend v m w) (okc : okConfig c) (okm : okMend m) (hsc : sizConfig c ≤ 1048576) (hs : sizMend m ≤ 1048576) (hF : ∀ args w, (callFunc F args).run Tryz.prog w = .ok (.enter F args) w) (hR0 : ¬ mnP c.1 c.2 m → RR = zeroMn ∧ ok = false) (hR1 : mnP c.1 c.2 m → ok = false → RR = m)
  (hch : mnP c.1 c.2 m → ∀ W lo b sv ev wv qs, Below w.heap.size w W → w.heap.size ≤ lo → lo ≤ W.heap.size → BxZ W lo b [.int .i64 m.bye, .int .i64 m.epoch, sv, ev, .bool m.planned, wv] → qs.map Nst.m = m.wrote → ImM W lo sv ev wv qs m.sealed m.seen → FrM b sv ev wv qs m.sealed → Calls Tryz.prog F (#[.pointer (some ⟨b, 0, none⟩)] ++ caps) W fun e w' => e = .returned (.bool ok) ∧ Below lo W w' ∧ (ok = true → ∃ sv' ev' wv' rs', BxZ w' lo b [.int .i64 RR.bye, .int .i64 RR.epoch, sv', ev', .bool RR.planned, wv'] ∧ rs'.map Nst.m = RR.wrote ∧ OwM lo w'.heap.size sv' ev' wv' rs' RR.sealed RR.seen w')) :
  Calls Tryz.prog 42 #[v, cv, .func (.func F) #[] caps] w fun e w' => (∃ u, e = .returned (.tuple #[u, .bool ok]) ∧ OwMend w.heap.size w'.heap.size u RR w') ∧ Below w.heap.size w w' := by
 have ba : ∀ (w : World) o, Below w.heap.size w (w.alloc o) := fun w o => (Below.refl _ _).alloc (Nat.le_refl _) o
 have CO := dH fun W (hb : Below w.heap.size w W) => implMendOk_any cv v c m W (hc.below hb) (hv.below hb) okc okm hsc hs
 have CP := dH fun W (hb : Below w.heap.size w W) => copied9_any v m W (hv.below hb) hs
 obtain ⟨ds, cop⟩ := c
 obtain ⟨ca, cc, rfl, -⟩ := formConfig hc
 obtain ⟨sa, sc, ea, ec, wa, wz, rfl, hl1, hl2, hl3⟩ := formMend hv
 simp only at *
 have CH := dH hch
 have R0' := dH hR0
 have R1' := dH hR1
 have HMe := dH fun (lo hi : Nat) (sv ev wv : Value) rs (W : World) (h : OwM lo hi sv ev wv rs m.sealed m.seen W) (e : rs.map Nst.m = m.wrote) => h.mend e
 have HMt := dH fun (lo hi : Nat) (sv ev wv : Value) rs (W : World) (h : OwM lo hi sv ev wv rs RR.sealed RR.seen W) (e : rs.map Nst.m = RR.wrote) => h.mend e
 have HLn : Hid (∀ (lo hi : Nat) (sv ev wv : Value) (rs : List (Nst (List Int))) (s : List Int) (e : List Ent) (ws : List (List Int)) (W : World), OwM lo hi sv ev wv rs s e W → rs.map Nst.m = ws → ∃ a1 c1 a2 c2 a3 c3, sv = .slice a1 s.length c1 ∧ ev = .slice a2 e.length c2 ∧ wv = .slice a3 ws.length c3) := fun lo hi sv ev wv rs s e ws W h he => by
  obtain ⟨-, a1, c1, rfl, -, -⟩ := h.1.rd
  obtain ⟨a2, c2, rfl, -⟩ := formEntryS h.2.1.rd
  obtain ⟨-, a3, c3, rfl, -, -⟩ := h.2.2.1.1.rw
  have : rs.length = ws.length := by rw [← he, List.length_map]
  rw [this]
  exact ⟨_, _, _, _, _, _, rfl, rfl, rfl⟩
 generalize mnP ds cop m = PM at *
 clear hc hv okc okm hs hch hR0 hR1
 generalize m.bye = f0 at *
 generalize m.epoch = f1 at *
 generalize m.planned = f4 at *
 generalize m.sealed = ss at *
 generalize m.seen = es at *
 generalize m.wrote = ws at *
 have M0 := ((Bx.new w [.int .i64 f0, .int .i64 f1, .slice sa ss.length sc, .slice ea es.length ec, .bool f4, .slice wa ws.length wz] 30).below (ba _ (.cells #[.slice ca ds.length cc, .int .i64 cop] 26))).below (ba _ (.cells #[.int .i64 0, .int .i64 0, .slice none 0 0, .slice none 0 0, .bool false, .slice none 0 0] 30))
 have Z0 := BxZ.new (B := w.heap.size) ((w.alloc (.cells #[.int .i64 f0, .int .i64 f1, .slice sa ss.length sc, .slice ea es.length ec, .bool f4, .slice wa ws.length wz] 30)).alloc (.cells #[.slice ca ds.length cc, .int .i64 cop] 26)) [.int .i64 0, .int .i64 0, .slice none 0 0, .slice none 0 0, .bool false, .slice none 0 0] 30 (by simp; omega)
 rw [show ((w.alloc (.cells #[.int .i64 f0, .int .i64 f1, .slice sa ss.length sc, .slice ea es.length ec, .bool f4, .slice wa ws.length wz] 30)).alloc (.cells #[.slice ca ds.length cc, .int .i64 cop] 26)).heap.size = w.heap.size + 1 + 1 from by simp] at Z0
 have B0 := bT (bT (ba w (.cells #[.int .i64 f0, .int .i64 f1, .slice sa ss.length sc, .slice ea es.length ec, .bool f4, .slice wa ws.length wz] 30)) (ba _ (.cells #[.slice ca ds.length cc, .int .i64 cop] 26))) (ba _ (.cells #[.int .i64 0, .int .i64 0, .slice none 0 0, .slice none 0 0, .bool false, .slice none 0 0] 30))
 go_enter Tryz.func42, Tryz.ntmps42
 go_wp2_with fail
 generalize (((w.alloc (.cells #[.int .i64 f0, .int .i64 f1, .slice sa ss.length sc, .slice ea es.length ec, .bool f4, .slice wa ws.length wz] 30)).alloc (.cells #[.slice ca ds.length cc, .int .i64 cop] 26)).alloc (.cells #[.int .i64 0, .int .i64 0, .slice none 0 0, .slice none 0 0, .bool false, .slice none 0 0] 30)) = w0 at *
 have HM := dH fun W (hb : Below w0.heap.size w0 W) => M0.below hb
 have HZ := dH fun W (hb : Below w0.heap.size w0 W) => Z0.below hb
 have hz0 : w.heap.size + 1 + 1 < w0.heap.size := Z0.lt
 clear M0 Z0
 refine (dU CO _ B0).mono ?_
 rintro e w1 ⟨⟨b1, rfl, h1⟩, bl1⟩
 clear CO
 cases b1
 ·obtain ⟨rfl, rfl⟩ := dU R0' (fun h => by have := h1.2 h; cases this)
  have RB := dU HZ _ bl1
  have BB := bT B0 bl1
  clear h1 CP CH R1' HMe HMt HLn HM HZ
  have hVz : w1.heap.size = ((((((w1.setCell ⟨w.heap.size + 1 + 1, 0, none⟩ (.int .i64 0)).setCell ⟨w.heap.size + 1 + 1, 1, none⟩ (.int .i64 0)).setCell ⟨w.heap.size + 1 + 1, 2, none⟩ (.slice none 0 0)).setCell ⟨w.heap.size + 1 + 1, 3, none⟩ (.slice none 0 0)).setCell ⟨w.heap.size + 1 + 1, 4, none⟩ (.bool false)).setCell ⟨w.heap.size + 1 + 1, 5, none⟩ (.slice none 0 0)).heap.size := by simp
  obtain ⟨z0, g0⟩ := RB.2 0 _ rfl
  obtain ⟨z1, g1⟩ := RB.2 1 _ rfl
  obtain ⟨z2, g2⟩ := RB.2 2 _ rfl
  obtain ⟨z3, g3⟩ := RB.2 3 _ rfl
  obtain ⟨z4, g4⟩ := RB.2 4 _ rfl
  obtain ⟨z5, g5⟩ := RB.2 5 _ rfl
  have YY := dH ((((((RB.put 0 (.int .i64 0)).put 1 (.int .i64 0)).put 2 (.slice none 0 0)).put 3 (.slice none 0 0)).put 4 (.bool false)).put 5 (.slice none 0 0))
  have BF := dH ((((((BB.setCell (p := ⟨w.heap.size + 1 + 1, 0, none⟩) (by simp only; omega) (.int .i64 0)).setCell (p := ⟨w.heap.size + 1 + 1, 1, none⟩) (by simp only; omega) (.int .i64 0)).setCell (p := ⟨w.heap.size + 1 + 1, 2, none⟩) (by simp only; omega) (.slice none 0 0)).setCell (p := ⟨w.heap.size + 1 + 1, 3, none⟩) (by simp only; omega) (.slice none 0 0)).setCell (p := ⟨w.heap.size + 1 + 1, 4, none⟩) (by simp only; omega) (.bool false)).setCell (p := ⟨w.heap.size + 1 + 1, 5, none⟩) (by simp only; omega) (.slice none 0 0))
  clear RB BB
  go_wp2_with fail
  generalize ((((((w1.setCell ⟨w.heap.size + 1 + 1, 0, none⟩ (.int .i64 0)).setCell ⟨w.heap.size + 1 + 1, 1, none⟩ (.int .i64 0)).setCell ⟨w.heap.size + 1 + 1, 2, none⟩ (.slice none 0 0)).setCell ⟨w.heap.size + 1 + 1, 3, none⟩ (.slice none 0 0)).setCell ⟨w.heap.size + 1 + 1, 4, none⟩ (.bool false)).setCell ⟨w.heap.size + 1 + 1, 5, none⟩ (.slice none 0 0)) = V at *
  have q0 := ((dU YY).2 0 _ rfl).1
  have q1 := ((dU YY).2 1 _ rfl).1
  have q2 := ((dU YY).2 2 _ rfl).1
  have q3 := ((dU YY).2 3 _ rfl).1
  have q4 := ((dU YY).2 4 _ rfl).1
  have q5 := ((dU YY).2 5 _ rfl).1
  refine bodyPost_ret (v := .tuple #[.agg #[.int .i64 0, .int .i64 0, .slice none 0 0, .slice none 0 0, .bool false, .slice none 0 0], .bool false]) (by simp [results, Tryz.results42, go_sem, q0, q1, q2, q3, q4, q5]) rfl ⟨⟨_, rfl, OwMend.zero _ _ _⟩, dU BF⟩
 have HP := dH (h1.1 rfl)
 clear h1 R0'
 have y0 := dU HM _ bl1 0 _ rfl
 have y1 := dU HM _ bl1 1 _ rfl
 have y2 := dU HM _ bl1 2 _ rfl
 have y3 := dU HM _ bl1 3 _ rfl
 have y4 := dU HM _ bl1 4 _ rfl
 have y5 := dU HM _ bl1 5 _ rfl
 go_wp2_with fail
 refine (dU CP _ (bT B0 bl1)).mono ?_
 rintro e w2 ⟨⟨sv, ev, wv, qs, rfl, hqs, I2⟩, b2⟩
 obtain ⟨ua, uc, va, vc, oa, oc, rfl, rfl, rfl⟩ := dU HLn _ _ _ _ _ _ _ _ _ _ I2.owm hqs
 have hs1 := bl1.size
 have hs2 := b2.size
 have hsB := B0.size
 have bO := ba w2 (.cells #[.int .i64 f0, .int .i64 f1, .slice ua ss.length uc, .slice va es.length vc, .bool f4, .slice oa ws.length oc] 30)
 have OB := BxZ.new (B := w1.heap.size) w2 [.int .i64 f0, .int .i64 f1, .slice ua ss.length uc, .slice va es.length vc, .bool f4, .slice oa ws.length oc] 30 hs2
 have I3 := I2.below bO
 have FR := I2.fresh (b := w2.heap.size) (Nat.le_refl _)
 have hb3 := bT bl1 (bT b2 bO)
 have B3 := bT B0 hb3
 clear y0 y1 y2 y3 y4 y5 I2
 have C3 := dH (dU CH (dU HP) _ w1.heap.size w2.heap.size _ _ _ qs B3 (by omega) (by simp; omega) OB hqs I3 FR)
 clear CH
 go_wp2_with fail
 generalize hob : w2.heap.size = ob at *
 generalize w2.alloc (.cells #[.int .i64 f0, .int .i64 f1, .slice ua ss.length uc, .slice va es.length vc, .bool f4, .slice oa ws.length oc] 30) = w3 at *
 refine (dU C3).mono ?_
 rintro e w4 ⟨rfl, b4, hy⟩
 have HY := dH hy
 have b4' : Below w0.heap.size w0 w4 := hb3.trans (b4.mono (by omega))
 clear C3 hy OB I3 FR
 cases ok
 ·have e0 := dU R1' (dU HP) rfl
  subst e0
  have y0 := dU HM _ b4' 0 _ rfl
  have y1 := dU HM _ b4' 1 _ rfl
  have y2 := dU HM _ b4' 2 _ rfl
  have y3 := dU HM _ b4' 3 _ rfl
  have y4 := dU HM _ b4' 4 _ rfl
  have y5 := dU HM _ b4' 5 _ rfl
  go_wp2_with fail
  refine (dU CP _ (bT B0 b4')).mono ?_
  rintro e w5 ⟨⟨sv2, ev2, wv2, qs2, rfl, hqs2, I5⟩, b5⟩
  obtain ⟨ua2, uc2, va2, vc2, oa2, oc2, rfl, rfl, rfl⟩ := dU HLn _ _ _ _ _ _ _ _ _ _ I5.owm hqs2
  have M5 := I5.owm
  have hs4 := b4'.size
  have hs5 := b5.size
  have RB := dU HZ _ (bT b4' b5)
  have BB := bT B0 (bT b4' b5)
  clear y0 y1 y2 y3 y4 y5 HY CP HM HZ HMt HLn I5
  have hVz : w5.heap.size = ((((((w5.setCell ⟨w.heap.size + 1 + 1, 0, none⟩ (.int .i64 f0)).setCell ⟨w.heap.size + 1 + 1, 1, none⟩ (.int .i64 f1)).setCell ⟨w.heap.size + 1 + 1, 2, none⟩ (.slice ua2 ss.length uc2)).setCell ⟨w.heap.size + 1 + 1, 3, none⟩ (.slice va2 es.length vc2)).setCell ⟨w.heap.size + 1 + 1, 4, none⟩ (.bool f4)).setCell ⟨w.heap.size + 1 + 1, 5, none⟩ (.slice oa2 ws.length oc2)).heap.size := by simp
  obtain ⟨z0, g0⟩ := RB.2 0 _ rfl
  obtain ⟨z1, g1⟩ := RB.2 1 _ rfl
  obtain ⟨z2, g2⟩ := RB.2 2 _ rfl
  obtain ⟨z3, g3⟩ := RB.2 3 _ rfl
  obtain ⟨z4, g4⟩ := RB.2 4 _ rfl
  obtain ⟨z5, g5⟩ := RB.2 5 _ rfl
  have YY := dH ((((((RB.put 0 (.int .i64 f0)).put 1 (.int .i64 f1)).put 2 (.slice ua2 ss.length uc2)).put 3 (.slice va2 es.length vc2)).put 4 (.bool f4)).put 5 (.slice oa2 ws.length oc2))
  have BF := dH ((((((BB.setCell (p := ⟨w.heap.size + 1 + 1, 0, none⟩) (by simp only; omega) (.int .i64 f0)).setCell (p := ⟨w.heap.size + 1 + 1, 1, none⟩) (by simp only; omega) (.int .i64 f1)).setCell (p := ⟨w.heap.size + 1 + 1, 2, none⟩) (by simp only; omega) (.slice ua2 ss.length uc2)).setCell (p := ⟨w.heap.size + 1 + 1, 3, none⟩) (by simp only; omega) (.slice va2 es.length vc2)).setCell (p := ⟨w.heap.size + 1 + 1, 4, none⟩) (by simp only; omega) (.bool f4)).setCell (p := ⟨w.heap.size + 1 + 1, 5, none⟩) (by simp only; omega) (.slice oa2 ws.length oc2))
  have MF := dH ((((((M5.far (b := w.heap.size + 1 + 1) (o := 0) (.inl (by omega)) (.int .i64 f0)).far (b := w.heap.size + 1 + 1) (o := 1) (.inl (by omega)) (.int .i64 f1)).far (b := w.heap.size + 1 + 1) (o := 2) (.inl (by omega)) (.slice ua2 ss.length uc2)).far (b := w.heap.size + 1 + 1) (o := 3) (.inl (by omega)) (.slice va2 es.length vc2)).far (b := w.heap.size + 1 + 1) (o := 4) (.inl (by omega)) (.bool f4)).far (b := w.heap.size + 1 + 1) (o := 5) (.inl (by omega)) (.slice oa2 ws.length oc2))
  clear RB BB
  go_wp2_with fail
  generalize ((((((w5.setCell ⟨w.heap.size + 1 + 1, 0, none⟩ (.int .i64 f0)).setCell ⟨w.heap.size + 1 + 1, 1, none⟩ (.int .i64 f1)).setCell ⟨w.heap.size + 1 + 1, 2, none⟩ (.slice ua2 ss.length uc2)).setCell ⟨w.heap.size + 1 + 1, 3, none⟩ (.slice va2 es.length vc2)).setCell ⟨w.heap.size + 1 + 1, 4, none⟩ (.bool f4)).setCell ⟨w.heap.size + 1 + 1, 5, none⟩ (.slice oa2 ws.length oc2)) = V at *
  have q0 := ((dU YY).2 0 _ rfl).1
  have q1 := ((dU YY).2 1 _ rfl).1
  have q2 := ((dU YY).2 2 _ rfl).1
  have q3 := ((dU YY).2 3 _ rfl).1
  have q4 := ((dU YY).2 4 _ rfl).1
  have q5 := ((dU YY).2 5 _ rfl).1
  refine bodyPost_ret (v := .tuple #[.agg #[.int .i64 f0, .int .i64 f1, .slice ua2 ss.length uc2, .slice va2 es.length vc2, .bool f4, .slice oa2 ws.length oc2], .bool false]) (by simp [results, Tryz.results42, go_sem, q0, q1, q2, q3, q4, q5]) rfl ⟨⟨_, rfl, dU HMe _ _ _ _ _ qs2 V ((dU MF).wide (by omega) (by omega)) hqs2⟩, dU BF⟩
 obtain ⟨sv', ev', wv', rs', OB4, hrs', M4⟩ := dU HY rfl
 obtain ⟨ua', uc', va', vc', oa', oc', rfl, rfl, rfl⟩ := dU HLn _ _ _ _ _ _ _ _ _ _ M4 hrs'
 have hs4 := b4'.size
 have o0 := (OB4.2 0 _ rfl).1
 have o1 := (OB4.2 1 _ rfl).1
 have o2 := (OB4.2 2 _ rfl).1
 have o3 := (OB4.2 3 _ rfl).1
 have o4 := (OB4.2 4 _ rfl).1
 have o5 := (OB4.2 5 _ rfl).1
 have RB := dU HZ _ b4'
 have BB := bT B0 b4'
 clear HY CP HM HZ HMe HLn OB4 R1'
 have hVz : w4.heap.size = ((((((w4.setCell ⟨w.heap.size + 1 + 1, 0, none⟩ (.int .i64 RR.bye)).setCell ⟨w.heap.size + 1 + 1, 1, none⟩ (.int .i64 RR.epoch)).setCell ⟨w.heap.size + 1 + 1, 2, none⟩ (.slice ua' RR.sealed.length uc')).setCell ⟨w.heap.size + 1 + 1, 3, none⟩ (.slice va' RR.seen.length vc')).setCell ⟨w.heap.size + 1 + 1, 4, none⟩ (.bool RR.planned)).setCell ⟨w.heap.size + 1 + 1, 5, none⟩ (.slice oa' RR.wrote.length oc')).heap.size := by simp
 obtain ⟨z0, g0⟩ := RB.2 0 _ rfl
 obtain ⟨z1, g1⟩ := RB.2 1 _ rfl
 obtain ⟨z2, g2⟩ := RB.2 2 _ rfl
 obtain ⟨z3, g3⟩ := RB.2 3 _ rfl
 obtain ⟨z4, g4⟩ := RB.2 4 _ rfl
 obtain ⟨z5, g5⟩ := RB.2 5 _ rfl
 have YY := dH ((((((RB.put 0 (.int .i64 RR.bye)).put 1 (.int .i64 RR.epoch)).put 2 (.slice ua' RR.sealed.length uc')).put 3 (.slice va' RR.seen.length vc')).put 4 (.bool RR.planned)).put 5 (.slice oa' RR.wrote.length oc'))
 have BF := dH ((((((BB.setCell (p := ⟨w.heap.size + 1 + 1, 0, none⟩) (by simp only; omega) (.int .i64 RR.bye)).setCell (p := ⟨w.heap.size + 1 + 1, 1, none⟩) (by simp only; omega) (.int .i64 RR.epoch)).setCell (p := ⟨w.heap.size + 1 + 1, 2, none⟩) (by simp only; omega) (.slice ua' RR.sealed.length uc')).setCell (p := ⟨w.heap.size + 1 + 1, 3, none⟩) (by simp only; omega) (.slice va' RR.seen.length vc')).setCell (p := ⟨w.heap.size + 1 + 1, 4, none⟩) (by simp only; omega) (.bool RR.planned)).setCell (p := ⟨w.heap.size + 1 + 1, 5, none⟩) (by simp only; omega) (.slice oa' RR.wrote.length oc'))
 have MF := dH ((((((M4.far (b := w.heap.size + 1 + 1) (o := 0) (.inl (by omega)) (.int .i64 RR.bye)).far (b := w.heap.size + 1 + 1) (o := 1) (.inl (by omega)) (.int .i64 RR.epoch)).far (b := w.heap.size + 1 + 1) (o := 2) (.inl (by omega)) (.slice ua' RR.sealed.length uc')).far (b := w.heap.size + 1 + 1) (o := 3) (.inl (by omega)) (.slice va' RR.seen.length vc')).far (b := w.heap.size + 1 + 1) (o := 4) (.inl (by omega)) (.bool RR.planned)).far (b := w.heap.size + 1 + 1) (o := 5) (.inl (by omega)) (.slice oa' RR.wrote.length oc'))
 clear RB BB
 go_wp2_with fail
 generalize ((((((w4.setCell ⟨w.heap.size + 1 + 1, 0, none⟩ (.int .i64 RR.bye)).setCell ⟨w.heap.size + 1 + 1, 1, none⟩ (.int .i64 RR.epoch)).setCell ⟨w.heap.size + 1 + 1, 2, none⟩ (.slice ua' RR.sealed.length uc')).setCell ⟨w.heap.size + 1 + 1, 3, none⟩ (.slice va' RR.seen.length vc')).setCell ⟨w.heap.size + 1 + 1, 4, none⟩ (.bool RR.planned)).setCell ⟨w.heap.size + 1 + 1, 5, none⟩ (.slice oa' RR.wrote.length oc')) = V at *
 have q0 := ((dU YY).2 0 _ rfl).1
 have q1 := ((dU YY).2 1 _ rfl).1
 have q2 := ((dU YY).2 2 _ rfl).1
 have q3 := ((dU YY).2 3 _ rfl).1
 have q4 := ((dU YY).2 4 _ rfl).1
 have q5 := ((dU YY).2 5 _ rfl).1
 refine bodyPost_ret (v := .tuple #[.agg #[.int .i64 RR.bye, .int .i64 RR.epoch, .slice ua' RR.sealed.length uc', .slice va' RR.seen.length vc', .bool RR.planned, .slice oa' RR.wrote.length oc'], .bool true]) (by simp [results, Tryz.results42, go_sem, q0, q1, q2, q3, q4, q5]) rfl ⟨⟨_, rfl, dU HMt _ _ _ _ _ rs' V ((dU MF).wide (by omega) (by omega)) hrs'⟩, dU BF⟩
theorem grB {w w' : World} {r : Option Nat} (h : Below w.heap.size w w') : w.grownBy w' r := ⟨h.os, h.tape, h.output, h.size, fun j hj _ => h.block j hj⟩
set_option maxHeartbeats 4000000 in
theorem withNode_any (W : World) (lo : Nat) (ya : Option Addr) (yc : Nat) (yn : List Int) (x : Int) (hR : RmN W lo (.slice ya yn.length yc) yn) (hlo : lo ≤ W.heap.size) (hs : yn.Pairwise (· < ·)) (hl : yn.length ≤ 1048576) :
  Calls Tryz.prog 101 #[.slice ya yn.length yc, .int .i64 x] W fun e w' => ∃ pa pc, e = .returned (.slice pa (putL x yn).length pc) ∧ RmN w' lo (.slice pa (putL x yn).length pc) (putL x yn) ∧ W.grownBy w' (touch (.slice ya yn.length yc)) ∧ ((yn ≠ [] ∧ bO (.slice pa (putL x yn).length pc) = bO (.slice ya yn.length yc)) ∨ W.heap.size ≤ bO (.slice pa (putL x yn).length pc)) := by
 have ba : ∀ (w : World) o, Below w.heap.size w (w.alloc o) := fun w o => (Below.refl _ _).alloc (Nat.le_refl _) o
 have hnn : putL x yn ≠ [] := fun e => by have : x ∈ putL x yn := mem_putL.2 (.inl rfl); rw [e] at this; simp at this
 have PN : Hid (x ∉ yn → yn.take (yn.countP (· < x)) ++ x :: yn.drop (yn.countP (· < x)) = putL x yn) := fun h => by unfold putL; rw [if_neg h]; exact putA_at hs h
 have PO : Hid (x ∈ yn → putL x yn = yn) := fun h => by unfold putL; rw [if_pos h]
 have hcp : yn.countP (· < x) ≤ yn.length := List.countP_le_length
 have hxc : Hid (yn.contains x = true ↔ x ∈ yn) := by simp [Hid]
 have CB := dH (searchI_any ya yc yn x W hR.bs hs hl)
 have HR := dH hR
 have UL : Hid (∀ j, touch (.slice ya yn.length yc) = some j → j < W.heap.size) := fun j hj => by
  obtain ⟨h1, h2⟩ := hR.touch hj
  rw [h2]
  exact hR.bs.lt.resolve_left h1
 have HNN := dH hnn
 generalize hms : putL x yn = ns at *
 clear hR hs hnn hms
 go_enter Tryz.func101, Tryz.ntmps101
 go_wp2_with fail
 refine (dU CB).mono ?_
 rintro e w1 ⟨rfl, b1⟩
 have sz1 := b1.size
 generalize hct : yn.countP (· < x) = ct at *
 generalize yn.contains x = fb at *
 clear CB hct
 cases fb with
 | true =>
  have e1 := dU PO ((dU hxc).1 rfl)
  clear PN PO
  subst e1
  go_wp2_with fail
  go_returns
  exact ⟨ya, yc, rfl, (dU HR).below b1, grB b1, .inl ⟨dU HNN, rfl⟩⟩
 | false =>
  have e1 := dU PN (fun h => by have := (dU hxc).2 h; cases this)
  have bB := ba w1 (.cells #[.int .i64 x] 3)
  have R2 := dH ((dU HR).below (bT b1 bB))
  have CI := dH (insN_any (.slice ya yn.length yc) yn x (w1.alloc (.cells #[.int .i64 x] 3)) lo ct w1.heap.size 3 (dU R2).1 (by simpa [iCl] using (MapKept.heap_alloc w1 (.cells #[.int .i64 x] 3)).1) (fun e => by have := dU UL _ e; omega) hl hcp (by simp; omega))
  rw [e1] at CI
  have BB := dH (bT b1 bB)
  have szB : Hid ((w1.alloc (.cells #[.int .i64 x] 3)).heap.size = w1.heap.size + 1) := by simp [Hid]
  clear PN PO e1 bB
  go_wp2_with fail
  refine (dU CI).mono ?_
  rintro e w5 ⟨v', rfl, hA, hg, ht⟩
  obtain ⟨pa, pc, rfl⟩ := ApR.slice elemI hA
  have hto := touch_at hA (dU HNN)
  have HH : Hid (∃ qa qc, (Ending.returned (.slice pa ns.length pc)) = .returned (.slice qa ns.length qc) ∧ RmN w5 lo (.slice qa ns.length qc) ns ∧ W.grownBy w5 (touch (.slice ya yn.length yc)) ∧ ((yn ≠ [] ∧ bO (.slice qa ns.length qc) = bO (.slice ya yn.length yc)) ∨ W.heap.size ≤ bO (.slice qa ns.length qc))) := by
   refine ⟨pa, pc, rfl, ⟨hA, fun e => absurd e (dU HNN)⟩, grownR_trans (grB (dU BB)) hg, ?_⟩
   rcases ht with h | h
   ·exact .inl ((dU HR).touch (h.symm.trans hto))
   ·have := h _ hto
    have q := dU szB
    exact .inr (by omega)
  clear hA hg ht hto R2 CI BB
  go_wp2_with fail
  go_returns
  exact dU HH
theorem OwM.toldP {lo hi : Nat} {sv ev : Value} {rs : List (Nst (List Int))} {ss : List Int} {es : List Ent} {W : World} {g o n cap k : Nat} {p : Nst (List Int)} (h1 : OwN lo hi sv ss W) (h2 : OwEntryS lo hi ev es W) (h3 : OwnRw 1 lsCl W lo (.slice (some ⟨g, o, none⟩) n cap) rs) (h5 : ∀ i (hi' : i < rs.length), i ≠ k → OwN lo hi (Sv idL rs[i]) rs[i].m W) (h6 : Apart idL (.slice (some ⟨g, o, none⟩) n cap) rs) (h7 : ss = [] ∨ es = [] ∨ bO sv ≠ bO ev) (h8 : ss = [] ∨ Off (bO sv) (.slice (some ⟨g, o, none⟩) n cap) rs) (h9 : es = [] ∨ Off (bO ev) (.slice (some ⟨g, o, none⟩) n cap) rs) (hk : k < rs.length) (hg : lo ≤ g ∧ g < hi) (hp : OwN lo hi (Sv idL p) p.m W) (hnew : p.m = [] ∨ (bO (Sv idL p) ≠ g ∧ (ss = [] ∨ bO sv ≠ bO (Sv idL p)) ∧ (es = [] ∨ bO ev ≠ bO (Sv idL p)) ∧ ∀ i (hi : i < rs.length), i ≠ k → rs[i].m = [] ∨ bO (Sv idL rs[i]) ≠ bO (Sv idL p))) :
  OwM lo hi sv ev (.slice (some ⟨g, o, none⟩) n cap) (rs.set k p) ss es (W.setCell ⟨g, o + k, none⟩ (.slice p.a p.m.length p.c)) := by
 have hne : rs ≠ [] := fun e => by rw [e] at hk; simp at hk
 have hgb : bO (.slice (some ⟨g, o, none⟩) n cap) = g := rfl
 have oth : ∀ {x : Value} {l : List Int}, OwN lo hi x l W → (l = [] ∨ bO x ≠ g) → OwN lo hi x l (W.setCell ⟨g, o + k, none⟩ (.slice p.a p.m.length p.c)) := fun {x l} q hq => q.putW hq _
 refine ⟨oth h1 ?_, h2.keepB ?_, ⟨?_, .inr hg.2, fun q hq => ?_, ⟨fun i j hi hj hij => ?_, fun i hi => ?_⟩⟩, h7, ?_, ?_⟩
 ·rcases h8 with q | q
  ·exact .inl q
  ·exact .inr fun e => (q.1.resolve_left hne) (by rw [hgb, e])
 ·rcases h9 with q | q
  ·exact .inl q
  ·exact .inr (Below.heap_setCell _ _ _ _ (fun e => (q.1.resolve_left hne) (by rw [hgb]; simpa using e.symm)))
 ·obtain ⟨q0, a, c, e, qc, q⟩ := h3
  cases e
  refine ⟨by rw [List.length_set]; exact q0, _, _, by rw [List.length_set], by rw [List.length_set]; exact qc, .inr ?_⟩
  rcases q with q | ⟨b', off, e1, hb', hc⟩
  ·exact absurd q hne
  ·cases e1
   refine ⟨g, o, rfl, hg.1, fun i hi j u hu => ?_⟩
   rw [List.length_set] at hi
   have hj0 : j = 0 := by
    rcases Nat.eq_zero_or_pos j with q | q
    ·exact q
    ·rw [List.getElem?_eq_none (by rw [lsCl_len]; exact q)] at hu
     cases hu
   subst hj0
   simp only [Nat.mul_one, Nat.add_zero]
   have old := hc i hi 0 _ rfl
   simp only [Nat.mul_one, Nat.add_zero] at old
   by_cases e : i = k
   ·subst e
    rw [List.getElem_set_self] at hu
    have hu' : u = .slice p.a p.m.length p.c := by
     simp only [lsCl, List.getElem?_cons_zero, Option.some.injEq] at hu
     exact hu.symm
    subst hu'
    exact ⟨World.cell?_setCell_same _ _ _ old.1, (World.frozen?_setCell _ _ _ _).trans old.2⟩
   ·rw [List.getElem_set_ne (Ne.symm e)] at hu
    have hu' : u = .slice rs[i].a rs[i].m.length rs[i].c := by
     simp only [lsCl, List.getElem?_cons_zero, Option.some.injEq] at hu
     exact hu.symm
    subst hu'
    exact ⟨sO old.1 (.inr (by omega)), (World.frozen?_setCell _ _ _ _).trans old.2⟩
 ·obtain ⟨i, hi, rfl⟩ := List.mem_iff_getElem.1 hq
  rw [List.length_set] at hi
  by_cases e : i = k
  ·subst e
   rw [List.getElem_set_self]
   refine oth hp ?_
   rcases hnew with q | q
   ·exact .inl q
   ·exact .inr q.1
  ·rw [List.getElem_set_ne (Ne.symm e)]
   refine oth (h5 i hi e) ?_
   exact h6.2 i hi
 ·have hi' : i < rs.length := by simpa using hi
  have hj' : j < rs.length := by simpa using hj
  by_cases e : i = k
  ·subst e
   rw [List.getElem_set_self, List.getElem_set_ne hij]
   rcases hnew with q | q
   ·exact .inl q
   ·rcases q.2.2.2 j hj' (Ne.symm hij) with q' | q'
    ·exact .inr (.inl q')
    ·exact .inr (.inr (Ne.symm q'))
  ·by_cases e' : j = k
   ·subst e'
    rw [List.getElem_set_self, List.getElem_set_ne (Ne.symm hij)]
    rcases hnew with q | q
    ·exact .inr (.inl q)
    ·rcases q.2.2.2 i hi' hij with q' | q'
     ·exact .inl q'
     ·exact .inr (.inr q')
   ·rw [List.getElem_set_ne (Ne.symm e), List.getElem_set_ne (Ne.symm e')]
    exact h6.1 i j hi' hj' hij
 ·have hi' : i < rs.length := by simpa using hi
  by_cases e : i = k
  ·subst e
   rw [List.getElem_set_self]
   rcases hnew with q | q
   ·exact .inl q
   ·exact .inr q.1
  ·rw [List.getElem_set_ne (Ne.symm e)]
   exact h6.2 i hi'
 ·by_cases hs : ss = []
  ·exact .inl hs
  ·have q := h8.resolve_left hs
   refine .inr ⟨.inr (q.1.resolve_left hne), fun x hx => ?_⟩
   rcases List.mem_or_eq_of_mem_set hx with hx | rfl
   ·exact q.2 x hx
   ·rcases hnew with r | r
    ·exact .inl r
    ·exact .inr (Ne.symm (r.2.1.resolve_left hs))
 ·by_cases hs : es = []
  ·exact .inl hs
  ·have q := h9.resolve_left hs
   refine .inr ⟨.inr (q.1.resolve_left hne), fun x hx => ?_⟩
   rcases List.mem_or_eq_of_mem_set hx with hx | rfl
   ·exact q.2 x hx
   ·rcases hnew with r | r
    ·exact .inl r
    ·exact .inr (Ne.symm (r.2.2.1.resolve_left hs))
theorem ImM.acked {W w5 : World} {lo g o n cap k : Nat} {sv ev : Value} {rs : List (Nst (List Int))} {ss ns : List Int} {es : List Ent} {pa : Option Addr} {pc : Nat} (h : ImM W lo sv ev (.slice (some ⟨g, o, none⟩) n cap) rs ss es) (hk : k < rs.length) (hG : W.grownBy w5 (touch (Sv idL rs[k]))) (hR : RmN w5 lo (.slice pa ns.length pc) ns) (hb : (rs[k].m ≠ [] ∧ bO (.slice pa ns.length pc) = bO (Sv idL rs[k])) ∨ W.heap.size ≤ bO (.slice pa ns.length pc)) :
  OwM lo w5.heap.size sv ev (.slice (some ⟨g, o, none⟩) n cap) (rs.set k ⟨pa, pc, ns⟩) ss es (w5.setCell ⟨g, o + k, none⟩ (.slice pa ns.length pc)) := by
 have hne : rs ≠ [] := fun e => by rw [e] at hk; simp at hk
 have hgb : bO (.slice (some ⟨g, o, none⟩) n cap) = g := rfl
 have M := h.owm
 obtain ⟨h1, h2, h3, h4, h5, h6, h7, h8⟩ := h
 obtain ⟨m1, m2, ⟨m3, m4, m5, m6⟩, m7, m8, m9⟩ := M
 have hgl : g < W.heap.size := m4.resolve_left hne
 have hs5 : W.heap.size ≤ w5.heap.size := hG.size
 have KP : ∀ j, j < W.heap.size → (rs[k].m = [] ∨ bO (Sv idL rs[k]) ≠ j) → w5.heap[j]? = W.heap[j]? := fun j hj hn => hG.block j hj (fun e => by
  obtain ⟨q1, q2⟩ := (h4 _ (List.getElem_mem hk)).touch e.symm
  rcases hn with q | q
  ·exact q1 q
  ·exact q q2.symm)
 have hkg : rs[k].m = [] ∨ bO (Sv idL rs[k]) ≠ g := m6.2 k hk
 have hlo : lo ≤ g := (m3.geG).resolve_left hne
 refine OwM.toldP (p := ⟨pa, pc, ns⟩) (m1.wide (Nat.le_refl _) hs5 |>.keepB ?_) (m2.wide (Nat.le_refl _) hs5 |>.keepB ?_) ?_ (fun i hi hik => ((m5 _ (List.getElem_mem hi)).wide (Nat.le_refl _) hs5).keepB ?_) m6 m7 m8 m9 hk ⟨hlo, by omega⟩ ⟨hR.own, hR.bs.lt⟩ (.inr ⟨?_, ?_, ?_, fun i hi hik => ?_⟩)
 ·rcases m8 with q | q
  ·exact .inl q
  ·rcases m1.2 with q' | q'
   ·exact .inl q'
   ·exact .inr (KP _ q' (q.2 _ (List.getElem_mem hk)))
 ·rcases m9 with q | q
  ·exact .inl q
  ·rcases m2.2 with q' | q'
   ·exact .inl q'
   ·exact .inr (KP _ q' (q.2 _ (List.getElem_mem hk)))
 ·have hh := KP g hgl hkg
  obtain ⟨q0, a, c, e, qc, q⟩ := m3
  cases e
  refine ⟨q0, _, _, rfl, qc, q.imp id ?_⟩
  rintro ⟨b', off, e1, hb', hc⟩
  cases e1
  refine ⟨g, o, rfl, hb', fun i hi j u hu => ?_⟩
  have q := hc i hi j u hu
  simp only [World.cell?, World.frozen?] at q ⊢
  rw [hh]
  exact q
 ·rcases m6.1 k i hk hi (Ne.symm hik) with q | q | q
  ·rcases (m5 _ (List.getElem_mem hi)).2 with q' | q'
   ·exact .inl q'
   ·exact .inr (KP _ q' (.inl q))
  ·exact .inl q
  ·rcases (m5 _ (List.getElem_mem hi)).2 with q' | q'
   ·exact .inl q'
   ·exact .inr (KP _ q' (.inr q))
 ·show bO (.slice pa ns.length pc) ≠ g
  rcases hb with q | q
  ·rw [q.2]
   exact hkg.resolve_left q.1
  ·omega
 ·show ss = [] ∨ bO sv ≠ bO (.slice pa ns.length pc)
  rcases hb with q | q
  ·rcases m8 with r | r
   ·exact .inl r
   ·refine .inr ?_
    rw [q.2]
    exact Ne.symm ((r.2 _ (List.getElem_mem hk)).resolve_left q.1)
  ·rcases m1.2 with r | r
   ·exact .inl r
   ·exact .inr (by omega)
 ·show es = [] ∨ bO ev ≠ bO (.slice pa ns.length pc)
  rcases hb with q | q
  ·rcases m9 with r | r
   ·exact .inl r
   ·refine .inr ?_
    rw [q.2]
    exact Ne.symm ((r.2 _ (List.getElem_mem hk)).resolve_left q.1)
  ·rcases m2.2 with r | r
   ·exact .inl r
   ·exact .inr (by omega)
 ·show rs[i].m = [] ∨ bO (Sv idL rs[i]) ≠ bO (.slice pa ns.length pc)
  rcases hb with q | q
  ·rcases m6.1 i k hi hk hik with r | r | r
   ·exact .inl r
   ·exact absurd r q.1
   ·exact .inr (by rw [q.2]; exact r)
  ·rcases (m5 _ (List.getElem_mem hi)).2 with r | r
   ·exact .inl r
   ·exact .inr (by omega)
end Go.Proofs.YtoeamgcoeoaijaaGreat
