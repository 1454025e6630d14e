/- Several texts in one: MnK. -/
import Derived.Test.YtjkjmapibcfcdaaGreatMnI
import Derived.Test.YtjkjmapibcfcdaaGreatMnJ
import Derived.Test.YtjkjmapibcfcdaaGreatGw2
import Derived.Deep.RegionHeld3
import Derived.Deep.DeepCutAuto
namespace Go.Proofs.YtjkjmapibcfcdaaGreat
open Go.ChangeShapes Go.WideShapes Go.ChangeAt Go.RowKit
set_option linter.unusedSimpArgs false
set_option linter.unusedVariables false
set_option maxRecDepth 100000
theorem ImM.below {W W' : World} {lo : Nat} {sv ev wv : Value} {rs : List (Nst (List Int))} {ss : List Int} {es : List Ent} (h : ImM W lo sv ev wv rs ss es) (hb : Below W.heap.size W W') : ImM W' lo sv ev wv rs ss es := ⟨h.1.below hb, h.2.1.below hb, h.2.2.1.below hb, fun p hp => (h.2.2.2.1 p hp).below hb, h.2.2.2.2⟩
def FrM (b : Nat) (sv ev wv : Value) (rs : List (Nst (List Int))) (ss : List Int) : Prop := (ss = [] ∨ bO sv ≠ b) ∧ touch ev ≠ some b ∧ Off b wv rs
theorem ImM.fresh {W : World} {lo b : Nat} {sv ev wv : Value} {rs : List (Nst (List Int))} {ss : List Int} {es : List Ent} (h : ImM W lo sv ev wv rs ss es) (hb : W.heap.size ≤ b) : FrM b sv ev wv rs ss := by
 obtain ⟨h1, h2, h3, h4, h5, -⟩ := h
 refine ⟨?_, fun e => ?_, ?_, fun p hp => ?_⟩
 ·rcases h1.bs.lt with q | q
  ·exact .inl q
  ·exact .inr (by omega)
 ·have := (h2.touched elemE e).2
  omega
 ·rcases h3.ltG lsCl_len (by decide) with q | q
  ·exact .inl q
  ·exact .inr (by omega)
 ·rcases (h4 p hp).bs.lt with q | q
  ·exact .inl q
  ·exact .inr (by omega)
set_option maxHeartbeats 8000000 in
theorem changed9_any (cv v : Value) (c : List Int × Int) (m : Mn) (F : Nat) (caps : Array Value) (RR : Mn) (ok : Bool) (w : World) (hc : RdConfig cv c w) (hv : RdMend v m w) (okc : okConfig c) (okm : okMend m) (hsc : sizConfig c ≤ 1048576) (hs : sizMend m ≤ 1048576) (hF : ∀ args w, (callFunc F args).run Tryz.prog w = .ok (.enter F args) w) (hR0 : ¬ mnP c.1 c.2 m → RR = zeroMn ∧ ok = false) (hR1 : mnP c.1 c.2 m → ok = false → RR = m)
  (hch : mnP c.1 c.2 m → ∀ W lo b sv ev wv qs, Below w.heap.size w W → w.heap.size ≤ lo → lo ≤ W.heap.size → BxZ W lo b [.int .i64 m.bye, .int .i64 m.epoch, sv, ev, .bool m.planned, wv] → qs.map Nst.m = m.wrote → ImM W lo sv ev wv qs m.sealed m.seen → FrM b sv ev wv qs m.sealed → Calls Tryz.prog F (#[.pointer (some ⟨b, 0, none⟩)] ++ caps) W fun e w' => e = .returned (.bool ok) ∧ Below lo W w' ∧ (ok = true → ∃ sv' ev' wv' rs', BxZ w' lo b [.int .i64 RR.bye, .int .i64 RR.epoch, sv', ev', .bool RR.planned, wv'] ∧ rs'.map Nst.m = RR.wrote ∧ OwM lo w'.heap.size sv' ev' wv' rs' RR.sealed RR.seen w')) :
  Calls Tryz.prog 29 #[v, cv, .func (.func F) #[] caps] w fun e w' => (∃ u, e = .returned (.tuple #[u, .bool ok]) ∧ OwMend w.heap.size w'.heap.size u RR w') ∧ Below w.heap.size w w' := by
 have ba : ∀ (w : World) o, Below w.heap.size w (w.alloc o) := fun w o => (Below.refl _ _).alloc (Nat.le_refl _) o
 have CO := dH fun W (hb : Below w.heap.size w W) => implMendOk_any cv v c m W (hc.below hb) (hv.below hb) okc okm hsc hs
 have CP := dH fun W (hb : Below w.heap.size w W) => copied9_any v m W (hv.below hb) hs
 obtain ⟨ds, cop⟩ := c
 obtain ⟨ca, cc, rfl, -⟩ := formConfig hc
 obtain ⟨sa, sc, ea, ec, wa, wz, rfl, hl1, hl2, hl3⟩ := formMend hv
 simp only at *
 have CH := dH hch
 have R0' := dH hR0
 have R1' := dH hR1
 have HMe := dH fun (lo hi : Nat) (sv ev wv : Value) rs (W : World) (h : OwM lo hi sv ev wv rs m.sealed m.seen W) (e : rs.map Nst.m = m.wrote) => h.mend e
 have HMt := dH fun (lo hi : Nat) (sv ev wv : Value) rs (W : World) (h : OwM lo hi sv ev wv rs RR.sealed RR.seen W) (e : rs.map Nst.m = RR.wrote) => h.mend e
 have HLn : Hid (∀ (lo hi : Nat) (sv ev wv : Value) (rs : List (Nst (List Int))) (s : List Int) (e : List Ent) (ws : List (List Int)) (W : World), OwM lo hi sv ev wv rs s e W → rs.map Nst.m = ws → ∃ a1 c1 a2 c2 a3 c3, sv = .slice a1 s.length c1 ∧ ev = .slice a2 e.length c2 ∧ wv = .slice a3 ws.length c3) := fun lo hi sv ev wv rs s e ws W h he => by
  obtain ⟨-, a1, c1, rfl, -, -⟩ := h.1.rd
  obtain ⟨a2, c2, rfl, -⟩ := formEntryS h.2.1.rd
  obtain ⟨-, a3, c3, rfl, -, -⟩ := h.2.2.1.1.rw
  have : rs.length = ws.length := by rw [← he, List.length_map]
  rw [this]
  exact ⟨_, _, _, _, _, _, rfl, rfl, rfl⟩
 generalize mnP ds cop m = PM at *
 clear hc hv okc okm hs hch hR0 hR1
 generalize m.bye = f0 at *
 generalize m.epoch = f1 at *
 generalize m.planned = f4 at *
 generalize m.sealed = ss at *
 generalize m.seen = es at *
 generalize m.wrote = ws at *
 have M0 := ((Bx.new w [.int .i64 f0, .int .i64 f1, .slice sa ss.length sc, .slice ea es.length ec, .bool f4, .slice wa ws.length wz] 30).below (ba _ (.cells #[.slice ca ds.length cc, .int .i64 cop] 26))).below (ba _ (.cells #[.int .i64 0, .int .i64 0, .slice none 0 0, .slice none 0 0, .bool false, .slice none 0 0] 30))
 have Z0 := BxZ.new (B := w.heap.size) ((w.alloc (.cells #[.int .i64 f0, .int .i64 f1, .slice sa ss.length sc, .slice ea es.length ec, .bool f4, .slice wa ws.length wz] 30)).alloc (.cells #[.slice ca ds.length cc, .int .i64 cop] 26)) [.int .i64 0, .int .i64 0, .slice none 0 0, .slice none 0 0, .bool false, .slice none 0 0] 30 (by simp; omega)
 rw [show ((w.alloc (.cells #[.int .i64 f0, .int .i64 f1, .slice sa ss.length sc, .slice ea es.length ec, .bool f4, .slice wa ws.length wz] 30)).alloc (.cells #[.slice ca ds.length cc, .int .i64 cop] 26)).heap.size = w.heap.size + 1 + 1 from by simp] at Z0
 have B0 := bT (bT (ba w (.cells #[.int .i64 f0, .int .i64 f1, .slice sa ss.length sc, .slice ea es.length ec, .bool f4, .slice wa ws.length wz] 30)) (ba _ (.cells #[.slice ca ds.length cc, .int .i64 cop] 26))) (ba _ (.cells #[.int .i64 0, .int .i64 0, .slice none 0 0, .slice none 0 0, .bool false, .slice none 0 0] 30))
 go_enter Tryz.func29, Tryz.ntmps29
 go_wp2_with fail
 generalize (((w.alloc (.cells #[.int .i64 f0, .int .i64 f1, .slice sa ss.length sc, .slice ea es.length ec, .bool f4, .slice wa ws.length wz] 30)).alloc (.cells #[.slice ca ds.length cc, .int .i64 cop] 26)).alloc (.cells #[.int .i64 0, .int .i64 0, .slice none 0 0, .slice none 0 0, .bool false, .slice none 0 0] 30)) = w0 at *
 have HM := dH fun W (hb : Below w0.heap.size w0 W) => M0.below hb
 have HZ := dH fun W (hb : Below w0.heap.size w0 W) => Z0.below hb
 have hz0 : w.heap.size + 1 + 1 < w0.heap.size := Z0.lt
 clear M0 Z0
 refine (dU CO _ B0).mono ?_
 rintro e w1 ⟨⟨b1, rfl, h1⟩, bl1⟩
 clear CO
 cases b1
 ·obtain ⟨rfl, rfl⟩ := dU R0' (fun h => by have := h1.2 h; cases this)
  have RB := dU HZ _ bl1
  have BB := bT B0 bl1
  clear h1 CP CH R1' HMe HMt HLn HM HZ
  have hVz : w1.heap.size = ((((((w1.setCell ⟨w.heap.size + 1 + 1, 0, none⟩ (.int .i64 0)).setCell ⟨w.heap.size + 1 + 1, 1, none⟩ (.int .i64 0)).setCell ⟨w.heap.size + 1 + 1, 2, none⟩ (.slice none 0 0)).setCell ⟨w.heap.size + 1 + 1, 3, none⟩ (.slice none 0 0)).setCell ⟨w.heap.size + 1 + 1, 4, none⟩ (.bool false)).setCell ⟨w.heap.size + 1 + 1, 5, none⟩ (.slice none 0 0)).heap.size := by simp
  obtain ⟨z0, g0⟩ := RB.2 0 _ rfl
  obtain ⟨z1, g1⟩ := RB.2 1 _ rfl
  obtain ⟨z2, g2⟩ := RB.2 2 _ rfl
  obtain ⟨z3, g3⟩ := RB.2 3 _ rfl
  obtain ⟨z4, g4⟩ := RB.2 4 _ rfl
  obtain ⟨z5, g5⟩ := RB.2 5 _ rfl
  have YY := dH ((((((RB.put 0 (.int .i64 0)).put 1 (.int .i64 0)).put 2 (.slice none 0 0)).put 3 (.slice none 0 0)).put 4 (.bool false)).put 5 (.slice none 0 0))
  have BF := dH ((((((BB.setCell (p := ⟨w.heap.size + 1 + 1, 0, none⟩) (by simp only; omega) (.int .i64 0)).setCell (p := ⟨w.heap.size + 1 + 1, 1, none⟩) (by simp only; omega) (.int .i64 0)).setCell (p := ⟨w.heap.size + 1 + 1, 2, none⟩) (by simp only; omega) (.slice none 0 0)).setCell (p := ⟨w.heap.size + 1 + 1, 3, none⟩) (by simp only; omega) (.slice none 0 0)).setCell (p := ⟨w.heap.size + 1 + 1, 4, none⟩) (by simp only; omega) (.bool false)).setCell (p := ⟨w.heap.size + 1 + 1, 5, none⟩) (by simp only; omega) (.slice none 0 0))
  clear RB BB
  go_wp2_with fail
  generalize ((((((w1.setCell ⟨w.heap.size + 1 + 1, 0, none⟩ (.int .i64 0)).setCell ⟨w.heap.size + 1 + 1, 1, none⟩ (.int .i64 0)).setCell ⟨w.heap.size + 1 + 1, 2, none⟩ (.slice none 0 0)).setCell ⟨w.heap.size + 1 + 1, 3, none⟩ (.slice none 0 0)).setCell ⟨w.heap.size + 1 + 1, 4, none⟩ (.bool false)).setCell ⟨w.heap.size + 1 + 1, 5, none⟩ (.slice none 0 0)) = V at *
  have q0 := ((dU YY).2 0 _ rfl).1
  have q1 := ((dU YY).2 1 _ rfl).1
  have q2 := ((dU YY).2 2 _ rfl).1
  have q3 := ((dU YY).2 3 _ rfl).1
  have q4 := ((dU YY).2 4 _ rfl).1
  have q5 := ((dU YY).2 5 _ rfl).1
  refine bodyPost_ret (v := .tuple #[.agg #[.int .i64 0, .int .i64 0, .slice none 0 0, .slice none 0 0, .bool false, .slice none 0 0], .bool false]) (by simp [results, Tryz.results29, go_sem, q0, q1, q2, q3, q4, q5]) rfl ⟨⟨_, rfl, OwMend.zero _ _ _⟩, dU BF⟩
 have HP := dH (h1.1 rfl)
 clear h1 R0'
 have y0 := dU HM _ bl1 0 _ rfl
 have y1 := dU HM _ bl1 1 _ rfl
 have y2 := dU HM _ bl1 2 _ rfl
 have y3 := dU HM _ bl1 3 _ rfl
 have y4 := dU HM _ bl1 4 _ rfl
 have y5 := dU HM _ bl1 5 _ rfl
 go_wp2_with fail
 refine (dU CP _ (bT B0 bl1)).mono ?_
 rintro e w2 ⟨⟨sv, ev, wv, qs, rfl, hqs, I2⟩, b2⟩
 obtain ⟨ua, uc, va, vc, oa, oc, rfl, rfl, rfl⟩ := dU HLn _ _ _ _ _ _ _ _ _ _ I2.owm hqs
 have hs1 := bl1.size
 have hs2 := b2.size
 have hsB := B0.size
 have bO := ba w2 (.cells #[.int .i64 f0, .int .i64 f1, .slice ua ss.length uc, .slice va es.length vc, .bool f4, .slice oa ws.length oc] 30)
 have OB := BxZ.new (B := w1.heap.size) w2 [.int .i64 f0, .int .i64 f1, .slice ua ss.length uc, .slice va es.length vc, .bool f4, .slice oa ws.length oc] 30 hs2
 have I3 := I2.below bO
 have FR := I2.fresh (b := w2.heap.size) (Nat.le_refl _)
 have hb3 := bT bl1 (bT b2 bO)
 have B3 := bT B0 hb3
 clear y0 y1 y2 y3 y4 y5 I2
 have C3 := dH (dU CH (dU HP) _ w1.heap.size w2.heap.size _ _ _ qs B3 (by omega) (by simp; omega) OB hqs I3 FR)
 clear CH
 go_wp2_with fail
 generalize hob : w2.heap.size = ob at *
 generalize w2.alloc (.cells #[.int .i64 f0, .int .i64 f1, .slice ua ss.length uc, .slice va es.length vc, .bool f4, .slice oa ws.length oc] 30) = w3 at *
 refine (dU C3).mono ?_
 rintro e w4 ⟨rfl, b4, hy⟩
 have HY := dH hy
 have b4' : Below w0.heap.size w0 w4 := hb3.trans (b4.mono (by omega))
 clear C3 hy OB I3 FR
 cases ok
 ·have e0 := dU R1' (dU HP) rfl
  subst e0
  have y0 := dU HM _ b4' 0 _ rfl
  have y1 := dU HM _ b4' 1 _ rfl
  have y2 := dU HM _ b4' 2 _ rfl
  have y3 := dU HM _ b4' 3 _ rfl
  have y4 := dU HM _ b4' 4 _ rfl
  have y5 := dU HM _ b4' 5 _ rfl
  go_wp2_with fail
  refine (dU CP _ (bT B0 b4')).mono ?_
  rintro e w5 ⟨⟨sv2, ev2, wv2, qs2, rfl, hqs2, I5⟩, b5⟩
  obtain ⟨ua2, uc2, va2, vc2, oa2, oc2, rfl, rfl, rfl⟩ := dU HLn _ _ _ _ _ _ _ _ _ _ I5.owm hqs2
  have M5 := I5.owm
  have hs4 := b4'.size
  have hs5 := b5.size
  have RB := dU HZ _ (bT b4' b5)
  have BB := bT B0 (bT b4' b5)
  clear y0 y1 y2 y3 y4 y5 HY CP HM HZ HMt HLn I5
  have hVz : w5.heap.size = ((((((w5.setCell ⟨w.heap.size + 1 + 1, 0, none⟩ (.int .i64 f0)).setCell ⟨w.heap.size + 1 + 1, 1, none⟩ (.int .i64 f1)).setCell ⟨w.heap.size + 1 + 1, 2, none⟩ (.slice ua2 ss.length uc2)).setCell ⟨w.heap.size + 1 + 1, 3, none⟩ (.slice va2 es.length vc2)).setCell ⟨w.heap.size + 1 + 1, 4, none⟩ (.bool f4)).setCell ⟨w.heap.size + 1 + 1, 5, none⟩ (.slice oa2 ws.length oc2)).heap.size := by simp
  obtain ⟨z0, g0⟩ := RB.2 0 _ rfl
  obtain ⟨z1, g1⟩ := RB.2 1 _ rfl
  obtain ⟨z2, g2⟩ := RB.2 2 _ rfl
  obtain ⟨z3, g3⟩ := RB.2 3 _ rfl
  obtain ⟨z4, g4⟩ := RB.2 4 _ rfl
  obtain ⟨z5, g5⟩ := RB.2 5 _ rfl
  have YY := dH ((((((RB.put 0 (.int .i64 f0)).put 1 (.int .i64 f1)).put 2 (.slice ua2 ss.length uc2)).put 3 (.slice va2 es.length vc2)).put 4 (.bool f4)).put 5 (.slice oa2 ws.length oc2))
  have BF := dH ((((((BB.setCell (p := ⟨w.heap.size + 1 + 1, 0, none⟩) (by simp only; omega) (.int .i64 f0)).setCell (p := ⟨w.heap.size + 1 + 1, 1, none⟩) (by simp only; omega) (.int .i64 f1)).setCell (p := ⟨w.heap.size + 1 + 1, 2, none⟩) (by simp only; omega) (.slice ua2 ss.length uc2)).setCell (p := ⟨w.heap.size + 1 + 1, 3, none⟩) (by simp only; omega) (.slice va2 es.length vc2)).setCell (p := ⟨w.heap.size + 1 + 1, 4, none⟩) (by simp only; omega) (.bool f4)).setCell (p := ⟨w.heap.size + 1 + 1, 5, none⟩) (by simp only; omega) (.slice oa2 ws.length oc2))
  have MF := dH ((((((M5.far (b := w.heap.size + 1 + 1) (o := 0) (.inl (by omega)) (.int .i64 f0)).far (b := w.heap.size + 1 + 1) (o := 1) (.inl (by omega)) (.int .i64 f1)).far (b := w.heap.size + 1 + 1) (o := 2) (.inl (by omega)) (.slice ua2 ss.length uc2)).far (b := w.heap.size + 1 + 1) (o := 3) (.inl (by omega)) (.slice va2 es.length vc2)).far (b := w.heap.size + 1 + 1) (o := 4) (.inl (by omega)) (.bool f4)).far (b := w.heap.size + 1 + 1) (o := 5) (.inl (by omega)) (.slice oa2 ws.length oc2))
  clear RB BB
  go_wp2_with fail
  generalize ((((((w5.setCell ⟨w.heap.size + 1 + 1, 0, none⟩ (.int .i64 f0)).setCell ⟨w.heap.size + 1 + 1, 1, none⟩ (.int .i64 f1)).setCell ⟨w.heap.size + 1 + 1, 2, none⟩ (.slice ua2 ss.length uc2)).setCell ⟨w.heap.size + 1 + 1, 3, none⟩ (.slice va2 es.length vc2)).setCell ⟨w.heap.size + 1 + 1, 4, none⟩ (.bool f4)).setCell ⟨w.heap.size + 1 + 1, 5, none⟩ (.slice oa2 ws.length oc2)) = V at *
  have q0 := ((dU YY).2 0 _ rfl).1
  have q1 := ((dU YY).2 1 _ rfl).1
  have q2 := ((dU YY).2 2 _ rfl).1
  have q3 := ((dU YY).2 3 _ rfl).1
  have q4 := ((dU YY).2 4 _ rfl).1
  have q5 := ((dU YY).2 5 _ rfl).1
  refine bodyPost_ret (v := .tuple #[.agg #[.int .i64 f0, .int .i64 f1, .slice ua2 ss.length uc2, .slice va2 es.length vc2, .bool f4, .slice oa2 ws.length oc2], .bool false]) (by simp [results, Tryz.results29, go_sem, q0, q1, q2, q3, q4, q5]) rfl ⟨⟨_, rfl, dU HMe _ _ _ _ _ qs2 V ((dU MF).wide (by omega) (by omega)) hqs2⟩, dU BF⟩
 obtain ⟨sv', ev', wv', rs', OB4, hrs', M4⟩ := dU HY rfl
 obtain ⟨ua', uc', va', vc', oa', oc', rfl, rfl, rfl⟩ := dU HLn _ _ _ _ _ _ _ _ _ _ M4 hrs'
 have hs4 := b4'.size
 have o0 := (OB4.2 0 _ rfl).1
 have o1 := (OB4.2 1 _ rfl).1
 have o2 := (OB4.2 2 _ rfl).1
 have o3 := (OB4.2 3 _ rfl).1
 have o4 := (OB4.2 4 _ rfl).1
 have o5 := (OB4.2 5 _ rfl).1
 have RB := dU HZ _ b4'
 have BB := bT B0 b4'
 clear HY CP HM HZ HMe HLn OB4 R1'
 have hVz : w4.heap.size = ((((((w4.setCell ⟨w.heap.size + 1 + 1, 0, none⟩ (.int .i64 RR.bye)).setCell ⟨w.heap.size + 1 + 1, 1, none⟩ (.int .i64 RR.epoch)).setCell ⟨w.heap.size + 1 + 1, 2, none⟩ (.slice ua' RR.sealed.length uc')).setCell ⟨w.heap.size + 1 + 1, 3, none⟩ (.slice va' RR.seen.length vc')).setCell ⟨w.heap.size + 1 + 1, 4, none⟩ (.bool RR.planned)).setCell ⟨w.heap.size + 1 + 1, 5, none⟩ (.slice oa' RR.wrote.length oc')).heap.size := by simp
 obtain ⟨z0, g0⟩ := RB.2 0 _ rfl
 obtain ⟨z1, g1⟩ := RB.2 1 _ rfl
 obtain ⟨z2, g2⟩ := RB.2 2 _ rfl
 obtain ⟨z3, g3⟩ := RB.2 3 _ rfl
 obtain ⟨z4, g4⟩ := RB.2 4 _ rfl
 obtain ⟨z5, g5⟩ := RB.2 5 _ rfl
 have YY := dH ((((((RB.put 0 (.int .i64 RR.bye)).put 1 (.int .i64 RR.epoch)).put 2 (.slice ua' RR.sealed.length uc')).put 3 (.slice va' RR.seen.length vc')).put 4 (.bool RR.planned)).put 5 (.slice oa' RR.wrote.length oc'))
 have BF := dH ((((((BB.setCell (p := ⟨w.heap.size + 1 + 1, 0, none⟩) (by simp only; omega) (.int .i64 RR.bye)).setCell (p := ⟨w.heap.size + 1 + 1, 1, none⟩) (by simp only; omega) (.int .i64 RR.epoch)).setCell (p := ⟨w.heap.size + 1 + 1, 2, none⟩) (by simp only; omega) (.slice ua' RR.sealed.length uc')).setCell (p := ⟨w.heap.size + 1 + 1, 3, none⟩) (by simp only; omega) (.slice va' RR.seen.length vc')).setCell (p := ⟨w.heap.size + 1 + 1, 4, none⟩) (by simp only; omega) (.bool RR.planned)).setCell (p := ⟨w.heap.size + 1 + 1, 5, none⟩) (by simp only; omega) (.slice oa' RR.wrote.length oc'))
 have MF := dH ((((((M4.far (b := w.heap.size + 1 + 1) (o := 0) (.inl (by omega)) (.int .i64 RR.bye)).far (b := w.heap.size + 1 + 1) (o := 1) (.inl (by omega)) (.int .i64 RR.epoch)).far (b := w.heap.size + 1 + 1) (o := 2) (.inl (by omega)) (.slice ua' RR.sealed.length uc')).far (b := w.heap.size + 1 + 1) (o := 3) (.inl (by omega)) (.slice va' RR.seen.length vc')).far (b := w.heap.size + 1 + 1) (o := 4) (.inl (by omega)) (.bool RR.planned)).far (b := w.heap.size + 1 + 1) (o := 5) (.inl (by omega)) (.slice oa' RR.wrote.length oc'))
 clear RB BB
 go_wp2_with fail
 generalize ((((((w4.setCell ⟨w.heap.size + 1 + 1, 0, none⟩ (.int .i64 RR.bye)).setCell ⟨w.heap.size + 1 + 1, 1, none⟩ (.int .i64 RR.epoch)).setCell ⟨w.heap.size + 1 + 1, 2, none⟩ (.slice ua' RR.sealed.length uc')).setCell ⟨w.heap.size + 1 + 1, 3, none⟩ (.slice va' RR.seen.length vc')).setCell ⟨w.heap.size + 1 + 1, 4, none⟩ (.bool RR.planned)).setCell ⟨w.heap.size + 1 + 1, 5, none⟩ (.slice oa' RR.wrote.length oc')) = V at *
 have q0 := ((dU YY).2 0 _ rfl).1
 have q1 := ((dU YY).2 1 _ rfl).1
 have q2 := ((dU YY).2 2 _ rfl).1
 have q3 := ((dU YY).2 3 _ rfl).1
 have q4 := ((dU YY).2 4 _ rfl).1
 have q5 := ((dU YY).2 5 _ rfl).1
 refine bodyPost_ret (v := .tuple #[.agg #[.int .i64 RR.bye, .int .i64 RR.epoch, .slice ua' RR.sealed.length uc', .slice va' RR.seen.length vc', .bool RR.planned, .slice oa' RR.wrote.length oc'], .bool true]) (by simp [results, Tryz.results29, go_sem, q0, q1, q2, q3, q4, q5]) rfl ⟨⟨_, rfl, dU HMt _ _ _ _ _ rs' V ((dU MF).wide (by omega) (by omega)) hrs'⟩, dU BF⟩
end Go.Proofs.YtjkjmapibcfcdaaGreat
