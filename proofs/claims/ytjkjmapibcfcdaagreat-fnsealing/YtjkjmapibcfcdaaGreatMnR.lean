/- spec's MendPlan (printed by tools/mkmnr.py). -/
import Derived.Test.YtjkjmapibcfcdaaGreatMnI
import Derived.Test.YtjkjmapibcfcdaaGreatGaC
import Derived.Test.YtjkjmapibcfcdaaGreatGz8
import Derived.Deep.RegionHeld3
import Derived.Deep.DeepCutAuto
namespace Go.Proofs.YtjkjmapibcfcdaaGreat
open Go.ChangeShapes Go.WideShapes Go.ChangeAt Go.RowKit
set_option linter.unusedVariables false
set_option linter.unusedSimpArgs false
set_option maxRecDepth 100000

def plan9P (ds : List Int) (cop : Int) (m : Mn) (set : List Int) : Prop := m.planned = false ∧ enoughP ds cop set (bothL m.sealed set)
def plan9W (m : Mn) : Mn := ⟨m.bye, m.epoch, m.sealed, m.seen, true, List.replicate (lastO m.seen).toNat []⟩
open Classical in
noncomputable def plan9M (ds : List Int) (cop : Int) (m : Mn) (set : List Int) : Mn × Bool := if mnP ds cop m then (if plan9P ds cop m set then (plan9W m, true) else (m, false)) else (zeroMn, false)
theorem plan9M_bad {ds : List Int} {cop : Int} {m : Mn} {set : List Int} (h : ¬ mnP ds cop m) : plan9M ds cop m set = (zeroMn, false) := if_neg h
theorem plan9M_no {ds : List Int} {cop : Int} {m : Mn} {set : List Int} (h : mnP ds cop m) (hp : ¬ plan9P ds cop m set) : plan9M ds cop m set = (m, false) := (if_pos h).trans (if_neg hp)
theorem plan9M_yes {ds : List Int} {cop : Int} {m : Mn} {set : List Int} (h : mnP ds cop m) (hp : plan9P ds cop m set) : plan9M ds cop m set = (plan9W m, true) := (if_pos h).trans (if_pos hp)
theorem mnP.wrote0 {ds : List Int} {cop : Int} {m : Mn} (h : mnP ds cop m) (hp : m.planned = false) : m.wrote = [] := by
 have q := h.2.2.2
 unfold wroteP at q
 rw [hp] at q
 simp only [Bool.false_eq_true, if_false] at q
 exact List.length_eq_zero_iff.1 (by omega)
set_option maxHeartbeats 16000000 in
theorem specPlan9_ap (cv v tv : Value) (c : List Int × Int) (m : Mn) (set : List Int) (w : World) (hc : RdConfig cv c w) (hv : RdMend v m w) (ht : Ns w tv set) (hf : fitE m.seen) (hs : sizMend m ≤ 1048576) (hsc : c.1.length ≤ 1048576) (hst : set.length ≤ 1048576) :
  Calls Tryz.prog 143 #[cv, v, tv] w (AnsM w (plan9M c.1 c.2 m set)) := by
 have ba : ∀ (w : World) o, Below w.heap.size w (w.alloc o) := fun w o => (Below.refl _ _).alloc (Nat.le_refl _) o
 have CM := dH fun W (hb : Below w.heap.size w W) => specMendOk_any cv v c m W (hc.below hb) (hv.below hb) hf
 have CP := dH fun W (hb : Below w.heap.size w W) => l9Copy_apM v m W (hv.below hb) (by omega)
 obtain ⟨ds, cop⟩ := c
 have CLa : Hid (mnP ds cop m → ∀ W, Below w.heap.size w W → Calls Tryz.prog 82 #[v] W fun e w' => e = .returned (.int .i64 (lastO m.seen)) ∧ Below W.heap.size W w') := fun hp W hb => specLast_any v m W (hv.below hb) (fun i h => (hp.2.1 i h).1.1)
 obtain ⟨cs, rfl, hcn⟩ := id hc
 obtain ⟨-, ca, cc, rfl, -, -⟩ := id hcn
 obtain ⟨sv0, ev0, wv0, rfl, hsn, hen, hwn⟩ := id hv
 have hsl : m.sealed.length ≤ 1048576 := by unfold sizMend at hs; omega
 have CB := dH fun W (hb : Below w.heap.size w W) => l9Both_any sv0 tv m.sealed set W (hsn.below hb) (ht.below hb) (by omega)
 have CE := dH fun W (hb : Below w.heap.size w W) (o : Value) (ho : Ns W o (bothL m.sealed set)) => specEnough_any (.slice ca ds.length cc) tv o ds set (bothL m.sealed set) cop W (hcn.below hb) (ht.below hb) ho (by omega) (by have := bothL_len m.sealed set; omega)
 obtain ⟨sa, sc, ea, ec, wa, wz, he, hl1, hl2, hl3⟩ := formMend hv
 simp only [Value.agg.injEq, Array.mk.injEq, List.cons.injEq, and_true, true_and] at he
 obtain ⟨rfl, rfl, rfl⟩ := he
 simp only at *
 have LO : Hid (mnP ds cop m → 0 ≤ lastO m.seen ∧ lastO m.seen ≤ 60) := lastO_le
 have W0 : Hid (mnP ds cop m → m.planned = false → m.wrote = []) := fun h hp => h.wrote0 hp
 have T1 : Hid (¬ mnP ds cop m → plan9M ds cop m set = (zeroMn, false)) := plan9M_bad
 have T2 : Hid (mnP ds cop m → ¬ plan9P ds cop m set → plan9M ds cop m set = (m, false)) := plan9M_no
 have T3 : Hid (mnP ds cop m → plan9P ds cop m set → plan9M ds cop m set = (plan9W m, true)) := plan9M_yes
 have PA : Hid (plan9P ds cop m set ↔ m.planned = false ∧ enoughP ds cop set (bothL m.sealed set)) := Iff.rfl
 have HPt := dH fun (lo hi : Nat) (u : Value) (W : World) (h : ApM lo hi u m W) => h.parts
 have HMe := dH fun (lo hi : Nat) (sv ev wv : Value) rs (W : World) (h : MIn lo hi sv ev wv rs m.sealed m.seen W) (e : rs.map Nst.m = m.wrote) => h.mend e
 have HMt : Hid (∀ (lo hi : Nat) (sv ev wv : Value) (rs : List (Nst (List Int))) (W : World), MIn lo hi sv ev wv rs m.sealed m.seen W → rs.map Nst.m = List.replicate (lastO m.seen).toNat [] → OwMend lo hi (.agg #[.int .i64 m.bye, .int .i64 m.epoch, sv, ev, .bool true, wv]) (plan9W m) W ∧ ApM lo hi (.agg #[.int .i64 m.bye, .int .i64 m.epoch, sv, ev, .bool true, wv]) (plan9W m) W) := fun lo hi sv ev wv rs W h e => ⟨MIn.mend (m := plan9W m) h e, ⟨sv, ev, wv, rs, rfl, e, h⟩⟩
 generalize bothL m.sealed set = bl at *
 generalize plan9M ds cop m set = TM at *
 generalize plan9P ds cop m set = PQ at *
 generalize enoughP ds cop set bl = PE at *
 generalize mnP ds cop m = PM at *
 generalize lastO m.seen = lastN at *
 generalize m.bye = f0 at *
 generalize m.epoch = f1 at *
 generalize m.planned = f4 at *
 generalize m.sealed = ss at *
 generalize m.seen = es at *
 generalize m.wrote = ws at *
 clear hc hv hf hs hcn hsn hen hwn ht
 have X0 := ((Bx.new w [.slice ca ds.length cc, .int .i64 cop] 26).below (ba _ (.cells #[.int .i64 f0, .int .i64 f1, .slice sa ss.length sc, .slice ea es.length ec, .bool f4, .slice wa ws.length wz] 30))).below (ba _ (.cells #[.int .i64 0, .int .i64 0, .slice none 0 0, .slice none 0 0, .bool false, .slice none 0 0] 30))
 have M0 := (Bx.new (w.alloc (.cells #[.slice ca ds.length cc, .int .i64 cop] 26)) [.int .i64 f0, .int .i64 f1, .slice sa ss.length sc, .slice ea es.length ec, .bool f4, .slice wa ws.length wz] 30).below (ba _ (.cells #[.int .i64 0, .int .i64 0, .slice none 0 0, .slice none 0 0, .bool false, .slice none 0 0] 30))
 have R0 := BxZ.new (B := w.heap.size) ((w.alloc (.cells #[.slice ca ds.length cc, .int .i64 cop] 26)).alloc (.cells #[.int .i64 f0, .int .i64 f1, .slice sa ss.length sc, .slice ea es.length ec, .bool f4, .slice wa ws.length wz] 30)) [.int .i64 0, .int .i64 0, .slice none 0 0, .slice none 0 0, .bool false, .slice none 0 0] 30 (by simp; omega)
 rw [show (w.alloc (.cells #[.slice ca ds.length cc, .int .i64 cop] 26)).heap.size = w.heap.size + 1 from by simp] at M0
 rw [show ((w.alloc (.cells #[.slice ca ds.length cc, .int .i64 cop] 26)).alloc (.cells #[.int .i64 f0, .int .i64 f1, .slice sa ss.length sc, .slice ea es.length ec, .bool f4, .slice wa ws.length wz] 30)).heap.size = w.heap.size + 1 + 1 from by simp] at R0
 have B0 := bT (bT (ba w (.cells #[.slice ca ds.length cc, .int .i64 cop] 26)) (ba _ (.cells #[.int .i64 f0, .int .i64 f1, .slice sa ss.length sc, .slice ea es.length ec, .bool f4, .slice wa ws.length wz] 30))) (ba _ (.cells #[.int .i64 0, .int .i64 0, .slice none 0 0, .slice none 0 0, .bool false, .slice none 0 0] 30))
 go_enter Tryz.func143, Tryz.ntmps143
 go_wp2_with fail
 generalize (((w.alloc (.cells #[.slice ca ds.length cc, .int .i64 cop] 26)).alloc (.cells #[.int .i64 f0, .int .i64 f1, .slice sa ss.length sc, .slice ea es.length ec, .bool f4, .slice wa ws.length wz] 30)).alloc (.cells #[.int .i64 0, .int .i64 0, .slice none 0 0, .slice none 0 0, .bool false, .slice none 0 0] 30)) = w0 at *
 have HX := dH fun W (hb : Below w0.heap.size w0 W) => X0.below hb
 have HM := dH fun W (hb : Below w0.heap.size w0 W) => M0.below hb
 have HR := dH fun W (hb : Below w0.heap.size w0 W) => R0.below hb
 have hr0 : w.heap.size + 1 + 1 < w0.heap.size := R0.lt
 clear X0 M0 R0
 refine (dU CM _ B0).mono ?_
 rintro e w1 ⟨⟨b1, rfl, h1⟩, bl1⟩
 cases b1
 ·have e0 := dU T1 (fun h => by have := h1.2 h; cases this)
  subst e0
  have RB := dU HR _ bl1
  have BB := bT B0 bl1
  clear h1 CM CP CLa CB CE HX HM HR T1 T2 T3 PA HPt HMe HMt LO W0
  have hVz : w1.heap.size = ((((((w1.setCell ⟨w.heap.size + 1 + 1, 0, none⟩ (.int .i64 0)).setCell ⟨w.heap.size + 1 + 1, 1, none⟩ (.int .i64 0)).setCell ⟨w.heap.size + 1 + 1, 2, none⟩ (.slice none 0 0)).setCell ⟨w.heap.size + 1 + 1, 3, none⟩ (.slice none 0 0)).setCell ⟨w.heap.size + 1 + 1, 4, none⟩ (.bool false)).setCell ⟨w.heap.size + 1 + 1, 5, none⟩ (.slice none 0 0)).heap.size := by simp
  obtain ⟨z0, g0⟩ := RB.2 0 _ rfl
  obtain ⟨z1, g1⟩ := RB.2 1 _ rfl
  obtain ⟨z2, g2⟩ := RB.2 2 _ rfl
  obtain ⟨z3, g3⟩ := RB.2 3 _ rfl
  obtain ⟨z4, g4⟩ := RB.2 4 _ rfl
  obtain ⟨z5, g5⟩ := RB.2 5 _ rfl
  have YY := dH ((((((RB.put 0 (.int .i64 0)).put 1 (.int .i64 0)).put 2 (.slice none 0 0)).put 3 (.slice none 0 0)).put 4 (.bool false)).put 5 (.slice none 0 0))
  have BF := dH ((((((BB.setCell (p := ⟨w.heap.size + 1 + 1, 0, none⟩) (by simp only; omega) (.int .i64 0)).setCell (p := ⟨w.heap.size + 1 + 1, 1, none⟩) (by simp only; omega) (.int .i64 0)).setCell (p := ⟨w.heap.size + 1 + 1, 2, none⟩) (by simp only; omega) (.slice none 0 0)).setCell (p := ⟨w.heap.size + 1 + 1, 3, none⟩) (by simp only; omega) (.slice none 0 0)).setCell (p := ⟨w.heap.size + 1 + 1, 4, none⟩) (by simp only; omega) (.bool false)).setCell (p := ⟨w.heap.size + 1 + 1, 5, none⟩) (by simp only; omega) (.slice none 0 0))
  clear RB BB
  go_wp2_with fail
  generalize ((((((w1.setCell ⟨w.heap.size + 1 + 1, 0, none⟩ (.int .i64 0)).setCell ⟨w.heap.size + 1 + 1, 1, none⟩ (.int .i64 0)).setCell ⟨w.heap.size + 1 + 1, 2, none⟩ (.slice none 0 0)).setCell ⟨w.heap.size + 1 + 1, 3, none⟩ (.slice none 0 0)).setCell ⟨w.heap.size + 1 + 1, 4, none⟩ (.bool false)).setCell ⟨w.heap.size + 1 + 1, 5, none⟩ (.slice none 0 0)) = V at *
  have q0 := ((dU YY).2 0 _ rfl).1
  have q1 := ((dU YY).2 1 _ rfl).1
  have q2 := ((dU YY).2 2 _ rfl).1
  have q3 := ((dU YY).2 3 _ rfl).1
  have q4 := ((dU YY).2 4 _ rfl).1
  have q5 := ((dU YY).2 5 _ rfl).1
  refine bodyPost_ret (v := .tuple #[.agg #[.int .i64 0, .int .i64 0, .slice none 0 0, .slice none 0 0, .bool false, .slice none 0 0], .bool false]) (by simp [results, Tryz.results143, go_sem, q0, q1, q2, q3, q4, q5]) rfl (AnsM.no (OwMend.zero _ _ _) (dU BF))
 have hPM := dH (h1.1 rfl)
 clear h1 CM
 have y0 := dU HM _ bl1 0 _ rfl
 have y1 := dU HM _ bl1 1 _ rfl
 have y2 := dU HM _ bl1 2 _ rfl
 have y3 := dU HM _ bl1 3 _ rfl
 have y4 := dU HM _ bl1 4 _ rfl
 have y5 := dU HM _ bl1 5 _ rfl
 go_wp2_with fail
 refine (dU CP _ (bT B0 bl1)).mono ?_
 rintro e w2 ⟨⟨u, rfl, OU⟩, b2⟩
 obtain ⟨ua, uc, va, vc, oa, oc, r0, rfl, hrs, MO⟩ := dU HPt _ _ _ _ OU
 have hs1 := bl1.size
 have hs2 := b2.size
 have hsB := B0.size
 have bOw := ba w2 (.cells #[.int .i64 f0, .int .i64 f1, .slice ua ss.length uc, .slice va es.length vc, .bool f4, .slice oa ws.length oc] 30)
 have OB := BxZ.new (B := w.heap.size) w2 [.int .i64 f0, .int .i64 f1, .slice ua ss.length uc, .slice va es.length vc, .bool f4, .slice oa ws.length oc] 30 (by omega)
 have hs3 : w2.heap.size < (w2.alloc (.cells #[.int .i64 f0, .int .i64 f1, .slice ua ss.length uc, .slice va es.length vc, .bool f4, .slice oa ws.length oc] 30)).heap.size := by simp
 have M3 := dH (MO.below (Nat.le_refl _) bOw)
 have hb3 := bT bl1 (bT b2 bOw)
 clear y0 y1 y2 y3 y4 y5 OU CP MO
 have PP : Hid (∀ W, Below w0.heap.size w0 W → (W.cell? ⟨w.heap.size, 0, none⟩ = some (.slice ca ds.length cc) ∧ W.cell? ⟨w.heap.size, 1, none⟩ = some (.int .i64 cop)) ∧ W.cell? ⟨w.heap.size + 1, 2, none⟩ = some (.slice sa ss.length sc) ∧ W.cell? ⟨w.heap.size + 1, 4, none⟩ = some (.bool f4)) := fun W hb => ⟨⟨dU HX W hb 0 _ rfl, dU HX W hb 1 _ rfl⟩, dU HM W hb 2 _ rfl, dU HM W hb 4 _ rfl⟩
 have py := dU PP _ hb3
 go_wp2_with fail
 generalize hob : w2.heap.size = ob at *
 generalize w2.alloc (.cells #[.int .i64 f0, .int .i64 f1, .slice ua ss.length uc, .slice va es.length vc, .bool f4, .slice oa ws.length oc] 30) = w3 at *
 have bd : Below w3.heap.size w3 w3.drew := (Below.refl _ _).drew
 have hb3d := bT hb3 bd
 have pz := dU PP _ hb3d
 cases f4
 ·refine wp_region_noPanic ?_
  refine wp_region_held_drew (S := fun W => (W.cell? ⟨w.heap.size, 0, none⟩ = some (.slice ca ds.length cc) ∧ W.cell? ⟨w.heap.size, 1, none⟩ = some (.int .i64 cop)) ∧ W.cell? ⟨w.heap.size + 1, 2, none⟩ = some (.slice sa ss.length sc) ∧ W.cell? ⟨w.heap.size + 1, 4, none⟩ = some (.bool false)) (by kernel_rfl) (by first | exact pd | exact pz | exact py | go_keep) (fun hHeld => ?_)
  refine tY 0 (v := ?_) rfl (by kernel_rfl) (.inl ⟨by rfl, ?_⟩) ‹_› ?_
  rotate_left 1
  ·intro w hSw
   (try dsimp only at hSw)
   first | (go_simp; done) | (go_simp; with_reducible rfl)
  try simp only [Act.put, sA, sB, sC]
  refine tY 1 (v := ?_) rfl (by kernel_rfl) (.inl ⟨by rfl, ?_⟩) ‹_› ?_
  rotate_left 1
  ·intro w hSw
   (try dsimp only at hSw)
   first | (go_simp; done) | (go_simp; with_reducible rfl)
  try simp only [Act.put, sA, sB, sC]
  refine tY 2 (v := ?_) rfl (by kernel_rfl) (.inl ⟨by rfl, ?_⟩) ‹_› ?_
  rotate_left 1
  ·intro w hSw
   (try dsimp only at hSw)
   first | (go_simp; done) | (go_simp; with_reducible rfl)
  try simp only [Act.put, sA, sB, sC]
  refine tY 3 (v := ?_) rfl (by kernel_rfl) (.inl ⟨by rfl, ?_⟩) ‹_› ?_
  rotate_left 1
  ·intro w hSw
   (try dsimp only at hSw)
   first | (go_simp; done) | (go_simp; with_reducible rfl)
  try simp only [Act.put, sA, sB, sC]
  refine tY 4 (v := ?_) rfl (by kernel_rfl) (.inl ⟨by rfl, ?_⟩) ‹_› ?_
  rotate_left 1
  ·intro w hSw
   (try dsimp only at hSw)
   first | (go_simp; done) | (go_simp; with_reducible rfl)
  try simp only [Act.put, sA, sB, sC]
  refine tY 5 (v := ?_) rfl (by kernel_rfl) (.inl ⟨by rfl, ?_⟩) ‹_› ?_
  rotate_left 1
  ·intro w hSw
   (try dsimp only at hSw)
   first | (go_simp; done) | (go_simp; with_reducible rfl)
  try simp only [Act.put, sA, sB, sC]
  refine tY 6 (v := ?_) rfl (by kernel_rfl) (.inl ⟨by rfl, ?_⟩) ‹_› ?_
  rotate_left 1
  ·intro w hSw
   (try dsimp only at hSw)
   first | (go_simp; done) | (go_simp; with_reducible rfl)
  try simp only [Act.put, sA, sB, sC]
  refine tY 7 (v := ?_) rfl (by kernel_rfl) (.inl ⟨by rfl, ?_⟩) ‹_› ?_
  rotate_left 1
  ·intro w hSw
   (try dsimp only at hSw)
   first | (go_simp; done) | (go_simp; with_reducible rfl)
  try simp only [Act.put, sA, sB, sC]
  refine wpAnyH_ready (rs := [8]) (by kernel_rfl) (by simp) ?_
  refine rC rfl (fun K hK => ?_) AllReadyH.nil
  go_simp
  refine (dU CB _ (bT B0 hb3d)).mono ?_
  rintro e w4 ⟨⟨o4, rfl, O4⟩, b4⟩
  have hb4 := bT hb3d b4
  have pd := dU PP _ hb4
  (try go_wp2_with fail)
  refine hK.out _ _ (by first | exact pd | exact pz | exact py | go_keep) (fun hHeld => ?_)
  clear hK K
  try simp only [Act.put, sA, sB, sC]
  refine wpAnyH_ready (rs := [9]) (by kernel_rfl) (by simp) ?_
  refine rC rfl (fun K hK => ?_) AllReadyH.nil
  go_simp
  refine (dU CE _ (bT B0 hb4) _ O4.bs).mono ?_
  rintro e w5 ⟨⟨b5, rfl, hb2⟩, b5'⟩
  have hb5 := bT hb4 b5'
  have pd := dU PP _ hb5
  have b35 := bT bd (bT b4 b5')
  clear O4 b4 b5'
  (try go_wp2_with fail)
  refine hK.out _ _ (by first | exact pd | exact pz | exact py | go_keep) (fun hHeld => ?_)
  clear hK K
  try simp only [Act.put, sA, sB, sC]
  refine tY 10 (v := ?_) rfl (by kernel_rfl) (.inl ⟨by rfl, ?_⟩) ‹_› ?_
  rotate_left 1
  ·intro w hSw
   (try dsimp only at hSw)
   first | (go_simp; done) | (go_simp; with_reducible rfl)
  try simp only [Act.put, sA, sB, sC]
  refine tY 11 (v := ?_) rfl (by kernel_rfl) (.inl ⟨by rfl, ?_⟩) ‹_› ?_
  rotate_left 1
  ·intro w hSw
   (try dsimp only at hSw)
   first | (go_simp; done) | (go_simp; with_reducible rfl)
  try simp only [Act.put, sA, sB, sC]
  refine wpAnyH_done (by kernel_rfl) ?_ _
  refine NoPanic.normal ?_
  have Od := OB.below b35
  have Md := dH ((dU M3).below (by omega) b35)
  have hs5 := b35.size
  clear OB M3 CB CE
  cases b5
  ·have e0 := dU T2 (dU hPM) (fun h => by have := hb2.2 ((dU PA).1 h).2; cases this)
   subst e0
   have RB := dU HR _ hb5
   have BB := bT B0 hb5
   have o0 := (Od.2 0 _ rfl).1
   have o1 := (Od.2 1 _ rfl).1
   have o2 := (Od.2 2 _ rfl).1
   have o3 := (Od.2 3 _ rfl).1
   have o4 := (Od.2 4 _ rfl).1
   have o5 := (Od.2 5 _ rfl).1
   clear HX HM HR T1 T2 T3 PA HPt HMt LO W0 CLa PP hb2 hPM
   have hVz : w5.heap.size = ((((((w5.setCell ⟨w.heap.size + 1 + 1, 0, none⟩ (.int .i64 f0)).setCell ⟨w.heap.size + 1 + 1, 1, none⟩ (.int .i64 f1)).setCell ⟨w.heap.size + 1 + 1, 2, none⟩ (.slice ua ss.length uc)).setCell ⟨w.heap.size + 1 + 1, 3, none⟩ (.slice va es.length vc)).setCell ⟨w.heap.size + 1 + 1, 4, none⟩ (.bool false)).setCell ⟨w.heap.size + 1 + 1, 5, none⟩ (.slice oa ws.length oc)).heap.size := by simp
   obtain ⟨z0, g0⟩ := RB.2 0 _ rfl
   obtain ⟨z1, g1⟩ := RB.2 1 _ rfl
   obtain ⟨z2, g2⟩ := RB.2 2 _ rfl
   obtain ⟨z3, g3⟩ := RB.2 3 _ rfl
   obtain ⟨z4, g4⟩ := RB.2 4 _ rfl
   obtain ⟨z5, g5⟩ := RB.2 5 _ rfl
   have YY := dH ((((((RB.put 0 (.int .i64 f0)).put 1 (.int .i64 f1)).put 2 (.slice ua ss.length uc)).put 3 (.slice va es.length vc)).put 4 (.bool false)).put 5 (.slice oa ws.length oc))
   have BF := dH ((((((BB.setCell (p := ⟨w.heap.size + 1 + 1, 0, none⟩) (by simp only; omega) (.int .i64 f0)).setCell (p := ⟨w.heap.size + 1 + 1, 1, none⟩) (by simp only; omega) (.int .i64 f1)).setCell (p := ⟨w.heap.size + 1 + 1, 2, none⟩) (by simp only; omega) (.slice ua ss.length uc)).setCell (p := ⟨w.heap.size + 1 + 1, 3, none⟩) (by simp only; omega) (.slice va es.length vc)).setCell (p := ⟨w.heap.size + 1 + 1, 4, none⟩) (by simp only; omega) (.bool false)).setCell (p := ⟨w.heap.size + 1 + 1, 5, none⟩) (by simp only; omega) (.slice oa ws.length oc))
   have MF := dH (((((((dU Md).far (b := w.heap.size + 1 + 1) (o := 0) (.inl (by omega)) (.int .i64 f0)).far (b := w.heap.size + 1 + 1) (o := 1) (.inl (by omega)) (.int .i64 f1)).far (b := w.heap.size + 1 + 1) (o := 2) (.inl (by omega)) (.slice ua ss.length uc)).far (b := w.heap.size + 1 + 1) (o := 3) (.inl (by omega)) (.slice va es.length vc)).far (b := w.heap.size + 1 + 1) (o := 4) (.inl (by omega)) (.bool false)).far (b := w.heap.size + 1 + 1) (o := 5) (.inl (by omega)) (.slice oa ws.length oc))
   clear RB BB
   go_wp2_with fail
   generalize ((((((w5.setCell ⟨w.heap.size + 1 + 1, 0, none⟩ (.int .i64 f0)).setCell ⟨w.heap.size + 1 + 1, 1, none⟩ (.int .i64 f1)).setCell ⟨w.heap.size + 1 + 1, 2, none⟩ (.slice ua ss.length uc)).setCell ⟨w.heap.size + 1 + 1, 3, none⟩ (.slice va es.length vc)).setCell ⟨w.heap.size + 1 + 1, 4, none⟩ (.bool false)).setCell ⟨w.heap.size + 1 + 1, 5, none⟩ (.slice oa ws.length oc)) = V at *
   have q0 := ((dU YY).2 0 _ rfl).1
   have q1 := ((dU YY).2 1 _ rfl).1
   have q2 := ((dU YY).2 2 _ rfl).1
   have q3 := ((dU YY).2 3 _ rfl).1
   have q4 := ((dU YY).2 4 _ rfl).1
   have q5 := ((dU YY).2 5 _ rfl).1
   refine bodyPost_ret (v := .tuple #[.agg #[.int .i64 f0, .int .i64 f1, .slice ua ss.length uc, .slice va es.length vc, .bool false, .slice oa ws.length oc], .bool false]) (by simp [results, Tryz.results143, go_sem, q0, q1, q2, q3, q4, q5]) rfl (AnsM.no (dU HMe _ _ _ _ _ r0 V ((dU MF).wide (by omega) (by omega)) hrs) (dU BF))
  have hPQ := (dU PA).2 ⟨by first | rfl | trivial, hb2.1 rfl⟩
  have e0 := dU T3 (dU hPM) hPQ
  subst e0
  have hL := dU LO (dU hPM)
  have ew := dU W0 (dU hPM) (by first | rfl | trivial)
  subst ew
  have er : r0 = [] := by simpa using hrs
  subst er
  simp only [List.length_nil, Bool.not_true] at *
  obtain ⟨LN, hLN⟩ : ∃ LN : Nat, lastN = (LN : Int) := ⟨lastN.toNat, by omega⟩
  subst hLN
  obtain ⟨z4, g4⟩ := Od.2 4 _ rfl
  have O6 := dH (Od.put 4 (.bool true))
  have B6 := hb5.setCell (p := ⟨ob, 4, none⟩) (by simp only; omega) (.bool true)
  have T6 : Hid (touch (.slice oa 0 oc) ≠ some ob) := fun e => by
   have := (dU Md).lh _ e
   omega
  have A6 := dH (ApR.put elemL (dU Md).l.1 (b := ob) (o' := 4) (dU T6) (.bool true))
  have TS0 : Hid (ss = [] ∨ touch (.slice oa 0 oc) ≠ some (bO (.slice ua ss.length uc))) := (dU Md).sw.imp id (fun q => q.1)
  have TE0 : Hid (es = [] ∨ touch (.slice oa 0 oc) ≠ some (bO (.slice va es.length vc))) := (dU Md).ew.imp id (fun q => q.1)
  have EB : Hid (es = [] ∨ bO (.slice va es.length vc) < ob) := (dU Md).eh
  have S6 : Hid (OwN w1.heap.size ob (.slice ua ss.length uc) ss (w5.setCell ⟨ob, 4, none⟩ (.bool true))) := (dU Md).s.putW (by
   rcases (dU Md).s.2 with q | q
   ·exact .inl q
   ·exact .inr (by omega)) _
  have E6 : Hid (CpE (w5.setCell ⟨ob, 4, none⟩ (.bool true)) w1.heap.size (.slice va es.length vc) es) := (dU Md).e.put4 (by
   rcases (dU Md).eh with q | q
   ·exact .inl q
   ·exact .inr (by omega)) _
  have SE : Hid (ss = [] ∨ es = [] ∨ bO (.slice ua ss.length uc) ≠ bO (.slice va es.length vc)) := (dU Md).se
  have CL := dH (dU CLa (dU hPM))
  have hz6 : w5.heap.size = (w5.setCell ⟨ob, 4, none⟩ (.bool true)).heap.size := by simp
  have hob5 : ob < w5.heap.size := Od.lt
  clear Od Md CLa T1 T2 T3 PA LO W0 HPt HMe HX PP hb2 hPQ pd pz py hb3d hb4 hb5 hrs
  go_wp2_with fail
  generalize w5.setCell ⟨ob, 4, none⟩ (.bool true) = w6 at *
  clear z4 g4
  go_loopw [9] (fun y wr => ∃ (k : Nat) (rs : List (Nst (List Int))) (oa : Option Addr) (oc : Nat), y = .int .i64 (k : Int) ∧ k ≤ LN ∧ Hid (rs.length = k) ∧ Hid (∀ p ∈ rs, p.m = [] ∧ p.c = 0) ∧ Hid (ApR 24 1 lsCl wr w1.heap.size (.slice oa k oc) rs) ∧ Hid (BxZ wr w.heap.size ob [.int .i64 f0, .int .i64 f1, .slice ua ss.length uc, .slice va es.length vc, .bool true, .slice oa k oc]) ∧ Hid (OwN w1.heap.size ob (.slice ua ss.length uc) ss wr) ∧ Hid (CpE wr w1.heap.size (.slice va es.length vc) es) ∧ Hid (ss = [] ∨ touch (.slice oa k oc) ≠ some (bO (.slice ua ss.length uc))) ∧ Hid (es = [] ∨ touch (.slice oa k oc) ≠ some (bO (.slice va es.length vc))) ∧ Hid (touch (.slice oa k oc) ≠ some ob) ∧ ob < wr.heap.size ∧ Below w0.heap.size w0 wr) (fun y _ => LN - (intOf y).toNat)
  case atStart => exact ⟨0, [], oa, oc, rfl, Nat.zero_le _, rfl, (fun p hp => by cases hp), A6, O6, S6, E6, TS0, TE0, T6, by omega, B6⟩
  case round =>
   obtain ⟨k, rs, oa, oc, rfl, hk, hrl, hE, hA, hO, hS, hEn, hTS, hTE, hT, hbv, hb⟩ := hrel
   clear A6 O6 S6 E6 B6 hz6 TS0 TE0
   have y0 := dU HM wr hb 0 _ rfl
   have y1 := dU HM wr hb 1 _ rfl
   have y2 := dU HM wr hb 2 _ rfl
   have y3 := dU HM wr hb 3 _ rfl
   have y4 := dU HM wr hb 4 _ rfl
   have y5 := dU HM wr hb 5 _ rfl
   have CQ := dH (dU CL wr (bT B0 hb))
   go_wp2_with fail
   refine (dU CQ).mono ?_
   rintro e wq ⟨rfl, bq⟩
   clear y0 y1 y2 y3 y4 y5 CQ
   have sq := bq.size
   have Oq := (dU hO).below bq
   have hbq := bT hb bq
   have Sq := dH ((dU hS).keepB (by
    rcases (dU hS).1.bs.lt with q | q
    ·exact .inl q
    ·exact .inr (bq.block _ q)))
   have Eq := dH ((dU hEn).below bq)
   have Aq := dH ((dU hA).below bq)
   clear hO hS hEn hA hb
   by_cases hlt : (k : Int) < (LN : Int)
   ·have bA := ba wq (.cells #[] 3)
    have bB := ba (wq.alloc (.cells #[] 3)) (.cells #[.slice (some ⟨wq.heap.size, 0, none⟩) 0 0] 24)
    have bAB := bT bA bB
    have RW := rwL_one (wq.alloc (.cells #[] 3)) ⟨some ⟨wq.heap.size, 0, none⟩, 0, []⟩ 24 1 (by omega)
    rw [show (wq.alloc (.cells #[] 3)).heap.size = wq.heap.size + 1 from by simp] at RW
    have AA := (dU Aq).below bAB
    have szAB : ((wq.alloc (.cells #[] 3)).alloc (.cells #[.slice (some ⟨wq.heap.size, 0, none⟩) 0 0] 24)).heap.size = wq.heap.size + 1 + 1 := by simp
    have o5 := (Oq.2 5 _ rfl).1
    have KN : Hid (∀ v' (w7 : World), ApR 24 1 lsCl w7 w1.heap.size v' (rs ++ [⟨some ⟨wq.heap.size, 0, none⟩, 0, []⟩]) → ((wq.alloc (.cells #[] 3)).alloc (.cells #[.slice (some ⟨wq.heap.size, 0, none⟩) 0 0] 24)).grownBy w7 (touch (.slice oa k oc)) → (touch v' = touch (.slice oa k oc) ∨ ∀ j, touch v' = some j → ((wq.alloc (.cells #[] 3)).alloc (.cells #[.slice (some ⟨wq.heap.size, 0, none⟩) 0 0] 24)).heap.size ≤ j) → ∃ na nc, v' = .slice na (k + 1) nc ∧ BxZ w7 w.heap.size ob [.int .i64 f0, .int .i64 f1, .slice ua ss.length uc, .slice va es.length vc, .bool true, .slice oa k oc] ∧ ApR 24 1 lsCl (w7.setCell ⟨ob, 5, none⟩ (.slice na (k + 1) nc)) w1.heap.size (.slice na (k + 1) nc) (rs ++ [⟨some ⟨wq.heap.size, 0, none⟩, 0, []⟩]) ∧ OwN w1.heap.size ob (.slice ua ss.length uc) ss (w7.setCell ⟨ob, 5, none⟩ (.slice na (k + 1) nc)) ∧ CpE (w7.setCell ⟨ob, 5, none⟩ (.slice na (k + 1) nc)) w1.heap.size (.slice va es.length vc) es ∧ (ss = [] ∨ touch (.slice na (k + 1) nc) ≠ some (bO (.slice ua ss.length uc))) ∧ (es = [] ∨ touch (.slice na (k + 1) nc) ≠ some (bO (.slice va es.length vc))) ∧ touch (.slice na (k + 1) nc) ≠ some ob ∧ Below w0.heap.size w0 w7 ∧ ob < w7.heap.size) := fun v' w7 h1 h2 h3 => by
     obtain ⟨na, nc, rfl⟩ := ApR.slice elemL h1
     have el : (rs ++ [(⟨some ⟨wq.heap.size, 0, none⟩, 0, []⟩ : Nst (List Int))]).length = k + 1 := by
      have := dU hrl
      simp [this]
     rw [el] at h1 h3 ⊢
     have s7 := h2.size
     have htn : touch (.slice na (k + 1) nc) ≠ some ob := by
      rcases h3 with h3 | h3
      ·rw [h3]; exact dU hT
      ·intro e
       have := h3 _ e
       omega
     have hbl : ∀ j, touch (.slice oa k oc) = some j → w1.heap.size ≤ j := fun j hj => ((dU Aq).touched elemL hj).1
     have nt : ∀ b, b < wq.heap.size → touch (.slice oa k oc) ≠ some b → touch (.slice na (k + 1) nc) ≠ some b := fun b hb hn => by
      rcases h3 with h3 | h3
      ·rw [h3]; exact hn
      ·intro e
       have := h3 _ e
       omega
     refine ⟨na, nc, rfl, (Oq.below bAB).grown h2 (fun e => dU hT e), ApR.put elemL h1 htn _, ?_, ?_, ?_, ?_, htn, (bT hbq bAB).grown h2 (by omega) (fun j hj => by have := hbl j hj; omega), by omega⟩
     ·refine (dU Sq).keepB ?_
      rcases (dU Sq).2 with q | q
      ·exact .inl q
      ·rcases dU hTS with q' | q'
       ·exact .inl q'
       ·exact .inr ((Below.heap_setCell _ _ _ _ (by simp only; omega)).trans ((h2.block _ (by omega) (fun e => q' e.symm)).trans (bAB.block _ (by omega))))
     ·refine CpE.put4 (((dU Eq).below bAB).grown4 h2 (dU hTE)) ?_ _
      rcases dU EB with q | q
      ·exact .inl q
      ·exact .inr (by omega)
     ·rcases (dU Sq).2 with q | q
      ·exact .inl q
      ·rcases dU hTS with q' | q'
       ·exact .inl q'
       ·exact .inr (nt _ (by omega) q')
     ·rcases dU EB with q | q
      ·exact .inl q
      ·rcases dU hTE with q' | q'
       ·exact .inl q'
       ·exact .inr (nt _ (by omega) q')
    have E2 : Hid (∀ p ∈ rs ++ [(⟨some ⟨wq.heap.size, 0, none⟩, 0, []⟩ : Nst (List Int))], p.m = [] ∧ p.c = 0) := fun p hp => by
     rcases List.mem_append.1 hp with h | h
     ·exact dU hE p h
     ·obtain rfl : p = ⟨some ⟨wq.heap.size, 0, none⟩, 0, []⟩ := by simpa using h
      exact ⟨rfl, rfl⟩
    have L2 : Hid ((rs ++ [(⟨some ⟨wq.heap.size, 0, none⟩, 0, []⟩ : Nst (List Int))]).length = k + 1) := by
     have := dU hrl
     simp [Hid, this]
    have hrk : rs.length ≤ 60 := by have := dU hrl; omega
    clear Aq Sq Eq Oq hT hTS hTE hE hrl bA bB
    go_wp2_with (at_builtin; refine wp_apR elemL rfl _ _ rfl w1.heap.size _ rs rfl AA _ [⟨some ⟨wq.heap.size, 0, none⟩, 0, []⟩] rfl RW (by simp; omega) (by simp; omega) (by omega) ?_; intro v' w7 A7 G7 T7; obtain ⟨na, nc, rfl, O7, Z7, S7, E7, P7, R7, N7, B7, hs7⟩ := dU KN v' w7 A7 G7 T7; replace P7 := dH P7; replace R7 := dH R7; replace Z7 := dH Z7; replace S7 := dH S7; replace E7 := dH E7; replace N7 := dH N7; replace B7 := dH B7; (obtain ⟨z5, g5⟩ := O7.2 5 _ rfl); replace O7 := dH (O7.put 5 (.slice na (k + 1) nc)); clear A7 G7 T7 KN AA RW o5)
    go_roundw
    case rel => exact ⟨k + 1, _, na, nc, by go_num, by omega, L2, E2, Z7, O7, S7, E7, P7, R7, N7, by rw [World.size_setCell]; omega, (dU B7).setCell (p := ⟨ob, 5, none⟩) (by simp only; omega) _⟩
    case measure => simp [intOf]; omega
   ·have ek : k = LN := by omega
    subst ek
    have G9 : Hid (rs.map Nst.m = List.replicate ((k : Nat) : Int).toNat []) := by
     show _ = _
     rw [Int.toNat_natCast]
     refine List.eq_replicate_iff.2 ⟨by rw [List.length_map]; exact dU hrl, fun b hb => ?_⟩
     obtain ⟨p, hp, rfl⟩ := List.mem_map.1 hb
     exact (dU hE p hp).1
    have M9 : MIn w1.heap.size wq.heap.size (.slice ua ss.length uc) (.slice va es.length vc) (.slice oa k oc) rs ss es wq := by
     refine ⟨(dU Sq).wide (Nat.le_refl _) (by omega), dU Eq, (dU Eq).lt, ⟨dU Aq, fun p hp => ?_, ⟨(fun i j hi hj hij => .inl (dU hE _ (List.getElem_mem hi)).1), fun i hi => .inl (dU hE _ (List.getElem_mem hi)).1⟩, fun p hp => .inl (dU hE p hp).1⟩, fun b hb => ((dU Aq).touched elemL hb).2, fun p hp => .inl (dU hE p hp).1, dU SE, (dU hTS).imp id (fun q => ⟨q, fun p hp => .inl (dU hE p hp).1⟩), (dU hTE).imp id (fun q => ⟨q, fun p hp => .inl (dU hE p hp).1⟩)⟩
     obtain ⟨e1, e2⟩ := dU hE p hp
     obtain ⟨pa, pc, pm⟩ := p
     simp only at e1 e2
     subst e1 e2
     exact ⟨by simp, pa, 0, rfl, by simp, .inl rfl⟩
    have RB := dU HR _ hbq
    have BB := bT B0 hbq
    have o0 := (Oq.2 0 _ rfl).1
    have o1 := (Oq.2 1 _ rfl).1
    have o2 := (Oq.2 2 _ rfl).1
    have o3 := (Oq.2 3 _ rfl).1
    have o4 := (Oq.2 4 _ rfl).1
    have o5 := (Oq.2 5 _ rfl).1
    clear Aq Sq Eq Oq hT hTS hTE hE hrl HM HR CL
    have hVz : wq.heap.size = ((((((wq.setCell ⟨w.heap.size + 1 + 1, 0, none⟩ (.int .i64 f0)).setCell ⟨w.heap.size + 1 + 1, 1, none⟩ (.int .i64 f1)).setCell ⟨w.heap.size + 1 + 1, 2, none⟩ (.slice ua ss.length uc)).setCell ⟨w.heap.size + 1 + 1, 3, none⟩ (.slice va es.length vc)).setCell ⟨w.heap.size + 1 + 1, 4, none⟩ (.bool true)).setCell ⟨w.heap.size + 1 + 1, 5, none⟩ (.slice oa k oc)).heap.size := by simp
    obtain ⟨z0, g0⟩ := RB.2 0 _ rfl
    obtain ⟨z1, g1⟩ := RB.2 1 _ rfl
    obtain ⟨z2, g2⟩ := RB.2 2 _ rfl
    obtain ⟨z3, g3⟩ := RB.2 3 _ rfl
    obtain ⟨z4, g4⟩ := RB.2 4 _ rfl
    obtain ⟨z5, g5⟩ := RB.2 5 _ rfl
    have YY := dH ((((((RB.put 0 (.int .i64 f0)).put 1 (.int .i64 f1)).put 2 (.slice ua ss.length uc)).put 3 (.slice va es.length vc)).put 4 (.bool true)).put 5 (.slice oa k oc))
    have BF := dH ((((((BB.setCell (p := ⟨w.heap.size + 1 + 1, 0, none⟩) (by simp only; omega) (.int .i64 f0)).setCell (p := ⟨w.heap.size + 1 + 1, 1, none⟩) (by simp only; omega) (.int .i64 f1)).setCell (p := ⟨w.heap.size + 1 + 1, 2, none⟩) (by simp only; omega) (.slice ua ss.length uc)).setCell (p := ⟨w.heap.size + 1 + 1, 3, none⟩) (by simp only; omega) (.slice va es.length vc)).setCell (p := ⟨w.heap.size + 1 + 1, 4, none⟩) (by simp only; omega) (.bool true)).setCell (p := ⟨w.heap.size + 1 + 1, 5, none⟩) (by simp only; omega) (.slice oa k oc))
    have MF := dH ((((((M9.far (b := w.heap.size + 1 + 1) (o := 0) (.inl (by omega)) (.int .i64 f0)).far (b := w.heap.size + 1 + 1) (o := 1) (.inl (by omega)) (.int .i64 f1)).far (b := w.heap.size + 1 + 1) (o := 2) (.inl (by omega)) (.slice ua ss.length uc)).far (b := w.heap.size + 1 + 1) (o := 3) (.inl (by omega)) (.slice va es.length vc)).far (b := w.heap.size + 1 + 1) (o := 4) (.inl (by omega)) (.bool true)).far (b := w.heap.size + 1 + 1) (o := 5) (.inl (by omega)) (.slice oa k oc))
    clear RB BB
    go_wp2_with fail
    generalize ((((((wq.setCell ⟨w.heap.size + 1 + 1, 0, none⟩ (.int .i64 f0)).setCell ⟨w.heap.size + 1 + 1, 1, none⟩ (.int .i64 f1)).setCell ⟨w.heap.size + 1 + 1, 2, none⟩ (.slice ua ss.length uc)).setCell ⟨w.heap.size + 1 + 1, 3, none⟩ (.slice va es.length vc)).setCell ⟨w.heap.size + 1 + 1, 4, none⟩ (.bool true)).setCell ⟨w.heap.size + 1 + 1, 5, none⟩ (.slice oa k oc)) = V at *
    have q0 := ((dU YY).2 0 _ rfl).1
    have q1 := ((dU YY).2 1 _ rfl).1
    have q2 := ((dU YY).2 2 _ rfl).1
    have q3 := ((dU YY).2 3 _ rfl).1
    have q4 := ((dU YY).2 4 _ rfl).1
    have q5 := ((dU YY).2 5 _ rfl).1
    refine bodyPost_ret (v := .tuple #[.agg #[.int .i64 f0, .int .i64 f1, .slice ua ss.length uc, .slice va es.length vc, .bool true, .slice oa k oc], .bool true]) (by simp [results, Tryz.results143, go_sem, q0, q1, q2, q3, q4, q5]) rfl (AnsM.yes (dU HMt _ _ _ _ _ rs V ((dU MF).wide (by omega) (by omega)) (dU G9)) (dU BF))
 ·refine wp_region_noPanic ?_
  refine wp_region_held_drew (S := fun W => (W.cell? ⟨w.heap.size, 0, none⟩ = some (.slice ca ds.length cc) ∧ W.cell? ⟨w.heap.size, 1, none⟩ = some (.int .i64 cop)) ∧ W.cell? ⟨w.heap.size + 1, 2, none⟩ = some (.slice sa ss.length sc) ∧ W.cell? ⟨w.heap.size + 1, 4, none⟩ = some (.bool true)) (by kernel_rfl) (by first | exact pd | exact pz | exact py | go_keep) (fun hHeld => ?_)
  have Od := OB.below bd
  have Md := (dU M3).below (by omega) bd
  have hsd := bd.size
  have pd := pz
  clear OB M3 py pz
  generalize w3.drew = wd at *
  refine tY 0 (v := ?_) rfl (by kernel_rfl) (.inl ⟨by rfl, ?_⟩) ‹_› ?_
  rotate_left 1
  ·intro w hSw
   (try dsimp only at hSw)
   first | (go_simp; done) | (go_simp; with_reducible rfl)
  try simp only [Act.put, sA, sB, sC]
  refine tY 1 (v := ?_) rfl (by kernel_rfl) (.inl ⟨by rfl, ?_⟩) ‹_› ?_
  rotate_left 1
  ·intro w hSw
   (try dsimp only at hSw)
   first | (go_simp; done) | (go_simp; with_reducible rfl)
  try simp only [Act.put, sA, sB, sC]
  refine tY 2 (v := ?_) rfl (by kernel_rfl) (.inl ⟨by rfl, ?_⟩) ‹_› ?_
  rotate_left 1
  ·intro w hSw
   (try dsimp only at hSw)
   first | (go_simp; done) | (go_simp; with_reducible rfl)
  try simp only [Act.put, sA, sB, sC]
  refine tY 3 rfl (by kernel_rfl) (.inr ⟨by rfl, rfl⟩) ‹_› ?_
  try simp only [Act.put, sA, sB, sC]
  refine tY 4 rfl (by kernel_rfl) (.inr ⟨by rfl, rfl⟩) ‹_› ?_
  try simp only [Act.put, sA, sB, sC]
  refine tY 5 rfl (by kernel_rfl) (.inr ⟨by rfl, rfl⟩) ‹_› ?_
  try simp only [Act.put, sA, sB, sC]
  refine tY 6 rfl (by kernel_rfl) (.inr ⟨by rfl, rfl⟩) ‹_› ?_
  try simp only [Act.put, sA, sB, sC]
  refine tY 7 rfl (by kernel_rfl) (.inr ⟨by rfl, rfl⟩) ‹_› ?_
  try simp only [Act.put, sA, sB, sC]
  refine tY 8 rfl (by kernel_rfl) (.inr ⟨by rfl, rfl⟩) ‹_› ?_
  try simp only [Act.put, sA, sB, sC]
  refine tY 9 rfl (by kernel_rfl) (.inr ⟨by rfl, rfl⟩) ‹_› ?_
  try simp only [Act.put, sA, sB, sC]
  refine tY 10 rfl (by kernel_rfl) (.inr ⟨by rfl, rfl⟩) ‹_› ?_
  try simp only [Act.put, sA, sB, sC]
  refine tY 11 (v := ?_) rfl (by kernel_rfl) (.inl ⟨by rfl, ?_⟩) ‹_› ?_
  rotate_left 1
  ·intro w hSw
   (try dsimp only at hSw)
   first | (go_simp; done) | (go_simp; with_reducible rfl)
  try simp only [Act.put, sA, sB, sC]
  refine wpAnyH_done (by kernel_rfl) ?_ _
  refine NoPanic.normal ?_
  have e0 := dU T2 (dU hPM) (fun h => by have := ((dU PA).1 h).1; cases this)
  subst e0
  have RB := dU HR _ hb3d
  have BB := bT B0 hb3d
  have o0 := (Od.2 0 _ rfl).1
  have o1 := (Od.2 1 _ rfl).1
  have o2 := (Od.2 2 _ rfl).1
  have o3 := (Od.2 3 _ rfl).1
  have o4 := (Od.2 4 _ rfl).1
  have o5 := (Od.2 5 _ rfl).1
  clear HX HM HR T1 T2 T3 PA HPt HMt LO W0 CLa PP CB CE hPM
  have hVz : wd.heap.size = ((((((wd.setCell ⟨w.heap.size + 1 + 1, 0, none⟩ (.int .i64 f0)).setCell ⟨w.heap.size + 1 + 1, 1, none⟩ (.int .i64 f1)).setCell ⟨w.heap.size + 1 + 1, 2, none⟩ (.slice ua ss.length uc)).setCell ⟨w.heap.size + 1 + 1, 3, none⟩ (.slice va es.length vc)).setCell ⟨w.heap.size + 1 + 1, 4, none⟩ (.bool true)).setCell ⟨w.heap.size + 1 + 1, 5, none⟩ (.slice oa ws.length oc)).heap.size := by simp
  obtain ⟨z0, g0⟩ := RB.2 0 _ rfl
  obtain ⟨z1, g1⟩ := RB.2 1 _ rfl
  obtain ⟨z2, g2⟩ := RB.2 2 _ rfl
  obtain ⟨z3, g3⟩ := RB.2 3 _ rfl
  obtain ⟨z4, g4⟩ := RB.2 4 _ rfl
  obtain ⟨z5, g5⟩ := RB.2 5 _ rfl
  have YY := dH ((((((RB.put 0 (.int .i64 f0)).put 1 (.int .i64 f1)).put 2 (.slice ua ss.length uc)).put 3 (.slice va es.length vc)).put 4 (.bool true)).put 5 (.slice oa ws.length oc))
  have BF := dH ((((((BB.setCell (p := ⟨w.heap.size + 1 + 1, 0, none⟩) (by simp only; omega) (.int .i64 f0)).setCell (p := ⟨w.heap.size + 1 + 1, 1, none⟩) (by simp only; omega) (.int .i64 f1)).setCell (p := ⟨w.heap.size + 1 + 1, 2, none⟩) (by simp only; omega) (.slice ua ss.length uc)).setCell (p := ⟨w.heap.size + 1 + 1, 3, none⟩) (by simp only; omega) (.slice va es.length vc)).setCell (p := ⟨w.heap.size + 1 + 1, 4, none⟩) (by simp only; omega) (.bool true)).setCell (p := ⟨w.heap.size + 1 + 1, 5, none⟩) (by simp only; omega) (.slice oa ws.length oc))
  have MF := dH ((((((Md.far (b := w.heap.size + 1 + 1) (o := 0) (.inl (by omega)) (.int .i64 f0)).far (b := w.heap.size + 1 + 1) (o := 1) (.inl (by omega)) (.int .i64 f1)).far (b := w.heap.size + 1 + 1) (o := 2) (.inl (by omega)) (.slice ua ss.length uc)).far (b := w.heap.size + 1 + 1) (o := 3) (.inl (by omega)) (.slice va es.length vc)).far (b := w.heap.size + 1 + 1) (o := 4) (.inl (by omega)) (.bool true)).far (b := w.heap.size + 1 + 1) (o := 5) (.inl (by omega)) (.slice oa ws.length oc))
  clear RB BB
  go_wp2_with fail
  generalize ((((((wd.setCell ⟨w.heap.size + 1 + 1, 0, none⟩ (.int .i64 f0)).setCell ⟨w.heap.size + 1 + 1, 1, none⟩ (.int .i64 f1)).setCell ⟨w.heap.size + 1 + 1, 2, none⟩ (.slice ua ss.length uc)).setCell ⟨w.heap.size + 1 + 1, 3, none⟩ (.slice va es.length vc)).setCell ⟨w.heap.size + 1 + 1, 4, none⟩ (.bool true)).setCell ⟨w.heap.size + 1 + 1, 5, none⟩ (.slice oa ws.length oc)) = V at *
  have q0 := ((dU YY).2 0 _ rfl).1
  have q1 := ((dU YY).2 1 _ rfl).1
  have q2 := ((dU YY).2 2 _ rfl).1
  have q3 := ((dU YY).2 3 _ rfl).1
  have q4 := ((dU YY).2 4 _ rfl).1
  have q5 := ((dU YY).2 5 _ rfl).1
  refine bodyPost_ret (v := .tuple #[.agg #[.int .i64 f0, .int .i64 f1, .slice ua ss.length uc, .slice va es.length vc, .bool true, .slice oa ws.length oc], .bool false]) (by simp [results, Tryz.results143, go_sem, q0, q1, q2, q3, q4, q5]) rfl (AnsM.no (dU HMe _ _ _ _ _ r0 V ((dU MF).wide (by omega) (by omega)) hrs) (dU BF))
end Go.Proofs.YtjkjmapibcfcdaaGreat
