/- spec's MendSeal (printed by tools/mkmnu.py). -/
import Derived.Test.YtjkjmapibcfcdaaGreatGz8
import Derived.Deep.RegionHeld3
import Derived.Deep.DeepCutAuto
namespace Go.Proofs.YtjkjmapibcfcdaaGreat
open Go.ChangeShapes Go.WideShapes Go.ChangeAt Go.RowKit
set_option linter.unusedVariables false
set_option linter.unusedSimpArgs false
set_option maxRecDepth 100000

theorem Rw.lt4 {w : World} {v : Value} {m : List Ent} (h : Rw 4 Ent.cl w v m) : m = [] ∨ bO v < w.heap.size := by
 obtain ⟨h0, a, cap, rfl, hcap, h⟩ := h
 rcases h with h | ⟨b, off, rfl, hc⟩
 ·exact .inl h
 ·by_cases e : m = []
  ·exact .inl e
  ·right
   have hp : 0 < m.length := List.length_pos_iff.2 e
   have q := hc 0 hp 0 _ rfl
   exact dCell_lt q
set_option maxHeartbeats 16000000 in
theorem specSeal9_ap (cv v lv : Value) (c : List Int × Int) (m : Mn) (node : Int) (list : List Ent) (w : World) (hc : RdConfig cv c w) (hv : RdMend v m w) (hlv : RdEntryS lv list w) (hf : fitE m.seen) (hfl : fitE list) (hs : sizMend m ≤ 1048576) (hsc : c.1.length ≤ 1048576) (hsl : list.length ≤ 1048576) :
  Calls Tryz.prog 9 #[cv, v, .int .i64 node, lv] w (AnsM w (seal9M c.1 c.2 m node list)) := by
 have ba : ∀ (w : World) o, Below w.heap.size w (w.alloc o) := fun w o => (Below.refl _ _).alloc (Nat.le_refl _) o
 have CM := dH fun W (hb : Below w.heap.size w W) => specMendOk_any cv v c m W (hc.below hb) (hv.below hb) hf
 have CP := dH fun W (hb : Below w.heap.size w W) => l9Copy_apM v m W (hv.below hb) (by omega)
 have HL := dH fun W (hb : Below w.heap.size w W) => Rw.below hlv hb
 have HLB0 : list = [] ∨ bO lv < w.heap.size := Rw.lt4 hlv
 obtain ⟨ds, cop⟩ := c
 have CO : Hid (∀ W, Below w.heap.size w W → ∀ v', RdMend v' (seal9W m node list) W → Calls Tryz.prog 32 #[cv, v'] W fun e w' => RetB (mnP ds cop (seal9W m node list)) e ∧ Below W.heap.size W w') := fun W hb v' hv' => specMendOk_any cv v' (ds, cop) (seal9W m node list) W (hc.below hb) hv' (fun e he => by
  rcases mem_see list m.seen he with q | q
  ·exact hf e q
  ·exact hfl e q)
 obtain ⟨ca, cc, rfl, -⟩ := formConfig hc
 obtain ⟨sa, sc, ea, ec, wa, wz, rfl, hl1, hl2, hl3⟩ := formMend hv
 obtain ⟨la, lc, rfl, hl4⟩ := formEntryS hlv
 simp only at *
 have hs1048 : m.sealed.length ≤ 1048576 := by unfold sizMend at hs; omega
 have HFL : Hid (∀ k (h : k < list.length), list[k].pl ≤ 9223372036854775807) := fun k h => (hfl _ (List.getElem_mem h)).2.1
 obtain ⟨sk, hsk⟩ : ∃ sk : Nat → List Ent, ∀ k, sk k = seeL m.epoch m.seen (list.take k) := ⟨_, fun _ => rfl⟩
 have SK0 : Hid (sk 0 = m.seen) := hsk 0
 have SKY : Hid (∀ k (h : k < list.length), epL list[k].pl = m.epoch → sk (k + 1) = keepL list[k] (sk k)) := fun k h hx => by rw [hsk, hsk]; exact seeL_yes h hx
 have SKN : Hid (∀ k (h : k < list.length), epL list[k].pl ≠ m.epoch → sk (k + 1) = sk k) := fun k h hx => by rw [hsk, hsk]; exact seeL_no h hx
 have SKL : Hid (mnP ds cop m → ∀ k, (sk k).length ≤ 60) := fun h k => by
  rw [hsk]
  exact (goodE.see h.1.2.1.1 _ _ h.good).len
 have SKE : Hid (sk list.length = (seal9W m node list).seen) := by
  show _ = seeL m.epoch m.seen list
  rw [hsk, List.take_length]
 have T1 : Hid (¬ mnP ds cop m → seal9M ds cop m node list = (zeroMn, false)) := seal9M_bad
 have T2 : Hid (mnP ds cop m → ¬ seal9P ds cop m node list → seal9M ds cop m node list = (m, false)) := seal9M_no
 have T3 : Hid (mnP ds cop m → seal9P ds cop m node list → seal9M ds cop m node list = (seal9W m node list, true)) := seal9M_yes
 have PA : Hid (seal9P ds cop m node list ↔ m.planned = false ∧ mnP ds cop (seal9W m node list)) := Iff.rfl
 have HPt := dH fun (lo hi : Nat) (u : Value) (W : World) (h : ApM lo hi u m W) => h.parts
 have HMe := dH fun (lo hi : Nat) (sv ev wv : Value) rs (W : World) (h : MIn lo hi sv ev wv rs m.sealed m.seen W) (e : rs.map Nst.m = m.wrote) => h.mend e
 have HMt : Hid (∀ (lo hi : Nat) (sv ev wv : Value) (rs : List (Nst (List Int))) (W : World), MIn lo hi sv ev wv rs (putL node m.sealed) (sk list.length) W → rs.map Nst.m = m.wrote → OwMend lo hi (.agg #[.int .i64 m.bye, .int .i64 m.epoch, sv, ev, .bool m.planned, wv]) (seal9W m node list) W ∧ ApM lo hi (.agg #[.int .i64 m.bye, .int .i64 m.epoch, sv, ev, .bool m.planned, wv]) (seal9W m node list) W) := fun lo hi sv ev wv rs W h e => by
  rw [dU SKE] at h
  exact ⟨MIn.mend (m := seal9W m node list) h e, ⟨sv, ev, wv, rs, rfl, e, h⟩⟩
 generalize seal9M ds cop m node list = TM at *
 generalize seal9P ds cop m node list = PQ at *
 generalize mnP ds cop (seal9W m node list) = PN at *
 generalize mnP ds cop m = PM at *
 clear hsk SKE
 generalize hNW : seal9W m node list = NW at *
 clear hNW
 generalize m.bye = f0 at *
 generalize m.epoch = f1 at *
 generalize m.planned = f4 at *
 generalize m.sealed = ss at *
 generalize m.seen = es at *
 generalize m.wrote = ws at *
 have HLB : Hid (list.length = 0 ∨ bO (.slice la list.length lc) < w.heap.size) := HLB0.imp (fun h => by rw [h]; rfl) id
 clear HLB0
 clear hc hv hlv hf hfl hs
 have X0 := ((Bx.new w [.slice ca ds.length cc, .int .i64 cop] 26).below (ba _ (.cells #[.int .i64 f0, .int .i64 f1, .slice sa ss.length sc, .slice ea es.length ec, .bool f4, .slice wa ws.length wz] 30))).below (ba _ (.cells #[.int .i64 0, .int .i64 0, .slice none 0 0, .slice none 0 0, .bool false, .slice none 0 0] 30))
 have M0 := (Bx.new (w.alloc (.cells #[.slice ca ds.length cc, .int .i64 cop] 26)) [.int .i64 f0, .int .i64 f1, .slice sa ss.length sc, .slice ea es.length ec, .bool f4, .slice wa ws.length wz] 30).below (ba _ (.cells #[.int .i64 0, .int .i64 0, .slice none 0 0, .slice none 0 0, .bool false, .slice none 0 0] 30))
 have R0 := BxZ.new (B := w.heap.size) ((w.alloc (.cells #[.slice ca ds.length cc, .int .i64 cop] 26)).alloc (.cells #[.int .i64 f0, .int .i64 f1, .slice sa ss.length sc, .slice ea es.length ec, .bool f4, .slice wa ws.length wz] 30)) [.int .i64 0, .int .i64 0, .slice none 0 0, .slice none 0 0, .bool false, .slice none 0 0] 30 (by simp; omega)
 rw [show (w.alloc (.cells #[.slice ca ds.length cc, .int .i64 cop] 26)).heap.size = w.heap.size + 1 from by simp] at M0
 rw [show ((w.alloc (.cells #[.slice ca ds.length cc, .int .i64 cop] 26)).alloc (.cells #[.int .i64 f0, .int .i64 f1, .slice sa ss.length sc, .slice ea es.length ec, .bool f4, .slice wa ws.length wz] 30)).heap.size = w.heap.size + 1 + 1 from by simp] at R0
 have B0 := bT (bT (ba w (.cells #[.slice ca ds.length cc, .int .i64 cop] 26)) (ba _ (.cells #[.int .i64 f0, .int .i64 f1, .slice sa ss.length sc, .slice ea es.length ec, .bool f4, .slice wa ws.length wz] 30))) (ba _ (.cells #[.int .i64 0, .int .i64 0, .slice none 0 0, .slice none 0 0, .bool false, .slice none 0 0] 30))
 go_enter Tryz.func9, Tryz.ntmps9
 go_wp2_with fail
 generalize (((w.alloc (.cells #[.slice ca ds.length cc, .int .i64 cop] 26)).alloc (.cells #[.int .i64 f0, .int .i64 f1, .slice sa ss.length sc, .slice ea es.length ec, .bool f4, .slice wa ws.length wz] 30)).alloc (.cells #[.int .i64 0, .int .i64 0, .slice none 0 0, .slice none 0 0, .bool false, .slice none 0 0] 30)) = w0 at *
 have HX := dH fun W (hb : Below w0.heap.size w0 W) => X0.below hb
 have HM := dH fun W (hb : Below w0.heap.size w0 W) => M0.below hb
 have HR := dH fun W (hb : Below w0.heap.size w0 W) => R0.below hb
 have hr0 : w.heap.size + 1 + 1 < w0.heap.size := R0.lt
 clear X0 M0 R0
 refine (dU CM _ B0).mono ?_
 rintro e w1 ⟨⟨b1, rfl, h1⟩, bl1⟩
 cases b1
 ·have e0 := dU T1 (fun h => by have := h1.2 h; cases this)
  subst e0
  have RB := dU HR _ bl1
  have BB := bT B0 bl1
  clear h1 CM CP CO HL HX HM HR T1 T2 T3 PA HPt HMe HMt SK0 SKY SKN SKL HFL
  have hVz : w1.heap.size = ((((((w1.setCell ⟨w.heap.size + 1 + 1, 0, none⟩ (.int .i64 0)).setCell ⟨w.heap.size + 1 + 1, 1, none⟩ (.int .i64 0)).setCell ⟨w.heap.size + 1 + 1, 2, none⟩ (.slice none 0 0)).setCell ⟨w.heap.size + 1 + 1, 3, none⟩ (.slice none 0 0)).setCell ⟨w.heap.size + 1 + 1, 4, none⟩ (.bool false)).setCell ⟨w.heap.size + 1 + 1, 5, none⟩ (.slice none 0 0)).heap.size := by simp
  obtain ⟨z0, g0⟩ := RB.2 0 _ rfl
  obtain ⟨z1, g1⟩ := RB.2 1 _ rfl
  obtain ⟨z2, g2⟩ := RB.2 2 _ rfl
  obtain ⟨z3, g3⟩ := RB.2 3 _ rfl
  obtain ⟨z4, g4⟩ := RB.2 4 _ rfl
  obtain ⟨z5, g5⟩ := RB.2 5 _ rfl
  have YY := dH ((((((RB.put 0 (.int .i64 0)).put 1 (.int .i64 0)).put 2 (.slice none 0 0)).put 3 (.slice none 0 0)).put 4 (.bool false)).put 5 (.slice none 0 0))
  have BF := dH ((((((BB.setCell (p := ⟨w.heap.size + 1 + 1, 0, none⟩) (by simp only; omega) (.int .i64 0)).setCell (p := ⟨w.heap.size + 1 + 1, 1, none⟩) (by simp only; omega) (.int .i64 0)).setCell (p := ⟨w.heap.size + 1 + 1, 2, none⟩) (by simp only; omega) (.slice none 0 0)).setCell (p := ⟨w.heap.size + 1 + 1, 3, none⟩) (by simp only; omega) (.slice none 0 0)).setCell (p := ⟨w.heap.size + 1 + 1, 4, none⟩) (by simp only; omega) (.bool false)).setCell (p := ⟨w.heap.size + 1 + 1, 5, none⟩) (by simp only; omega) (.slice none 0 0))
  clear RB BB
  go_wp2_with fail
  generalize ((((((w1.setCell ⟨w.heap.size + 1 + 1, 0, none⟩ (.int .i64 0)).setCell ⟨w.heap.size + 1 + 1, 1, none⟩ (.int .i64 0)).setCell ⟨w.heap.size + 1 + 1, 2, none⟩ (.slice none 0 0)).setCell ⟨w.heap.size + 1 + 1, 3, none⟩ (.slice none 0 0)).setCell ⟨w.heap.size + 1 + 1, 4, none⟩ (.bool false)).setCell ⟨w.heap.size + 1 + 1, 5, none⟩ (.slice none 0 0)) = V at *
  have q0 := ((dU YY).2 0 _ rfl).1
  have q1 := ((dU YY).2 1 _ rfl).1
  have q2 := ((dU YY).2 2 _ rfl).1
  have q3 := ((dU YY).2 3 _ rfl).1
  have q4 := ((dU YY).2 4 _ rfl).1
  have q5 := ((dU YY).2 5 _ rfl).1
  refine bodyPost_ret (v := .tuple #[.agg #[.int .i64 0, .int .i64 0, .slice none 0 0, .slice none 0 0, .bool false, .slice none 0 0], .bool false]) (by simp [results, Tryz.results9, go_sem, q0, q1, q2, q3, q4, q5]) rfl (AnsM.no (OwMend.zero _ _ _) (dU BF))
 have hPM := dH (h1.1 rfl)
 have SL := dH (dU SKL (h1.1 rfl))
 clear h1 CM T1 SKL
 have y0 := dU HM _ bl1 0 _ rfl
 have y1 := dU HM _ bl1 1 _ rfl
 have y2 := dU HM _ bl1 2 _ rfl
 have y3 := dU HM _ bl1 3 _ rfl
 have y4 := dU HM _ bl1 4 _ rfl
 have y5 := dU HM _ bl1 5 _ rfl
 go_wp2_with fail
 refine (dU CP _ (bT B0 bl1)).mono ?_
 rintro e w2 ⟨⟨u, rfl, OU⟩, b2⟩
 obtain ⟨ua, uc, va, vc, oa, oc, r0, rfl, hrs, MO⟩ := dU HPt _ _ _ _ OU
 have hs1 := bl1.size
 have hs2 := b2.size
 have hsB := B0.size
 have bO := ba w2 (.cells #[.int .i64 f0, .int .i64 f1, .slice ua ss.length uc, .slice va es.length vc, .bool f4, .slice oa ws.length oc] 30)
 have OB := BxZ.new (B := w.heap.size) w2 [.int .i64 f0, .int .i64 f1, .slice ua ss.length uc, .slice va es.length vc, .bool f4, .slice oa ws.length oc] 30 (by omega)
 have hs3 : w2.heap.size < (w2.alloc (.cells #[.int .i64 f0, .int .i64 f1, .slice ua ss.length uc, .slice va es.length vc, .bool f4, .slice oa ws.length oc] 30)).heap.size := by simp
 have M3 := MO.below (Nat.le_refl _) bO
 have hb3 := bT bl1 (bT b2 bO)
 clear y0 y1 y2 y3 y4 y5 OU MO b2 bl1 bO
 have p2 := (OB.2 2 _ rfl).1
 have CT := dH (l4Put_all (.slice ua ss.length uc) ss node _ M3.s.rd (by omega))
 have HRS := dH hrs
 replace M3 := dH M3
 clear hrs
 generalize hpl : putL node ss = pl at *
 clear hpl
 go_wp2_with fail
 generalize hob : w2.heap.size = ob at *
 generalize w2.alloc (.cells #[.int .i64 f0, .int .i64 f1, .slice ua ss.length uc, .slice va es.length vc, .bool f4, .slice oa ws.length oc] 30) = w3 at *
 refine (dU CT).mono ?_
 rintro e w4 ⟨⟨u4, rfl, O4⟩, b4⟩
 obtain ⟨-, pa, pc, rfl, -, -⟩ := O4.bs
 have s4 := b4.size
 have OB4 := OB.below b4
 have NB3 := (dU M3).noM (b := ob) (.inl (Nat.le_refl _))
 have M4 := ((dU M3).below (by omega) b4).sealedNew (B := w3.heap.size) (by omega) (by omega) s4 O4
 have NB4 : NoM ob (.slice pa pl.length pc) (.slice va es.length vc) (.slice oa ws.length oc) r0 pl es := ⟨by
  rcases O4.ge with q | q
  ·exact .inl q
  ·exact .inr (by omega), NB3.2⟩
 obtain ⟨z2, g2⟩ := OB4.2 2 _ rfl
 have O5 := OB4.put 2 (.slice pa pl.length pc)
 have M5 := M4.setB (o := 2) NB4 (.slice pa pl.length pc)
 have hb5 := (bT hb3 b4).setCell (p := ⟨ob, 2, none⟩) (by simp only; omega) (.slice pa pl.length pc)
 have sz5 : w4.heap.size = (w4.setCell ⟨ob, 2, none⟩ (.slice pa pl.length pc)).heap.size := by simp
 have I5 : Hid (MIn w1.heap.size (w4.setCell ⟨ob, 2, none⟩ (.slice pa pl.length pc)).heap.size (.slice pa pl.length pc) (.slice va (sk 0).length vc) (.slice oa ws.length oc) r0 pl (sk 0) (w4.setCell ⟨ob, 2, none⟩ (.slice pa pl.length pc))) := by
  rw [dU SK0, ← sz5]
  exact M5
 have N5 : Hid (NoM ob (.slice pa pl.length pc) (.slice va (sk 0).length vc) (.slice oa ws.length oc) r0 pl (sk 0)) := by
  rw [dU SK0]
  exact NB4
 have X5 : Hid (BxZ (w4.setCell ⟨ob, 2, none⟩ (.slice pa pl.length pc)) w.heap.size ob [.int .i64 f0, .int .i64 f1, .slice pa pl.length pc, .slice va (sk 0).length vc, .bool f4, .slice oa ws.length oc]) := by
  rw [dU SK0]
  exact O5
 have hob5 : ob < (w4.setCell ⟨ob, 2, none⟩ (.slice pa pl.length pc)).heap.size := by rw [← sz5]; omega
 clear CT OB OB4 M3 M4 M5 O5 NB3 NB4 O4 b4 p2 hb3 SK0
 go_wp2_with fail
 generalize w4.setCell ⟨ob, 2, none⟩ (.slice pa pl.length pc) = w5 at *
 clear z2 g2 sz5
 go_loopw [11] (fun y wr => ∃ (k : Nat) (va : Option Addr) (vc : Nat), y = .int .i64 (k : Int) ∧ k ≤ list.length ∧ Hid (MIn w1.heap.size wr.heap.size (.slice pa pl.length pc) (.slice va (sk k).length vc) (.slice oa ws.length oc) r0 pl (sk k) wr) ∧ Hid (NoM ob (.slice pa pl.length pc) (.slice va (sk k).length vc) (.slice oa ws.length oc) r0 pl (sk k)) ∧ Hid (BxZ wr w.heap.size ob [.int .i64 f0, .int .i64 f1, .slice pa pl.length pc, .slice va (sk k).length vc, .bool f4, .slice oa ws.length oc]) ∧ ob < wr.heap.size ∧ Below w0.heap.size w0 wr) (fun y _ => list.length - (intOf y).toNat)
 case atStart => exact ⟨0, va, vc, rfl, Nat.zero_le _, I5, N5, X5, hob5, hb5⟩
 case round =>
  obtain ⟨k, va, vc, rfl, hk, hM, hN, hO, hbv, hb⟩ := hrel
  clear I5 N5 X5 hob5 hb5
  by_cases hlt : (k : Int) < (list.length : Int)
  ·have hkl : k < list.length := by omega
   obtain ⟨lb, lo', rfl, hce⟩ := Rw.ent (dU HL _ (bT B0 hb)) hkl
   have SY := dH (dU SKY k hkl)
   have SN := dH (dU SKN k hkl)
   have hpu := dU HFL k hkl
   have hsk := dU SL k
   have CKp := dH fun W (hb' : Below wr.heap.size wr W) => l6Keep_any (.slice va (sk k).length vc) (sk k) list[k] W (Rw.below (dU hM).e.own.rw hb') (by omega)
   have hEa := hce k hkl
   generalize list[k] = yy at *
   obtain ⟨yp, yw, yh, yd⟩ := yy
   simp only [Ent.val] at *
   obtain ⟨e0, e1, e2, e3⟩ := hEa
   have hlb : lb ≠ ob := by
    rcases dU HLB with q | q
    ·omega
    ·have q2 : bO (.slice (some ⟨lb, lo', none⟩) list.length lc) = lb := rfl
     omega
   have PP : Hid (∀ W, Below wr.heap.size wr W → ((W.cell? ⟨lb, lo' + k * 4, none⟩ = some (.int .i64 yp) ∧ W.cell? ⟨lb, lo' + k * 4 + 1, none⟩ = some (.int .i64 yw) ∧ W.cell? ⟨lb, lo' + k * 4 + 2, none⟩ = some (.bool yh) ∧ W.cell? ⟨lb, lo' + k * 4 + 3, none⟩ = some (.string yd)) ∧ W.cell? ⟨w.heap.size + 1, 1, none⟩ = some (.int .i64 f1))) := fun W hW => ⟨⟨(hW.cell (p := ⟨lb, lo' + k * 4, none⟩) (dCell_lt e0)).trans e0, (hW.cell (p := ⟨lb, lo' + k * 4 + 1, none⟩) (dCell_lt e1)).trans e1, (hW.cell (p := ⟨lb, lo' + k * 4 + 2, none⟩) (dCell_lt e2)).trans e2, (hW.cell (p := ⟨lb, lo' + k * 4 + 3, none⟩) (dCell_lt e3)).trans e3⟩, dU HM _ (bT hb hW) 1 _ rfl⟩
   have CEp := dH fun W => specEp_any yp hpu W
   have py := dU PP wr (Below.refl _ _)
   have bd : Below wr.heap.size wr wr.drew := (Below.refl _ _).drew
   have pz := dU PP _ bd
   clear hce e0 e1 e2 e3 SKY SKN HFL
   generalize epL yp = ep at *
   by_cases hx : ep = f1
   ·have hq : (ep == f1) = true := by simp [hx]
    have HX2 := dH hx
    clear hx
    go_wp2_with fail
    refine wp_region_noPanic ?_
    refine wp_region_held_drew (S := fun W => W.cell? ⟨lb, lo' + k * 4, none⟩ = some (.int .i64 yp) ∧ W.cell? ⟨w.heap.size + 1, 1, none⟩ = some (.int .i64 f1)) (by kernel_rfl) (by first | exact ⟨pd.1.1, pd.2⟩ | exact ⟨pz.1.1, pz.2⟩ | exact ⟨py.1.1, py.2⟩ | go_keep) (fun hHeld => ?_)
    refine tY 0 (v := ?_) rfl (by kernel_rfl) (.inl ⟨by rfl, ?_⟩) ‹_› ?_
    rotate_left 1
    ·intro w hSw
     (try dsimp only at hSw)
     first | (go_simp; done) | (go_simp; with_reducible rfl)
    try simp only [Act.put, sA, sB, sC]
    refine tY 1 (v := ?_) rfl (by kernel_rfl) (.inl ⟨by rfl, ?_⟩) ‹_› ?_
    rotate_left 1
    ·intro w hSw
     (try dsimp only at hSw)
     first | (go_simp; done) | (go_simp; with_reducible rfl)
    try simp only [Act.put, sA, sB, sC]
    refine tY 2 (v := ?_) rfl (by kernel_rfl) (.inl ⟨by rfl, ?_⟩) ‹_› ?_
    rotate_left 1
    ·intro w hSw
     (try dsimp only at hSw)
     first | (go_simp; done) | (go_simp; with_reducible rfl)
    try simp only [Act.put, sA, sB, sC]
    refine tY 3 (v := ?_) rfl (by kernel_rfl) (.inl ⟨by rfl, ?_⟩) ‹_› ?_
    rotate_left 1
    ·intro w hSw
     (try dsimp only at hSw)
     first | (go_simp; done) | (go_simp; with_reducible rfl)
    try simp only [Act.put, sA, sB, sC]
    refine tY 4 (v := ?_) rfl (by kernel_rfl) (.inl ⟨by rfl, ?_⟩) ‹_› ?_
    rotate_left 1
    ·intro w hSw
     (try dsimp only at hSw)
     first | (go_simp; done) | (go_simp; with_reducible rfl)
    try simp only [Act.put, sA, sB, sC]
    refine tY 6 (v := ?_) rfl (by kernel_rfl) (.inl ⟨by rfl, ?_⟩) ‹_› ?_
    rotate_left 1
    ·intro w hSw
     (try dsimp only at hSw)
     first | (go_simp; done) | (go_simp; with_reducible rfl)
    try simp only [Act.put, sA, sB, sC]
    refine tY 7 (v := ?_) rfl (by kernel_rfl) (.inl ⟨by rfl, ?_⟩) ‹_› ?_
    rotate_left 1
    ·intro w hSw
     (try dsimp only at hSw)
     first | (go_simp; done) | (go_simp; with_reducible rfl)
    try simp only [Act.put, sA, sB, sC]
    refine wpAnyH_ready (rs := [5]) (by kernel_rfl) (by simp) ?_
    refine rC rfl (fun K hK => ?_) AllReadyH.nil
    go_simp
    refine (dU CEp _).mono ?_
    rintro e w6 ⟨rfl, rfl⟩
    have pd := pz
    (try go_wp2_with fail)
    refine hK.out _ _ (by first | exact ⟨pd.1.1, pd.2⟩ | exact ⟨pz.1.1, pz.2⟩ | exact ⟨py.1.1, py.2⟩ | go_keep) (fun hHeld => ?_)
    clear hK K
    try simp only [Act.put, sA, sB, sC]
    refine tY 8 (v := ?_) rfl (by kernel_rfl) (.inl ⟨by rfl, ?_⟩) ‹_› ?_
    rotate_left 1
    ·intro w hSw
     (try dsimp only at hSw)
     first | (go_simp; done) | (go_simp; with_reducible rfl)
    try simp only [Act.put, sA, sB, sC]
    refine wpAnyH_done (by kernel_rfl) ?_ _
    refine NoPanic.normal ?_
    have e9 := dU SY (dU HX2)
    have SKV : Hid (sk (k + 1) ≠ []) := by
     show _ ≠ _
     rw [e9]
     exact keepL_ne _ _
    rw [← e9] at CKp
    clear e9
    have bdw := bd
    have cd3 := (((dU hO).below bd).2 3 _ rfl)
    have hMd := dH ((dU hM).belowW (Nat.le_refl _) bd)
    have hOd := dH ((dU hO).below bd)
    have hbd := bT hb bd
    have szd := bd.size
    clear SY SN CEp pd
    generalize wr.drew = wd at *
    clear hM hO
    have bd2 : Below wd.heap.size wd wd.drew := (Below.refl _ _).drew
    have pq := dU PP _ (bT bdw bd2)
    have hwd := bT bdw bd2
    have cd4 := ((((dU hOd).below bd2).2 3 _ rfl))
    go_wp2_with fail
    refine wp_region_noPanic ?_
    refine wp_region_held_drew (S := fun W => W.cell? ⟨lb, lo' + k * 4, none⟩ = some (.int .i64 yp) ∧ W.cell? ⟨lb, lo' + k * 4 + 1, none⟩ = some (.int .i64 yw) ∧ W.cell? ⟨lb, lo' + k * 4 + 2, none⟩ = some (.bool yh) ∧ W.cell? ⟨lb, lo' + k * 4 + 3, none⟩ = some (.string yd)) (by kernel_rfl) (by first | exact ps | exact pq.1 | exact pz.1 | go_keep) (fun hHeld => ?_)
    refine tY 0 (v := ?_) rfl (by kernel_rfl) (.inl ⟨by rfl, ?_⟩) ‹_› ?_
    rotate_left 1
    ·intro w hSw
     (try dsimp only at hSw)
     first | (go_simp; done) | (go_simp; with_reducible rfl)
    try simp only [Act.put, sA, sB, sC]
    refine tY 2 (v := ?_) rfl (by kernel_rfl) (.inl ⟨by rfl, ?_⟩) ‹_› ?_
    rotate_left 1
    ·intro w hSw
     (try dsimp only at hSw)
     first | (go_simp; done) | (go_simp; with_reducible rfl)
    try simp only [Act.put, sA, sB, sC]
    refine tY 3 (v := ?_) rfl (by kernel_rfl) (.inl ⟨by rfl, ?_⟩) ‹_› ?_
    rotate_left 1
    ·intro w hSw
     (try dsimp only at hSw)
     first | (go_simp; done) | (go_simp; with_reducible rfl)
    try simp only [Act.put, sA, sB, sC]
    refine tY 4 (v := ?_) rfl (by kernel_rfl) (.inl ⟨by rfl, ?_⟩) ‹_› ?_
    rotate_left 1
    ·intro w hSw
     (try dsimp only at hSw)
     first | (go_simp; done) | (go_simp; with_reducible rfl)
    try simp only [Act.put, sA, sB, sC]
    refine tY 5 (v := ?_) rfl (by kernel_rfl) (.inl ⟨by rfl, ?_⟩) ‹_› ?_
    rotate_left 1
    ·intro w hSw
     (try dsimp only at hSw)
     first | (go_simp; done) | (go_simp; with_reducible rfl)
    try simp only [Act.put, sA, sB, sC]
    refine wpAnyH_ready (rs := [1]) (by kernel_rfl) (by simp) ?_
    refine rC rfl (fun K hK => ?_) AllReadyH.nil
    go_simp
    refine hK.out _ _ (by first | exact ps | exact pq.1 | exact pz.1 | go_keep) (fun hHeld => ?_)
    clear hK K
    try simp only [Act.put, sA, sB, sC]
    refine wpAnyH_ready (rs := [6]) (by kernel_rfl) (by simp) ?_
    refine rC rfl (fun K hK => ?_) AllReadyH.nil
    go_simp
    refine (dU CKp _ hwd).mono ?_
    rintro e w6 ⟨⟨u6, rfl, A6⟩, b6⟩
    have R6 : CpE w6 _ u6 (sk (k + 1)) := ⟨A6, fun e => absurd e (dU SKV)⟩
    obtain ⟨qa, qc, rfl⟩ := ApR.slice elemE A6
    have s6 := b6.size
    have sdd := bd2.size
    have M6 := (((dU hMd).below (Nat.le_refl _) bd2).below (by omega) b6).seenNew (B := wd.drew.heap.size) (by omega) (by omega) s6 R6
    have N6 : NoM ob (.slice pa pl.length pc) (.slice qa (sk (k + 1)).length qc) (.slice oa ws.length oc) r0 pl (sk (k + 1)) := ⟨(dU hN).1, by
     rcases R6.ge with q | q
     ·exact .inl q
     ·exact .inr (by omega), (dU hN).2.2⟩
    have O6 := ((dU hOd).below bd2).below b6
    have hb6 := bT (bT hbd bd2) b6
    obtain ⟨z3, g3⟩ := O6.2 3 _ rfl
    have ps := (dU PP _ (bT hwd b6)).1
    clear hMd hOd A6 R6 b6 CKp SKV
    (try go_wp2_with fail)
    refine hK.out _ _ (by first | exact ps | exact pq.1 | exact pz.1 | go_keep) (fun hHeld => ?_)
    clear hK K
    try simp only [Act.put, sA, sB, sC]
    refine tY 7 (v := ?_) rfl (by kernel_rfl) (.inl ⟨by rfl, ?_⟩) ‹_› ?_
    rotate_left 1
    ·intro w hSw
     (try dsimp only at hSw)
     first | (go_simp; done) | (go_simp; with_reducible rfl)
    try simp only [Act.put, sA, sB, sC]
    refine wpAnyH_ready (rs := [8]) (by kernel_rfl) (by simp) ?_
    refine rC rfl (fun K hK => ?_) AllReadyH.nil
    go_simp
    have O7 := dH (O6.put 3 (.slice qa (sk (k + 1)).length qc))
    have M7 := M6.setB (o := 3) N6 (.slice qa (sk (k + 1)).length qc)
    have hb7 := hb6.setCell (p := ⟨ob, 3, none⟩) (by simp only; omega) (.slice qa (sk (k + 1)).length qc)
    have sz7 : w6.heap.size = (w6.setCell ⟨ob, 3, none⟩ (.slice qa (sk (k + 1)).length qc)).heap.size := by simp
    rw [sz7] at M7
    replace M7 := dH M7
    replace N6 := dH N6
    have hw7 : ob < (w6.setCell ⟨ob, 3, none⟩ (.slice qa (sk (k + 1)).length qc)).heap.size := by omega
    have hlbo : lb ≠ ob := hlb
    have ps2 : (w6.setCell ⟨ob, 3, none⟩ (.slice qa (sk (k + 1)).length qc)).cell? ⟨lb, lo' + k * 4, none⟩ = some (.int .i64 yp) ∧ (w6.setCell ⟨ob, 3, none⟩ (.slice qa (sk (k + 1)).length qc)).cell? ⟨lb, lo' + k * 4 + 1, none⟩ = some (.int .i64 yw) ∧ (w6.setCell ⟨ob, 3, none⟩ (.slice qa (sk (k + 1)).length qc)).cell? ⟨lb, lo' + k * 4 + 2, none⟩ = some (.bool yh) ∧ (w6.setCell ⟨ob, 3, none⟩ (.slice qa (sk (k + 1)).length qc)).cell? ⟨lb, lo' + k * 4 + 3, none⟩ = some (.string yd) := ⟨sO ps.1 (.inl hlbo), sO ps.2.1 (.inl hlbo), sO ps.2.2.1 (.inl hlbo), sO ps.2.2.2 (.inl hlbo)⟩
    have ps := ps2
    clear M6 O6 z3 g3 hb6 ps2
    generalize w6.setCell ⟨ob, 3, none⟩ (.slice qa (sk (k + 1)).length qc) = w7 at *
    (try go_wp2_with fail)
    refine hK.out _ _ (by first | exact ps | exact pq.1 | exact pz.1 | go_keep) (fun hHeld => ?_)
    clear hK K
    try simp only [Act.put, sA, sB, sC]
    refine wpAnyH_done (by kernel_rfl) ?_ _
    refine NoPanic.normal ?_
    go_wp2_with fail
    clear ps pq pz py cd3 cd4 PP hN
    go_roundw
    case rel => exact ⟨k + 1, qa, qc, by go_num, by omega, M7, N6, O7, hw7, hb7⟩
    case measure => simp [intOf]; omega
   ·have hq : (ep == f1) = false := by simp [hx]
    have HX2 := dH hx
    clear hx
    go_wp2_with fail
    refine wp_region_noPanic ?_
    refine wp_region_held_drew (S := fun W => W.cell? ⟨lb, lo' + k * 4, none⟩ = some (.int .i64 yp) ∧ W.cell? ⟨w.heap.size + 1, 1, none⟩ = some (.int .i64 f1)) (by kernel_rfl) (by first | exact ⟨pd.1.1, pd.2⟩ | exact ⟨pz.1.1, pz.2⟩ | exact ⟨py.1.1, py.2⟩ | go_keep) (fun hHeld => ?_)
    refine tY 0 (v := ?_) rfl (by kernel_rfl) (.inl ⟨by rfl, ?_⟩) ‹_› ?_
    rotate_left 1
    ·intro w hSw
     (try dsimp only at hSw)
     first | (go_simp; done) | (go_simp; with_reducible rfl)
    try simp only [Act.put, sA, sB, sC]
    refine tY 1 (v := ?_) rfl (by kernel_rfl) (.inl ⟨by rfl, ?_⟩) ‹_› ?_
    rotate_left 1
    ·intro w hSw
     (try dsimp only at hSw)
     first | (go_simp; done) | (go_simp; with_reducible rfl)
    try simp only [Act.put, sA, sB, sC]
    refine tY 2 (v := ?_) rfl (by kernel_rfl) (.inl ⟨by rfl, ?_⟩) ‹_› ?_
    rotate_left 1
    ·intro w hSw
     (try dsimp only at hSw)
     first | (go_simp; done) | (go_simp; with_reducible rfl)
    try simp only [Act.put, sA, sB, sC]
    refine tY 3 (v := ?_) rfl (by kernel_rfl) (.inl ⟨by rfl, ?_⟩) ‹_› ?_
    rotate_left 1
    ·intro w hSw
     (try dsimp only at hSw)
     first | (go_simp; done) | (go_simp; with_reducible rfl)
    try simp only [Act.put, sA, sB, sC]
    refine tY 4 (v := ?_) rfl (by kernel_rfl) (.inl ⟨by rfl, ?_⟩) ‹_› ?_
    rotate_left 1
    ·intro w hSw
     (try dsimp only at hSw)
     first | (go_simp; done) | (go_simp; with_reducible rfl)
    try simp only [Act.put, sA, sB, sC]
    refine tY 6 (v := ?_) rfl (by kernel_rfl) (.inl ⟨by rfl, ?_⟩) ‹_› ?_
    rotate_left 1
    ·intro w hSw
     (try dsimp only at hSw)
     first | (go_simp; done) | (go_simp; with_reducible rfl)
    try simp only [Act.put, sA, sB, sC]
    refine tY 7 (v := ?_) rfl (by kernel_rfl) (.inl ⟨by rfl, ?_⟩) ‹_› ?_
    rotate_left 1
    ·intro w hSw
     (try dsimp only at hSw)
     first | (go_simp; done) | (go_simp; with_reducible rfl)
    try simp only [Act.put, sA, sB, sC]
    refine wpAnyH_ready (rs := [5]) (by kernel_rfl) (by simp) ?_
    refine rC rfl (fun K hK => ?_) AllReadyH.nil
    go_simp
    refine (dU CEp _).mono ?_
    rintro e w6 ⟨rfl, rfl⟩
    have pd := pz
    (try go_wp2_with fail)
    refine hK.out _ _ (by first | exact ⟨pd.1.1, pd.2⟩ | exact ⟨pz.1.1, pz.2⟩ | exact ⟨py.1.1, py.2⟩ | go_keep) (fun hHeld => ?_)
    clear hK K
    try simp only [Act.put, sA, sB, sC]
    refine tY 8 (v := ?_) rfl (by kernel_rfl) (.inl ⟨by rfl, ?_⟩) ‹_› ?_
    rotate_left 1
    ·intro w hSw
     (try dsimp only at hSw)
     first | (go_simp; done) | (go_simp; with_reducible rfl)
    try simp only [Act.put, sA, sB, sC]
    refine wpAnyH_done (by kernel_rfl) ?_ _
    refine NoPanic.normal ?_
    go_wp2_with fail
    have Md := dH ((dU hM).belowW (Nat.le_refl _) bd)
    have Od := dH ((dU hO).below bd)
    have hbd := bT hb bd
    have szd := bd.size
    have e9 := dU SN (dU HX2)
    clear hM hO SY SN CKp PP py pz pd CEp
    go_roundw
    case rel => exact ⟨k + 1, va, vc, by go_num, by omega, by rw [e9]; exact Md, by rw [e9]; exact hN, by rw [e9]; exact Od, by omega, hbd⟩
    case measure => simp [intOf]; omega
  ·have ek : k = list.length := by omega
   subst ek
   clear SKY SKN HFL HL SL hk
   have y4 := dU HM _ hb 4 _ rfl
   cases f4 with
   | true =>
    have e0 := dU T2 (dU hPM) (fun h => by have := ((dU PA).1 h).1; cases this)
    subst e0
    have CQ := dH (dU CP _ (bT B0 hb))
    have y0 := dU HM _ hb 0 _ rfl
    have y1 := dU HM _ hb 1 _ rfl
    have y2 := dU HM _ hb 2 _ rfl
    have y3 := dU HM _ hb 3 _ rfl
    have y4 := dU HM _ hb 4 _ rfl
    have y5 := dU HM _ hb 5 _ rfl
    clear CP hM hN hO y4 T2 T3 PA CO hPM
    go_wp2_with fail
    refine (dU CQ).mono ?_
    rintro e w8 ⟨⟨u8, rfl, OU8⟩, b8⟩
    obtain ⟨ua2, uc2, va2, vc2, oa2, oc2, r2, rfl, hrs2, M8⟩ := dU HPt _ _ _ _ OU8
    have hb8 := bT hb b8
    have s8 := b8.size
    have sb8 := (hb).size
    have RB := dU HR _ hb8
    have BB := bT B0 hb8
    clear y0 y1 y2 y3 y4 y5 CQ OU8 b8 HM HR HX HPt HMt
    have hVz : w8.heap.size = ((((((w8.setCell ⟨w.heap.size + 1 + 1, 0, none⟩ (.int .i64 f0)).setCell ⟨w.heap.size + 1 + 1, 1, none⟩ (.int .i64 f1)).setCell ⟨w.heap.size + 1 + 1, 2, none⟩ (.slice ua2 ss.length uc2)).setCell ⟨w.heap.size + 1 + 1, 3, none⟩ (.slice va2 es.length vc2)).setCell ⟨w.heap.size + 1 + 1, 4, none⟩ (.bool true)).setCell ⟨w.heap.size + 1 + 1, 5, none⟩ (.slice oa2 ws.length oc2)).heap.size := by simp
    obtain ⟨z0, g0⟩ := RB.2 0 _ rfl
    obtain ⟨z1, g1⟩ := RB.2 1 _ rfl
    obtain ⟨z2, g2⟩ := RB.2 2 _ rfl
    obtain ⟨z3, g3⟩ := RB.2 3 _ rfl
    obtain ⟨z4, g4⟩ := RB.2 4 _ rfl
    obtain ⟨z5, g5⟩ := RB.2 5 _ rfl
    have YY := dH ((((((RB.put 0 (.int .i64 f0)).put 1 (.int .i64 f1)).put 2 (.slice ua2 ss.length uc2)).put 3 (.slice va2 es.length vc2)).put 4 (.bool true)).put 5 (.slice oa2 ws.length oc2))
    have BF := dH ((((((BB.setCell (p := ⟨w.heap.size + 1 + 1, 0, none⟩) (by simp only; omega) (.int .i64 f0)).setCell (p := ⟨w.heap.size + 1 + 1, 1, none⟩) (by simp only; omega) (.int .i64 f1)).setCell (p := ⟨w.heap.size + 1 + 1, 2, none⟩) (by simp only; omega) (.slice ua2 ss.length uc2)).setCell (p := ⟨w.heap.size + 1 + 1, 3, none⟩) (by simp only; omega) (.slice va2 es.length vc2)).setCell (p := ⟨w.heap.size + 1 + 1, 4, none⟩) (by simp only; omega) (.bool true)).setCell (p := ⟨w.heap.size + 1 + 1, 5, none⟩) (by simp only; omega) (.slice oa2 ws.length oc2))
    have MF := dH ((((((M8.far (b := w.heap.size + 1 + 1) (o := 0) (.inl (by omega)) (.int .i64 f0)).far (b := w.heap.size + 1 + 1) (o := 1) (.inl (by omega)) (.int .i64 f1)).far (b := w.heap.size + 1 + 1) (o := 2) (.inl (by omega)) (.slice ua2 ss.length uc2)).far (b := w.heap.size + 1 + 1) (o := 3) (.inl (by omega)) (.slice va2 es.length vc2)).far (b := w.heap.size + 1 + 1) (o := 4) (.inl (by omega)) (.bool true)).far (b := w.heap.size + 1 + 1) (o := 5) (.inl (by omega)) (.slice oa2 ws.length oc2))
    clear RB BB
    go_wp2_with fail
    generalize ((((((w8.setCell ⟨w.heap.size + 1 + 1, 0, none⟩ (.int .i64 f0)).setCell ⟨w.heap.size + 1 + 1, 1, none⟩ (.int .i64 f1)).setCell ⟨w.heap.size + 1 + 1, 2, none⟩ (.slice ua2 ss.length uc2)).setCell ⟨w.heap.size + 1 + 1, 3, none⟩ (.slice va2 es.length vc2)).setCell ⟨w.heap.size + 1 + 1, 4, none⟩ (.bool true)).setCell ⟨w.heap.size + 1 + 1, 5, none⟩ (.slice oa2 ws.length oc2)) = V at *
    have q0 := ((dU YY).2 0 _ rfl).1
    have q1 := ((dU YY).2 1 _ rfl).1
    have q2 := ((dU YY).2 2 _ rfl).1
    have q3 := ((dU YY).2 3 _ rfl).1
    have q4 := ((dU YY).2 4 _ rfl).1
    have q5 := ((dU YY).2 5 _ rfl).1
    refine bodyPost_ret (v := .tuple #[.agg #[.int .i64 f0, .int .i64 f1, .slice ua2 ss.length uc2, .slice va2 es.length vc2, .bool true, .slice oa2 ws.length oc2], .bool false]) (by simp [results, Tryz.results9, go_sem, q0, q1, q2, q3, q4, q5]) rfl (AnsM.no (dU HMe _ _ _ _ _ r2 V ((dU MF).wide (by omega) (by omega)) hrs2) (dU BF))
   | false =>
    have x0 := dU HX _ hb 0 _ rfl
    have x1 := dU HX _ hb 1 _ rfl
    have o0 := ((dU hO).2 0 _ rfl).1
    have o1 := ((dU hO).2 1 _ rfl).1
    have o2 := ((dU hO).2 2 _ rfl).1
    have o3 := ((dU hO).2 3 _ rfl).1
    have o4 := ((dU hO).2 4 _ rfl).1
    have o5 := ((dU hO).2 5 _ rfl).1
    have OW := (dU HMt _ _ _ _ _ _ _ (dU hM) (dU HRS)).1
    have CQ := dH (dU CO _ (bT B0 hb) _ OW.rd)
    clear CO OW
    go_wp2_with fail
    refine (dU CQ).mono ?_
    rintro e w7 ⟨⟨b7, rfl, h7⟩, bl7⟩
    have hb7 := bT hb bl7
    clear CQ x0 x1 o0 o1 o2 o3 o4 o5 y4
    cases b7 with
    | false =>
     have e0 := dU T2 (dU hPM) (fun h => by have := h7.2 ((dU PA).1 h).2; cases this)
     subst e0
     have bl7' := bl7
     have CQ := dH (dU CP _ (bT B0 hb7))
     have y0 := dU HM _ hb7 0 _ rfl
     have y1 := dU HM _ hb7 1 _ rfl
     have y2 := dU HM _ hb7 2 _ rfl
     have y3 := dU HM _ hb7 3 _ rfl
     have y4 := dU HM _ hb7 4 _ rfl
     have y5 := dU HM _ hb7 5 _ rfl
     clear CP hM hN hO T2 T3 PA hPM h7
     go_wp2_with fail
     refine (dU CQ).mono ?_
     rintro e w8 ⟨⟨u8, rfl, OU8⟩, b8⟩
     obtain ⟨ua2, uc2, va2, vc2, oa2, oc2, r2, rfl, hrs2, M8⟩ := dU HPt _ _ _ _ OU8
     have hb8 := bT hb7 b8
     have s8 := b8.size
     have sb8 := (hb7).size
     have RB := dU HR _ hb8
     have BB := bT B0 hb8
     clear y0 y1 y2 y3 y4 y5 CQ OU8 b8 HM HR HX HPt HMt
     have hVz : w8.heap.size = ((((((w8.setCell ⟨w.heap.size + 1 + 1, 0, none⟩ (.int .i64 f0)).setCell ⟨w.heap.size + 1 + 1, 1, none⟩ (.int .i64 f1)).setCell ⟨w.heap.size + 1 + 1, 2, none⟩ (.slice ua2 ss.length uc2)).setCell ⟨w.heap.size + 1 + 1, 3, none⟩ (.slice va2 es.length vc2)).setCell ⟨w.heap.size + 1 + 1, 4, none⟩ (.bool false)).setCell ⟨w.heap.size + 1 + 1, 5, none⟩ (.slice oa2 ws.length oc2)).heap.size := by simp
     obtain ⟨z0, g0⟩ := RB.2 0 _ rfl
     obtain ⟨z1, g1⟩ := RB.2 1 _ rfl
     obtain ⟨z2, g2⟩ := RB.2 2 _ rfl
     obtain ⟨z3, g3⟩ := RB.2 3 _ rfl
     obtain ⟨z4, g4⟩ := RB.2 4 _ rfl
     obtain ⟨z5, g5⟩ := RB.2 5 _ rfl
     have YY := dH ((((((RB.put 0 (.int .i64 f0)).put 1 (.int .i64 f1)).put 2 (.slice ua2 ss.length uc2)).put 3 (.slice va2 es.length vc2)).put 4 (.bool false)).put 5 (.slice oa2 ws.length oc2))
     have BF := dH ((((((BB.setCell (p := ⟨w.heap.size + 1 + 1, 0, none⟩) (by simp only; omega) (.int .i64 f0)).setCell (p := ⟨w.heap.size + 1 + 1, 1, none⟩) (by simp only; omega) (.int .i64 f1)).setCell (p := ⟨w.heap.size + 1 + 1, 2, none⟩) (by simp only; omega) (.slice ua2 ss.length uc2)).setCell (p := ⟨w.heap.size + 1 + 1, 3, none⟩) (by simp only; omega) (.slice va2 es.length vc2)).setCell (p := ⟨w.heap.size + 1 + 1, 4, none⟩) (by simp only; omega) (.bool false)).setCell (p := ⟨w.heap.size + 1 + 1, 5, none⟩) (by simp only; omega) (.slice oa2 ws.length oc2))
     have MF := dH ((((((M8.far (b := w.heap.size + 1 + 1) (o := 0) (.inl (by omega)) (.int .i64 f0)).far (b := w.heap.size + 1 + 1) (o := 1) (.inl (by omega)) (.int .i64 f1)).far (b := w.heap.size + 1 + 1) (o := 2) (.inl (by omega)) (.slice ua2 ss.length uc2)).far (b := w.heap.size + 1 + 1) (o := 3) (.inl (by omega)) (.slice va2 es.length vc2)).far (b := w.heap.size + 1 + 1) (o := 4) (.inl (by omega)) (.bool false)).far (b := w.heap.size + 1 + 1) (o := 5) (.inl (by omega)) (.slice oa2 ws.length oc2))
     clear RB BB
     go_wp2_with fail
     generalize ((((((w8.setCell ⟨w.heap.size + 1 + 1, 0, none⟩ (.int .i64 f0)).setCell ⟨w.heap.size + 1 + 1, 1, none⟩ (.int .i64 f1)).setCell ⟨w.heap.size + 1 + 1, 2, none⟩ (.slice ua2 ss.length uc2)).setCell ⟨w.heap.size + 1 + 1, 3, none⟩ (.slice va2 es.length vc2)).setCell ⟨w.heap.size + 1 + 1, 4, none⟩ (.bool false)).setCell ⟨w.heap.size + 1 + 1, 5, none⟩ (.slice oa2 ws.length oc2)) = V at *
     have q0 := ((dU YY).2 0 _ rfl).1
     have q1 := ((dU YY).2 1 _ rfl).1
     have q2 := ((dU YY).2 2 _ rfl).1
     have q3 := ((dU YY).2 3 _ rfl).1
     have q4 := ((dU YY).2 4 _ rfl).1
     have q5 := ((dU YY).2 5 _ rfl).1
     refine bodyPost_ret (v := .tuple #[.agg #[.int .i64 f0, .int .i64 f1, .slice ua2 ss.length uc2, .slice va2 es.length vc2, .bool false, .slice oa2 ws.length oc2], .bool false]) (by simp [results, Tryz.results9, go_sem, q0, q1, q2, q3, q4, q5]) rfl (AnsM.no (dU HMe _ _ _ _ _ r2 V ((dU MF).wide (by omega) (by omega)) hrs2) (dU BF))
    | true =>
     have e0 := dU T3 (dU hPM) ((dU PA).2 ⟨by first | rfl | trivial, h7.1 rfl⟩)
     subst e0
     have O7 := (dU hO).below bl7
     have M7 := (dU hM).belowW (Nat.le_refl _) bl7
     have o0 := (O7.2 0 _ rfl).1
     have o1 := (O7.2 1 _ rfl).1
     have o2 := (O7.2 2 _ rfl).1
     have o3 := (O7.2 3 _ rfl).1
     have o4 := (O7.2 4 _ rfl).1
     have o5 := (O7.2 5 _ rfl).1
     have RB := dU HR _ hb7
     have BB := bT B0 hb7
     have s7 := bl7.size
     clear hM hN hO O7 HX HM HR HPt HMe T2 T3 PA h7 CP
     have hVz : w7.heap.size = ((((((w7.setCell ⟨w.heap.size + 1 + 1, 0, none⟩ (.int .i64 f0)).setCell ⟨w.heap.size + 1 + 1, 1, none⟩ (.int .i64 f1)).setCell ⟨w.heap.size + 1 + 1, 2, none⟩ (.slice pa pl.length pc)).setCell ⟨w.heap.size + 1 + 1, 3, none⟩ (.slice va (sk list.length).length vc)).setCell ⟨w.heap.size + 1 + 1, 4, none⟩ (.bool false)).setCell ⟨w.heap.size + 1 + 1, 5, none⟩ (.slice oa ws.length oc)).heap.size := by simp
     obtain ⟨z0, g0⟩ := RB.2 0 _ rfl
     obtain ⟨z1, g1⟩ := RB.2 1 _ rfl
     obtain ⟨z2, g2⟩ := RB.2 2 _ rfl
     obtain ⟨z3, g3⟩ := RB.2 3 _ rfl
     obtain ⟨z4, g4⟩ := RB.2 4 _ rfl
     obtain ⟨z5, g5⟩ := RB.2 5 _ rfl
     have YY := dH ((((((RB.put 0 (.int .i64 f0)).put 1 (.int .i64 f1)).put 2 (.slice pa pl.length pc)).put 3 (.slice va (sk list.length).length vc)).put 4 (.bool false)).put 5 (.slice oa ws.length oc))
     have BF := dH ((((((BB.setCell (p := ⟨w.heap.size + 1 + 1, 0, none⟩) (by simp only; omega) (.int .i64 f0)).setCell (p := ⟨w.heap.size + 1 + 1, 1, none⟩) (by simp only; omega) (.int .i64 f1)).setCell (p := ⟨w.heap.size + 1 + 1, 2, none⟩) (by simp only; omega) (.slice pa pl.length pc)).setCell (p := ⟨w.heap.size + 1 + 1, 3, none⟩) (by simp only; omega) (.slice va (sk list.length).length vc)).setCell (p := ⟨w.heap.size + 1 + 1, 4, none⟩) (by simp only; omega) (.bool false)).setCell (p := ⟨w.heap.size + 1 + 1, 5, none⟩) (by simp only; omega) (.slice oa ws.length oc))
     have MF := dH ((((((M7.far (b := w.heap.size + 1 + 1) (o := 0) (.inl (by omega)) (.int .i64 f0)).far (b := w.heap.size + 1 + 1) (o := 1) (.inl (by omega)) (.int .i64 f1)).far (b := w.heap.size + 1 + 1) (o := 2) (.inl (by omega)) (.slice pa pl.length pc)).far (b := w.heap.size + 1 + 1) (o := 3) (.inl (by omega)) (.slice va (sk list.length).length vc)).far (b := w.heap.size + 1 + 1) (o := 4) (.inl (by omega)) (.bool false)).far (b := w.heap.size + 1 + 1) (o := 5) (.inl (by omega)) (.slice oa ws.length oc))
     clear RB BB
     go_wp2_with fail
     generalize ((((((w7.setCell ⟨w.heap.size + 1 + 1, 0, none⟩ (.int .i64 f0)).setCell ⟨w.heap.size + 1 + 1, 1, none⟩ (.int .i64 f1)).setCell ⟨w.heap.size + 1 + 1, 2, none⟩ (.slice pa pl.length pc)).setCell ⟨w.heap.size + 1 + 1, 3, none⟩ (.slice va (sk list.length).length vc)).setCell ⟨w.heap.size + 1 + 1, 4, none⟩ (.bool false)).setCell ⟨w.heap.size + 1 + 1, 5, none⟩ (.slice oa ws.length oc)) = V at *
     have q0 := ((dU YY).2 0 _ rfl).1
     have q1 := ((dU YY).2 1 _ rfl).1
     have q2 := ((dU YY).2 2 _ rfl).1
     have q3 := ((dU YY).2 3 _ rfl).1
     have q4 := ((dU YY).2 4 _ rfl).1
     have q5 := ((dU YY).2 5 _ rfl).1
     refine bodyPost_ret (v := .tuple #[.agg #[.int .i64 f0, .int .i64 f1, .slice pa pl.length pc, .slice va (sk list.length).length vc, .bool false, .slice oa ws.length oc], .bool true]) (by simp [results, Tryz.results9, go_sem, q0, q1, q2, q3, q4, q5]) rfl (AnsM.yes (dU HMt _ _ _ _ _ r0 V ((dU MF).wide (by omega) (by omega)) (dU HRS)) (dU BF))
theorem specSeal9_any (cv v lv : Value) (c : List Int × Int) (m : Mn) (node : Int) (list : List Ent) (w : World) (hc : RdConfig cv c w) (hv : RdMend v m w) (hlv : RdEntryS lv list w) (hf : fitE m.seen) (hfl : fitE list) (hs : sizMend m ≤ 1048576) (hsc : c.1.length ≤ 1048576) (hsl : list.length ≤ 1048576) :
  Calls Tryz.prog 9 #[cv, v, .int .i64 node, lv] w fun e w' => (∃ u, e = .returned (.tuple #[u, .bool (seal9M c.1 c.2 m node list).2]) ∧ OwMend w.heap.size w'.heap.size u (seal9M c.1 c.2 m node list).1 w') ∧ Below w.heap.size w w' :=
 (specSeal9_ap cv v lv c m node list w hc hv hlv hf hfl hs hsc hsl).mono fun e w' h => h.any
end Go.Proofs.YtjkjmapibcfcdaaGreat
