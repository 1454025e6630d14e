/- impl's MendSeal (printed by tools/mkmnv.py). -/
import Derived.Test.YtjkjmapibcfcdaaGreatGz8
import Derived.Test.YtjkjmapibcfcdaaGreatGz2
import Derived.Test.YtjkjmapibcfcdaaGreatGw2
import Derived.Test.YtjkjmapibcfcdaaGreatImFh
import Derived.Deep.RegionHeld3
import Derived.Deep.DeepCutAuto
namespace Go.Proofs.YtjkjmapibcfcdaaGreat
open Go.ChangeShapes Go.WideShapes Go.ChangeAt Go.RowKit
set_option linter.unusedVariables false
set_option linter.unusedSimpArgs false
set_option maxRecDepth 100000

theorem nodes_few {ds xs : List Int} {cop : Int} (h : nodesP ds cop xs) : xs.length ≤ 8 := by
 obtain ⟨p1, p2⟩ := (ascP_iff _ _ _).1 h.2
 have hd := h.1.1
 have key : ∀ i (hi : i < xs.length), (i : Int) ≤ xs[i] := by
  intro i
  induction i with
  | zero => intro hi; exact (p2 _ (List.getElem_mem hi)).1
  | succ i ih =>
   intro hi
   have q := List.pairwise_iff_getElem.1 p1 i (i + 1) (by omega) hi (by omega)
   have q2 := ih (by omega)
   push_cast
   omega
 rcases Nat.eq_zero_or_pos xs.length with h0 | h0
 ·omega
 ·have q := key (xs.length - 1) (by omega)
  have q2 := (p2 _ (List.getElem_mem (show xs.length - 1 < xs.length by omega))).2
  omega
theorem RowL.keepG {W w5 : World} {lo : Nat} {v : Value} {rs : List (Nst (List Int))} (h : OwnRw 1 lsCl W lo v rs) (hk : rs = [] ∨ w5.heap[bO v]? = W.heap[bO v]?) : OwnRw 1 lsCl w5 lo v rs := by
 obtain ⟨q0, a, c, rfl, qc, q⟩ := h
 refine ⟨q0, _, _, rfl, qc, ?_⟩
 rcases q with q | ⟨g, off, rfl, hb, hc⟩
 ·exact .inl q
 ·rcases hk with hk | hk
  ·exact .inl hk
  ·refine .inr ⟨g, off, rfl, hb, fun i hi j u hu => ?_⟩
   have q := hc i hi j u hu
   have hk' : w5.heap[g]? = W.heap[g]? := hk
   simp only [World.cell?, World.frozen?] at q ⊢
   rw [hk']
   exact q
theorem ImM.sealedAs {W w5 : World} {lo : Nat} {sv ev wv sv' : Value} {rs : List (Nst (List Int))} {ss ss' : List Int} {es : List Ent} (h : ImM W lo sv ev wv rs ss es) (hG : W.grownBy w5 (touch sv)) (hR : RmN w5 lo sv' ss') (hb : (ss ≠ [] ∧ bO sv' = bO sv) ∨ W.heap.size ≤ bO sv') : ImM w5 lo sv' ev wv rs ss' es := by
 have M := h.owm
 obtain ⟨h1, h2, h3, h4, h5, h6, h7, h8⟩ := h
 have KP : ∀ j, j < W.heap.size → (ss = [] ∨ bO sv ≠ j) → w5.heap[j]? = W.heap[j]? := fun j hj hn => hG.block j hj (fun e => by
  obtain ⟨q1, q2⟩ := h1.touch e.symm
  rcases hn with q | q
  ·exact q1 q
  ·exact q q2.symm)
 have nb : ∀ j, j < W.heap.size → (ss = [] ∨ bO sv ≠ j) → bO sv' ≠ j := fun j hj hn e => by
  rcases hb with q | q
  ·rcases hn with r | r
   ·exact q.1 r
   ·exact r (by rw [← q.2, e])
  ·omega
 have hrow : rs = [] ∨ (bO wv < W.heap.size ∧ (ss = [] ∨ bO sv ≠ bO wv)) := by
  by_cases hr : rs = []
  ·exact .inl hr
  ·refine .inr ⟨(h3.ltG lsCl_len (by decide)).resolve_left hr, ?_⟩
   rcases h7 with q | q
   ·exact .inl q
   ·exact .inr (Ne.symm (q.1.resolve_left hr))
 refine ⟨hR, ?_, RowL.keepG h3 ?_, fun p hp => ?_, h5, ?_, ?_, h8⟩
 ·by_cases ht : touch sv = none
  ·exact ApR.kept elemE h2 hG (.inl ht)
  ·refine ApR.kept elemE h2 hG (.inr fun e => ?_)
   cases hs : touch sv with
   | none => exact ht hs
   | some j =>
    obtain ⟨q1, q2⟩ := h1.touch hs
    rcases h6 with q | q
    ·exact q1 q
    ·exact q (by rw [e, hs, q2])
 ·rcases hrow with q | q
  ·exact .inl q
  ·exact .inr (KP _ q.1 q.2)
 ·refine (h4 p hp).grown hG ?_
  by_cases hpm : p.m = []
  ·exact .inl hpm
  ·right
   intro e
   obtain ⟨q1, q2⟩ := h1.touch e
   rcases h7 with q | q
   ·exact q1 q
   ·exact ((q.2 p hp).resolve_left hpm) q2
 ·right
  intro e
  have hl := (h2.touched elemE e).2
  refine nb _ hl ?_ rfl
  rcases h6 with q | q
  ·exact .inl q
  ·refine .inr fun e' => q ?_
   rw [e, e']
 ·right
  refine ⟨?_, fun p hp => ?_⟩
  ·rcases hrow with q | q
   ·exact .inl q
   ·exact .inr (Ne.symm (nb _ q.1 q.2))
  ·by_cases hpm : p.m = []
   ·exact .inl hpm
   ·right
    refine Ne.symm (nb _ ((h4 p hp).bs.lt.resolve_left hpm) ?_)
    rcases h7 with q | q
    ·exact .inl q
    ·exact .inr (Ne.symm ((q.2 p hp).resolve_left hpm))
theorem ImM.seenAs {W w5 : World} {lo : Nat} {sv ev wv ev' : Value} {rs : List (Nst (List Int))} {ss : List Int} {es es' : List Ent} (h : ImM W lo sv ev wv rs ss es) (hG : W.grownBy w5 (touch ev)) (hA : ApE w5 lo ev' es') (ht : touch ev' = touch ev ∨ ∀ k, touch ev' = some k → W.heap.size ≤ k) : ImM w5 lo sv ev' wv rs ss es' := by
 obtain ⟨h1, h2, h3, h4, h5, h6, h7, h8⟩ := h
 have hrow : rs = [] ∨ bO wv < W.heap.size := h3.ltG lsCl_len (by decide)
 refine ⟨h1.grown hG h6, hA, RowL.keepG h3 ?_, fun p hp => (h4 p hp).grown hG ?_, h5, ?_, h7, fun j hj => ?_⟩
 ·by_cases hr : rs = []
  ·exact .inl hr
  ·exact .inr (hG.block _ (hrow.resolve_left hr) (fun e => ((h8 _ e.symm).1.resolve_left hr) rfl))
 ·by_cases hpm : p.m = []
  ·exact .inl hpm
  ·exact .inr fun e => (((h8 _ e).2 p hp).resolve_left hpm) rfl
 ·rcases h6 with q | q
  ·exact .inl q
  ·rcases ht with r | r
   ·exact .inr (by rw [r]; exact q)
   ·by_cases hss : ss = []
    ·exact .inl hss
    ·refine .inr fun e => ?_
     have := r _ e
     have := h1.bs.lt.resolve_left hss
     omega
 ·rcases ht with r | r
  ·exact h8 j (by rw [← r]; exact hj)
  ·have hq := r j hj
   refine ⟨?_, fun p hp => ?_⟩
   ·rcases hrow with q | q
    ·exact .inl q
    ·exact .inr (by omega)
   ·rcases (h4 p hp).bs.lt with q | q
    ·exact .inl q
    ·exact .inr (by omega)
theorem ImM.setB {W : World} {lo b o : Nat} {sv ev wv : Value} {rs : List (Nst (List Int))} {ss : List Int} {es : List Ent} (h : ImM W lo sv ev wv rs ss es) (hF : FrM b sv ev wv rs ss) (u : Value) : ImM (W.setCell ⟨b, o, none⟩ u) lo sv ev wv rs ss es := by
 obtain ⟨h1, h2, h3, h4, h5, h6⟩ := h
 have hG := grown_set W b o u
 refine ⟨h1.grown hG ?_, ApR.put elemE h2 hF.2.1 u, RowL.keepG h3 ?_, fun p hp => (h4 p hp).grown hG ?_, h5, h6⟩
 ·rcases hF.1 with q | q
  ·exact .inl q
  ·exact .inr fun e => q (by cases e; rfl)
 ·rcases hF.2.2.1 with q | q
  ·exact .inl q
  ·exact .inr (Below.heap_setCell _ _ _ _ q)
 ·rcases hF.2.2.2 p hp with q | q
  ·exact .inl q
  ·exact .inr fun e => q (by cases e; rfl)
theorem RdE.lt {w : World} {v : Value} {m : List Ent} (h : Rw 4 Ent.cl w v m) : m = [] ∨ bO v < w.heap.size := by
 obtain ⟨h0, a, cap, rfl, hcap, h⟩ := h
 rcases h with h | ⟨b, off, rfl, hc⟩
 ·exact .inl h
 ·by_cases e : m = []
  ·exact .inl e
  ·right
   have hp : 0 < m.length := List.length_pos_iff.2 e
   have q := hc 0 hp 0 _ rfl
   exact dCell_lt q
theorem mnP.wrote00 {ds : List Int} {cop : Int} {m : Mn} (h : mnP ds cop m) (hp : m.planned = false) : m.wrote = [] := by
 have q := h.2.2.2
 unfold wroteP at q
 rw [hp] at q
 simp only [Bool.false_eq_true, if_false] at q
 exact List.length_eq_zero_iff.1 (by omega)
def SealQ (W : World) (lo b : Nat) (wv : Value) (qs : List (Nst (List Int))) (ds : List Int) (cop : Int) (node : Int) (list : List Ent) (m : Mn) (e : Ending) (w' : World) : Prop := ∃ ok, (ok = true ↔ seal9P ds cop m node list) ∧ e = .returned (.bool ok) ∧ Below lo W w' ∧ (ok = true → ∃ sv' ev', BxZ w' lo b [.int .i64 m.bye, .int .i64 m.epoch, sv', ev', .bool m.planned, wv] ∧ OwM lo w'.heap.size sv' ev' wv qs (seal9W m node list).sealed (seal9W m node list).seen w')
set_option maxHeartbeats 16000000 in
theorem mseal9_any (W : World) (lo b : Nat) (sv ev wv lv : Value) (qs : List (Nst (List Int))) (ds : List Int) (cop : Int) (ca : Option Addr) (cc : Nat) (node : Int) (list : List Ent) (m : Mn) (hP : mnP ds cop m) (hX : BxZ W lo b [.int .i64 m.bye, .int .i64 m.epoch, sv, ev, .bool m.planned, wv]) (hq : qs.map Nst.m = m.wrote) (hI : ImM W lo sv ev wv qs m.sealed m.seen) (hF : FrM b sv ev wv qs m.sealed) (hlo : lo ≤ W.heap.size) (hN : ∀ W', Below lo W W' → Ns W' (.slice ca ds.length cc) ds) (hLv : ∀ W', Below lo W W' → RdEntryS lv list W') (had : allInt ds) (okx : okInt node) (okm : okMend m) (hfl : fitE list) (hld : ds.length ≤ 1048576) (hll : list.length ≤ 1048576) (hs : sizMend m ≤ 1048576) (c0 : -9223372036854775808 ≤ cop) (c1 : cop ≤ 9223372036854775807) :
  Calls Tryz.prog 31 #[.pointer (some ⟨b, 0, none⟩), .agg #[.slice ca ds.length cc, .int .i64 cop], .int .i64 node, lv] W (SealQ W lo b wv qs ds cop node list m) := by
 have ba : ∀ (w : World) o, Below w.heap.size w (w.alloc o) := fun w o => (Below.refl _ _).alloc (Nat.le_refl _) o
 have hsl : m.sealed.length ≤ 8 := nodes_few hP.1.2.2.2.1
 have hsp : m.sealed.Pairwise (· < ·) := ((ascP_iff _ _ _).1 hP.1.2.2.2.1.2).1
 have hbl : b < W.heap.size := hX.lt
 have hblo : lo ≤ b := hX.1
 have HN := dH hN
 have CST := dH fun W' (hb : Below W.heap.size W W') => implStep_any _ m W' ((OwM.mend ((hI.owm).below hb) hq).rd)
 have HFL : Hid (∀ k (h : k < list.length), -9223372036854775808 ≤ list[k].pl ∧ list[k].pl ≤ 9223372036854775807) := fun k h => ⟨(hfl _ (List.getElem_mem h)).1, (hfl _ (List.getElem_mem h)).2.1⟩
 obtain ⟨sk, hsk⟩ : ∃ sk : Nat → List Ent, ∀ k, sk k = seeL m.epoch m.seen (list.take k) := ⟨_, fun _ => rfl⟩
 have SK0 : Hid (sk 0 = m.seen) := hsk 0
 have SKY : Hid (∀ k (h : k < list.length), epL list[k].pl = m.epoch → sk (k + 1) = keepL list[k] (sk k)) := fun k h hx => by rw [hsk, hsk]; exact seeL_yes h hx
 have SKN : Hid (∀ k (h : k < list.length), epL list[k].pl ≠ m.epoch → sk (k + 1) = sk k) := fun k h hx => by rw [hsk, hsk]; exact seeL_no h hx
 have SKG : Hid (∀ k, ascE (sk k) ∧ (sk k).length ≤ 60) := fun k => by
  rw [hsk]
  have g := goodE.see hP.1.2.1.1 (list.take k) _ hP.good
  exact ⟨pair_ascE g.1, g.len⟩
 have SKE : Hid (sk list.length = (seal9W m node list).seen) := by
  show _ = seeL m.epoch m.seen list
  rw [hsk, List.take_length]
 have CA : Hid (m.planned = false → ∀ W', Below lo W W' → ∀ v', RdMend v' (seal9W m node list) W' → Calls Tryz.prog 38 #[v', .agg #[.slice ca ds.length cc, .int .i64 cop], .int .i64 0] W' fun e w' => RetB (mnP ds cop (seal9W m node list)) e ∧ Below W'.heap.size W' w') := fun hpl W' hb v' hv' => by
  have hc : RdConfig (.agg #[.slice ca ds.length cc, .int .i64 cop]) (ds, cop) W' := ⟨_, rfl, hN W' hb⟩
  refine (implAt0_any _ v' (ds, cop) (seal9W m node list) W' hc hv' ⟨had, c0, c1⟩ ⟨okm.1, okm.2.1, fun z hz => ?_, fun e he => ?_, okm.2.2.2.2⟩ hld ?_).mono ?_
  ·rcases mem_putL.1 hz with rfl | h
   ·exact okx
   ·exact okm.2.2.1 z h
  ·rcases mem_see list m.seen he with q | q
   ·exact okm.2.2.2.1 e q
   ·exact hfl e q
  ·have h0 := hP.wrote00 hpl
   have h1 := putL_len node m.sealed
   show (putL node m.sealed).length + sizIntSS m.wrote ≤ 1048576
   rw [h0]
   simp [sizIntSS, sumL]
   omega
  ·rintro e w' ⟨h1, h2⟩
   refine ⟨?_, h2⟩
   have e1 := mn_at ds cop (seal9W m node list)
   have e2 : (if (seal9W m node list).planned then (1 : Int) else 0) = 0 := by
    show (if m.planned then (1 : Int) else 0) = 0
    rw [hpl]
    rfl
   rw [e2] at e1
   obtain ⟨b', q1, q2⟩ := h1
   exact ⟨b', q1, q2.trans e1.symm⟩
 have RD : Hid (∀ (hi : Nat) (sv' ev' : Value) (W' : World), OwM lo hi sv' ev' wv qs (putL node m.sealed) (sk list.length) W' → RdMend (.agg #[.int .i64 m.bye, .int .i64 m.epoch, sv', ev', .bool m.planned, wv]) (seal9W m node list) W') := fun hi sv' ev' W' h => by
  rw [dU SKE] at h
  exact (OwM.mend (m := seal9W m node list) h hq).rd
 have PA : Hid (seal9P ds cop m node list ↔ m.planned = false ∧ mnP ds cop (seal9W m node list)) := Iff.rfl
 have Q0 : Hid (∀ w', ¬ seal9P ds cop m node list → Below lo W w' → SealQ W lo b wv qs ds cop node list m (.returned (.bool false)) w') := fun w' h hb => ⟨false, ⟨(fun h => by cases h), fun h' => absurd h' h⟩, rfl, hb, fun h => by cases h⟩
 have Q1 : Hid (∀ w' sv' ev', seal9P ds cop m node list → Below lo W w' → BxZ w' lo b [.int .i64 m.bye, .int .i64 m.epoch, sv', ev', .bool m.planned, wv] → OwM lo w'.heap.size sv' ev' wv qs (putL node m.sealed) (sk list.length) w' → SealQ W lo b wv qs ds cop node list m (.returned (.bool true)) w') := fun w' sv' ev' h hb h1 h3 => ⟨true, ⟨fun _ => h, fun _ => rfl⟩, rfl, hb, fun _ => ⟨sv', ev', h1, by rw [dU SKE] at h3; exact h3⟩⟩
 have HL := dH hLv
 have HLB : Hid (list.length = 0 ∨ bO lv < W.heap.size) := by
  rcases RdE.lt (hLv W (Below.refl _ _)) with q | q
  ·left; rw [q]; rfl
  ·exact .inr q
 obtain ⟨la, lc, rfl, hl4⟩ := formEntryS (hLv W (Below.refl _ _))
 obtain ⟨-, sa, sc, rfl, -, -⟩ := hI.1.bs
 obtain ⟨ea, ec, rfl⟩ := ApR.slice elemE hI.2.1
 have I0 := dH fun W' (hb : Below W.heap.size W W') => hI.below hb
 have FR := dH hF
 have HX := dH fun W' (hb : Below W.heap.size W W') => hX.below hb
 have SP := dH hsp
 generalize SealQ W lo b wv qs ds cop node list m = QQ at *
 generalize seal9P ds cop m node list = PQ at *
 generalize mnP ds cop (seal9W m node list) = PN at *
 clear hsk SKE hP hI hF hX hN hLv had okx okm hfl hs hsp hq
 generalize seal9W m node list = NW at *
 generalize m.bye = f0 at *
 generalize m.epoch = f1 at *
 generalize m.planned = f4 at *
 generalize m.sealed = ss at *
 generalize m.seen = es at *
 have B0 := ba W (.cells #[.slice ca ds.length cc, .int .i64 cop] 26)
 have K0 := BxZ.new (B := lo) W [.slice ca ds.length cc, .int .i64 cop] 26 hlo
 have szA : (W.alloc (.cells #[.slice ca ds.length cc, .int .i64 cop] 26)).heap.size = W.heap.size + 1 := by simp
 have CT := dH (dU CST _ B0)
 have y0 := ((dU HX _ B0).2 0 _ rfl).1
 have y1 := ((dU HX _ B0).2 1 _ rfl).1
 have y2 := ((dU HX _ B0).2 2 _ rfl).1
 have y3 := ((dU HX _ B0).2 3 _ rfl).1
 have y4 := ((dU HX _ B0).2 4 _ rfl).1
 have y5 := ((dU HX _ B0).2 5 _ rfl).1
 clear CST
 go_enter Tryz.func31, Tryz.ntmps31
 go_wp2_with fail
 generalize W.alloc (.cells #[.slice ca ds.length cc, .int .i64 cop] 26) = w0 at *
 refine (dU CT).mono ?_
 rintro e w1 ⟨rfl, b1⟩
 have B1 := bT B0 b1
 have K1 := dH (K0.below b1)
 have s1 := b1.size
 clear CT y0 y1 y2 y3 y4 y5 K0
 cases f4 with
 | true =>
  have hno := dH (show ¬ PQ from fun h => by have := ((dU PA).1 h).1; cases this)
  have hnz : ((1 : Int) != 0) = true := by decide
  simp only [if_true]
  clear PA CA Q1
  go_wp2_with fail
  exact dU Q0 _ (dU hno) (B1.mono hlo)
 | false =>
  have hnz : ((0 : Int) != 0) = false := by decide
  simp only [Bool.false_eq_true, if_false]
  have O1 := dU HX _ B1
  have I1 := dU I0 _ B1
  have p2 := (O1.2 2 _ rfl).1
  have hss8 : ss.length ≤ 1048576 := by omega
  have CW := dH (withNode_any w1 lo sa sc ss node I1.1 (by omega) (dU SP) hss8)
  have TS : Hid (∀ j, touch (.slice sa ss.length sc) = some j → lo ≤ j ∧ j < W.heap.size ∧ j ≠ b) := fun j hj => by
   have R := (dU I0 W (Below.refl _ _)).1
   obtain ⟨q1, q2⟩ := R.touch hj
   subst q2
   exact ⟨R.ge.resolve_left q1, R.bs.lt.resolve_left q1, ((dU FR).1).resolve_left q1⟩
  have TE : Hid (∀ j, touch (.slice ea es.length ec) = some j → lo ≤ j ∧ j < W.heap.size ∧ j ≠ b) := fun j hj => by
   have A := (dU I0 W (Below.refl _ _)).2.1
   exact ⟨(A.touched elemE hj).1, (A.touched elemE hj).2, fun e => (dU FR).2.1 (by rw [hj, e])⟩
  replace I1 := dH I1
  replace O1 := dH O1
  clear I0 HX SP
  generalize hpl : putL node ss = pl at *
  clear hpl
  go_wp2_with fail
  refine (dU CW).mono ?_
  rintro e w2 ⟨pa, pc, rfl, R2, g2, hb2⟩
  have s2 := g2.size
  have I2 := (dU I1).sealedAs g2 R2 hb2
  have O2 := (dU O1).grown g2 (fun e => (dU TS _ e).2.2 rfl)
  have K2 := (dU K1).grown g2 (fun e => by have := (dU TS _ e).2.1; omega)
  have B2 : Below lo W w2 := (B1.mono hlo).grown g2 (by omega) (fun j e => (dU TS _ e).1)
  have F2 : FrM b (.slice pa pl.length pc) (.slice ea es.length ec) wv qs pl := ⟨by
   rcases hb2 with q | q
   ·rw [q.2]
    exact .inr (((dU FR).1).resolve_left q.1)
   ·exact .inr (by omega), (dU FR).2⟩
  have I3 := dH (I2.setB (o := 2) F2 (.slice pa pl.length pc))
  have O3 := dH (O2.put 2 (.slice pa pl.length pc))
  have K3 := dH (K2.far (b' := b) (o := 2) (by omega) (.slice pa pl.length pc))
  have B3 := B2.setCell (p := ⟨b, 2, none⟩) hblo (.slice pa pl.length pc)
  obtain ⟨z2, h2⟩ := O2.2 2 _ rfl
  have p3 := ((dU O3).2 3 _ rfl).1
  have s3 : w2.heap.size = (w2.setCell ⟨b, 2, none⟩ (.slice pa pl.length pc)).heap.size := by simp
  have IS : Hid (ImM (w2.setCell ⟨b, 2, none⟩ (.slice pa pl.length pc)) lo (.slice pa pl.length pc) (.slice ea (sk 0).length ec) wv qs pl (sk 0)) := by
   rw [dU SK0]
   exact dU I3
  have FS : Hid (FrM b (.slice pa pl.length pc) (.slice ea (sk 0).length ec) wv qs pl) := by
   rw [dU SK0]
   exact F2
  have TS0 : Hid (∀ j, touch (.slice ea (sk 0).length ec) = some j → lo ≤ j ∧ j ≠ b ∧ j ≠ W.heap.size) := fun j hj => by
   rw [dU SK0] at hj
   have q := dU TE j hj
   exact ⟨q.1, q.2.2, by omega⟩
  have e00 := dU SK0
  clear CW I1 O1 K1 I2 O2 K2 B2 F2 R2 g2 hb2 I3 TE TS FR B1 B0 b1 p2
  go_wp2_with fail
  generalize w2.setCell ⟨b, 2, none⟩ (.slice pa pl.length pc) = w3 at *
  clear z2 h2 p3
  rw [← e00]
  clear e00 SK0
  go_loopw [9, 32] (fun u y wr => ∃ (k : Nat) (va : Option Addr) (vc : Nat), y = .int .i64 (k : Int) ∧ u = .slice va (sk k).length vc ∧ k ≤ list.length ∧ Hid (ImM wr lo (.slice pa pl.length pc) (.slice va (sk k).length vc) wv qs pl (sk k)) ∧ Hid (FrM b (.slice pa pl.length pc) (.slice va (sk k).length vc) wv qs pl) ∧ Hid (∀ j, touch (.slice va (sk k).length vc) = some j → lo ≤ j ∧ j ≠ b ∧ j ≠ W.heap.size) ∧ Hid (BxZ wr lo b [.int .i64 f0, .int .i64 f1, .slice pa pl.length pc, .slice ea es.length ec, .bool false, wv]) ∧ Hid (BxZ wr lo W.heap.size [.slice ca ds.length cc, .int .i64 cop]) ∧ W.heap.size < wr.heap.size ∧ Below lo W wr) (fun _ y _ => list.length - (intOf y).toNat)
  case atStart => exact ⟨0, ea, ec, rfl, rfl, Nat.zero_le _, IS, FS, TS0, O3, K3, by omega, B3⟩
  case round =>
   obtain ⟨k, va, vc, rfl, rfl, hk, hIk, hFk, hTk, hOk, hKk, hsz, hb⟩ := hrel
   clear IS FS TS0 O3 K3 B3
   by_cases hlt : (k : Int) < (list.length : Int)
   ·have hkl : k < list.length := by omega
    obtain ⟨lb, lo', rfl, hce⟩ := Rw.ent (dU HL _ hb) hkl
    have SY := dH (dU SKY k hkl)
    have SN := dH (dU SKN k hkl)
    obtain ⟨hpl, hpu⟩ := dU HFL k hkl
    obtain ⟨hak, hlk⟩ := dU SKG k
    have HAK := dH hak
    have CKp : Hid (∀ W', Below wr.heap.size wr W' → Calls Tryz.prog 76 #[.slice va (sk k).length vc, list[k].val, .func (.func 77) #[] #[]] W' (InsQ W' lo (.slice va (sk k).length vc) (keepL list[k] (sk k)))) := fun W' hb' => keep_any (.slice va (sk k).length vc) (sk k) list[k] W' lo ((dU hIk).2.1.below hb') (dU HAK) (by omega) (by have := hb.size; have := hb'.size; omega)
    have CEp := dH fun W' => implEp_any list[k].pl hpl hpu W'
    have hEa := hce k hkl
    generalize list[k] = yy at *
    obtain ⟨yp, yw, yh, yd⟩ := yy
    simp only [Ent.val] at *
    obtain ⟨e0, e1, e2, e3⟩ := hEa
    have bE := ba wr (.cells #[.int .i64 yp, .int .i64 yw, .bool yh, .string yd] 36)
    have XE := Bx.new wr [.int .i64 yp, .int .i64 yw, .bool yh, .string yd] 36
    have sE : (wr.alloc (.cells #[.int .i64 yp, .int .i64 yw, .bool yh, .string yd] 36)).heap.size = wr.heap.size + 1 := by simp
    have PP : Hid (∀ W', Below (wr.alloc (.cells #[.int .i64 yp, .int .i64 yw, .bool yh, .string yd] 36)).heap.size (wr.alloc (.cells #[.int .i64 yp, .int .i64 yw, .bool yh, .string yd] 36)) W' → (W'.cell? ⟨wr.heap.size, 0, none⟩ = some (.int .i64 yp) ∧ W'.cell? ⟨wr.heap.size, 1, none⟩ = some (.int .i64 yw) ∧ W'.cell? ⟨wr.heap.size, 2, none⟩ = some (.bool yh) ∧ W'.cell? ⟨wr.heap.size, 3, none⟩ = some (.string yd)) ∧ W'.cell? ⟨b, 1, none⟩ = some (.int .i64 f1)) := fun W' hW => ⟨⟨XE.below hW 0 _ rfl, XE.below hW 1 _ rfl, XE.below hW 2 _ rfl, XE.below hW 3 _ rfl⟩, (((dU hOk).below (bT bE hW)).2 1 _ rfl).1⟩
    clear hce SKY SKN HFL XE hak
    generalize epL yp = ep at *
    by_cases hx : ep = f1
    ·have hq : (ep == f1) = true := by simp [hx]
     have HX2 := dH hx
     clear hx
     go_wp2_with fail
     generalize hxb : wr.heap.size = xb at *
     generalize wr.alloc (.cells #[.int .i64 yp, .int .i64 yw, .bool yh, .string yd] 36) = w4 at *
     have py := dU PP w4 (Below.refl _ _)
     have bd : Below w4.heap.size w4 w4.drew := (Below.refl _ _).drew
     have pz := dU PP _ bd
     refine wp_region_noPanic ?_
     refine wp_region_held_drew (S := fun W' => W'.cell? ⟨xb, 0, none⟩ = some (.int .i64 yp) ∧ W'.cell? ⟨b, 1, none⟩ = some (.int .i64 f1)) (by kernel_rfl) (by first | exact ⟨pd.1.1, pd.2⟩ | exact ⟨pz.1.1, pz.2⟩ | exact ⟨py.1.1, py.2⟩ | go_keep) (fun hHeld => ?_)
     refine tY 0 (v := ?_) rfl (by kernel_rfl) (.inl ⟨by rfl, ?_⟩) ‹_› ?_
     rotate_left 1
     ·intro w hSw
      (try dsimp only at hSw)
      first | (go_simp; done) | (go_simp; with_reducible rfl)
     try simp only [Act.put, sA, sB, sC]
     refine tY 1 (v := ?_) rfl (by kernel_rfl) (.inl ⟨by rfl, ?_⟩) ‹_› ?_
     rotate_left 1
     ·intro w hSw
      (try dsimp only at hSw)
      first | (go_simp; done) | (go_simp; with_reducible rfl)
     try simp only [Act.put, sA, sB, sC]
     refine tY 3 (v := ?_) rfl (by kernel_rfl) (.inl ⟨by rfl, ?_⟩) ‹_› ?_
     rotate_left 1
     ·intro w hSw
      (try dsimp only at hSw)
      first | (go_simp; done) | (go_simp; with_reducible rfl)
     try simp only [Act.put, sA, sB, sC]
     refine tY 4 (v := ?_) rfl (by kernel_rfl) (.inl ⟨by rfl, ?_⟩) ‹_› ?_
     rotate_left 1
     ·intro w hSw
      (try dsimp only at hSw)
      first | (go_simp; done) | (go_simp; with_reducible rfl)
     try simp only [Act.put, sA, sB, sC]
     refine tY 5 (v := ?_) rfl (by kernel_rfl) (.inl ⟨by rfl, ?_⟩) ‹_› ?_
     rotate_left 1
     ·intro w hSw
      (try dsimp only at hSw)
      first | (go_simp; done) | (go_simp; with_reducible rfl)
     try simp only [Act.put, sA, sB, sC]
     refine tY 6 (v := ?_) rfl (by kernel_rfl) (.inl ⟨by rfl, ?_⟩) ‹_› ?_
     rotate_left 1
     ·intro w hSw
      (try dsimp only at hSw)
      first | (go_simp; done) | (go_simp; with_reducible rfl)
     try simp only [Act.put, sA, sB, sC]
     refine wpAnyH_ready (rs := [2]) (by kernel_rfl) (by simp) ?_
     refine rC rfl (fun K hK => ?_) AllReadyH.nil
     go_simp
     refine (dU CEp _).mono ?_
     rintro e w6 ⟨rfl, b6⟩
     have b46 := bT bd b6
     have pd := dU PP _ b46
     (try go_wp2_with fail)
     refine hK.out _ _ (by first | exact ⟨pd.1.1, pd.2⟩ | exact ⟨pz.1.1, pz.2⟩ | exact ⟨py.1.1, py.2⟩ | go_keep) (fun hHeld => ?_)
     clear hK K
     try simp only [Act.put, sA, sB, sC]
     refine tY 7 (v := ?_) rfl (by kernel_rfl) (.inl ⟨by rfl, ?_⟩) ‹_› ?_
     rotate_left 1
     ·intro w hSw
      (try dsimp only at hSw)
      first | (go_simp; done) | (go_simp; with_reducible rfl)
     try simp only [Act.put, sA, sB, sC]
     refine wpAnyH_done (by kernel_rfl) ?_ _
     refine NoPanic.normal ?_
     have e9 := dU SY (dU HX2)
     rw [← e9] at CKp
     clear e9
     rw [← hxb] at bE
     have bR6 := bT bE b46
     have s6 := bR6.size
     have CK6 := dH (dU CKp _ (by rw [← hxb]; exact bR6))
     have x0 := pd.1.1
     have x1 := pd.1.2.1
     have x2 := pd.1.2.2.1
     have x3 := pd.1.2.2.2
     have Ik := (dU hIk).below bR6
     have Ok := (dU hOk).below bR6
     have Kk := (dU hKk).below bR6
     have hlz := hb.size
     have hb6 := hb.trans (bR6.mono (by omega))
     replace Ik := dH Ik
     replace Ok := dH Ok
     replace Kk := dH Kk
     clear hIk hOk hKk SY SN CKp CEp PP py pz pd HAK
     go_wp2_with fail
     refine (dU CK6).mono ?_
     rintro e w7 ⟨u7, rfl, A7, g7, t7⟩
     obtain ⟨qa, qc, rfl⟩ := ApR.slice elemE A7
     have s7 := g7.size
     have I7 := dH ((dU Ik).seenAs g7 A7 t7)
     have O7 := dH ((dU Ok).grown g7 (fun e => (dU hTk _ e).2.1 rfl))
     have K7 := dH ((dU Kk).grown g7 (fun e => (dU hTk _ e).2.2 rfl))
     have T7 : Hid (∀ j, touch (.slice qa (sk (k + 1)).length qc) = some j → lo ≤ j ∧ j ≠ b ∧ j ≠ W.heap.size) := fun j hj => by
      rcases t7 with q | q
      ·exact dU hTk j (by rw [← q]; exact hj)
      ·have := q j hj
       exact ⟨by omega, by omega, by omega⟩
     have F7 : Hid (FrM b (.slice pa pl.length pc) (.slice qa (sk (k + 1)).length qc) wv qs pl) := ⟨(dU hFk).1, fun e => (dU T7 b e).2.1 rfl, (dU hFk).2.2⟩
     have hb7 : Below lo W w7 := hb6.grown g7 (by omega) (fun j e => (dU hTk _ e).1)
     clear CK6 x0 x1 x2 x3 Ik Ok Kk A7 g7 t7
     go_wp2_with fail
     go_roundw
     case rel => exact ⟨k + 1, qa, qc, by go_num, rfl, by omega, I7, F7, T7, O7, K7, by omega, hb7⟩
     case measure => simp [intOf]; omega
    ·have hq : (ep == f1) = false := by simp [hx]
     have HX2 := dH hx
     clear hx
     go_wp2_with fail
     generalize hxb : wr.heap.size = xb at *
     generalize wr.alloc (.cells #[.int .i64 yp, .int .i64 yw, .bool yh, .string yd] 36) = w4 at *
     have py := dU PP w4 (Below.refl _ _)
     have bd : Below w4.heap.size w4 w4.drew := (Below.refl _ _).drew
     have pz := dU PP _ bd
     refine wp_region_noPanic ?_
     refine wp_region_held_drew (S := fun W' => W'.cell? ⟨xb, 0, none⟩ = some (.int .i64 yp) ∧ W'.cell? ⟨b, 1, none⟩ = some (.int .i64 f1)) (by kernel_rfl) (by first | exact ⟨pd.1.1, pd.2⟩ | exact ⟨pz.1.1, pz.2⟩ | exact ⟨py.1.1, py.2⟩ | go_keep) (fun hHeld => ?_)
     refine tY 0 (v := ?_) rfl (by kernel_rfl) (.inl ⟨by rfl, ?_⟩) ‹_› ?_
     rotate_left 1
     ·intro w hSw
      (try dsimp only at hSw)
      first | (go_simp; done) | (go_simp; with_reducible rfl)
     try simp only [Act.put, sA, sB, sC]
     refine tY 1 (v := ?_) rfl (by kernel_rfl) (.inl ⟨by rfl, ?_⟩) ‹_› ?_
     rotate_left 1
     ·intro w hSw
      (try dsimp only at hSw)
      first | (go_simp; done) | (go_simp; with_reducible rfl)
     try simp only [Act.put, sA, sB, sC]
     refine tY 3 (v := ?_) rfl (by kernel_rfl) (.inl ⟨by rfl, ?_⟩) ‹_› ?_
     rotate_left 1
     ·intro w hSw
      (try dsimp only at hSw)
      first | (go_simp; done) | (go_simp; with_reducible rfl)
     try simp only [Act.put, sA, sB, sC]
     refine tY 4 (v := ?_) rfl (by kernel_rfl) (.inl ⟨by rfl, ?_⟩) ‹_› ?_
     rotate_left 1
     ·intro w hSw
      (try dsimp only at hSw)
      first | (go_simp; done) | (go_simp; with_reducible rfl)
     try simp only [Act.put, sA, sB, sC]
     refine tY 5 (v := ?_) rfl (by kernel_rfl) (.inl ⟨by rfl, ?_⟩) ‹_› ?_
     rotate_left 1
     ·intro w hSw
      (try dsimp only at hSw)
      first | (go_simp; done) | (go_simp; with_reducible rfl)
     try simp only [Act.put, sA, sB, sC]
     refine tY 6 (v := ?_) rfl (by kernel_rfl) (.inl ⟨by rfl, ?_⟩) ‹_› ?_
     rotate_left 1
     ·intro w hSw
      (try dsimp only at hSw)
      first | (go_simp; done) | (go_simp; with_reducible rfl)
     try simp only [Act.put, sA, sB, sC]
     refine wpAnyH_ready (rs := [2]) (by kernel_rfl) (by simp) ?_
     refine rC rfl (fun K hK => ?_) AllReadyH.nil
     go_simp
     refine (dU CEp _).mono ?_
     rintro e w6 ⟨rfl, b6⟩
     have b46 := bT bd b6
     have pd := dU PP _ b46
     (try go_wp2_with fail)
     refine hK.out _ _ (by first | exact ⟨pd.1.1, pd.2⟩ | exact ⟨pz.1.1, pz.2⟩ | exact ⟨py.1.1, py.2⟩ | go_keep) (fun hHeld => ?_)
     clear hK K
     try simp only [Act.put, sA, sB, sC]
     refine tY 7 (v := ?_) rfl (by kernel_rfl) (.inl ⟨by rfl, ?_⟩) ‹_› ?_
     rotate_left 1
     ·intro w hSw
      (try dsimp only at hSw)
      first | (go_simp; done) | (go_simp; with_reducible rfl)
     try simp only [Act.put, sA, sB, sC]
     refine wpAnyH_done (by kernel_rfl) ?_ _
     refine NoPanic.normal ?_
     have e9 := dU SN (dU HX2)
     rw [← hxb] at bE
     have bR6 := bT bE b46
     have s6 := bR6.size
     have Ik := dH ((dU hIk).below bR6)
     have Ok := dH ((dU hOk).below bR6)
     have Kk := dH ((dU hKk).below bR6)
     have hb6 := hb.trans (bR6.mono (by have := hb.size; omega))
     clear hIk hOk hKk SY SN CKp CEp PP py pz pd HAK
     go_wp2_with fail
     go_roundw
     case rel => exact ⟨k + 1, va, vc, by go_num, by rw [e9], by omega, by rw [e9]; exact Ik, by rw [e9]; exact hFk, by rw [e9]; exact hTk, Ok, Kk, by omega, hb6⟩
     case measure => simp [intOf]; omega
   ·have ek : k = list.length := by omega
    subst ek
    clear SKY SKN HFL HL SKG
    have Ik := dU hIk
    have Ok := dU hOk
    have I9 := Ik.setB (o := 3) (dU hFk) (.slice va (sk list.length).length vc)
    obtain ⟨z3, h3⟩ := Ok.2 3 _ rfl
    have O9 := Ok.put 3 (.slice va (sk list.length).length vc)
    have K9 := (dU hKk).far (b' := b) (o := 3) (by omega) (.slice va (sk list.length).length vc)
    have B9 := hb.setCell (p := ⟨b, 3, none⟩) hblo (.slice va (sk list.length).length vc)
    have M9 := dH I9.owm
    have CQ := dH fun W' (hb' : Below (wr.setCell ⟨b, 3, none⟩ (.slice va (sk list.length).length vc)).heap.size (wr.setCell ⟨b, 3, none⟩ (.slice va (sk list.length).length vc)) W') => dU CA (by first | rfl | trivial) W' (B9.trans (hb'.mono (by have := hb.size; rw [World.size_setCell]; omega))) _ (dU RD _ _ _ _ (I9.owm.below hb'))
    have PP : Hid (∀ W', Below (wr.setCell ⟨b, 3, none⟩ (.slice va (sk list.length).length vc)).heap.size (wr.setCell ⟨b, 3, none⟩ (.slice va (sk list.length).length vc)) W' → (W'.cell? ⟨b, 0, none⟩ = some (.int .i64 f0) ∧ W'.cell? ⟨b, 1, none⟩ = some (.int .i64 f1) ∧ W'.cell? ⟨b, 2, none⟩ = some (.slice pa pl.length pc) ∧ W'.cell? ⟨b, 3, none⟩ = some (.slice va (sk list.length).length vc) ∧ W'.cell? ⟨b, 4, none⟩ = some (.bool false) ∧ W'.cell? ⟨b, 5, none⟩ = some wv) ∧ W'.cell? ⟨W.heap.size, 0, none⟩ = some (.slice ca ds.length cc) ∧ W'.cell? ⟨W.heap.size, 1, none⟩ = some (.int .i64 cop)) := fun W' h' => ⟨⟨((O9.below h').2 0 _ rfl).1, ((O9.below h').2 1 _ rfl).1, ((O9.below h').2 2 _ rfl).1, ((O9.below h').2 3 _ rfl).1, ((O9.below h').2 4 _ rfl).1, ((O9.below h').2 5 _ rfl).1⟩, ((K9.below h').2 0 _ rfl).1, ((K9.below h').2 1 _ rfl).1⟩
    have O9' := dH O9
    have szW : (wr.setCell ⟨b, 3, none⟩ (.slice va (sk list.length).length vc)).heap.size = wr.heap.size := by simp
    clear hIk hOk hKk Ik Ok I9 O9 K9 hFk hTk CA RD
    go_wp2_with fail
    generalize wr.setCell ⟨b, 3, none⟩ (.slice va (sk list.length).length vc) = w4 at *
    clear z3 h3
    have py := dU PP w4 (Below.refl _ _)
    have bd : Below w4.heap.size w4 w4.drew := (Below.refl _ _).drew
    have pz := dU PP _ bd
    refine wp_region_noPanic ?_
    refine wp_region_held_drew (S := fun W' => (W'.cell? ⟨b, 0, none⟩ = some (.int .i64 f0) ∧ W'.cell? ⟨b, 1, none⟩ = some (.int .i64 f1) ∧ W'.cell? ⟨b, 2, none⟩ = some (.slice pa pl.length pc) ∧ W'.cell? ⟨b, 3, none⟩ = some (.slice va (sk list.length).length vc) ∧ W'.cell? ⟨b, 4, none⟩ = some (.bool false) ∧ W'.cell? ⟨b, 5, none⟩ = some wv) ∧ W'.cell? ⟨W.heap.size, 0, none⟩ = some (.slice ca ds.length cc) ∧ W'.cell? ⟨W.heap.size, 1, none⟩ = some (.int .i64 cop)) (by kernel_rfl) (by first | exact pd | exact pz | exact py | go_keep) (fun hHeld => ?_)
    refine tY 0 (v := ?_) rfl (by kernel_rfl) (.inl ⟨by rfl, ?_⟩) ‹_› ?_
    rotate_left 1
    ·intro w hSw
     (try dsimp only at hSw)
     first | (go_simp; done) | (go_simp; with_reducible rfl)
    try simp only [Act.put, sA, sB, sC]
    refine tY 1 (v := ?_) rfl (by kernel_rfl) (.inl ⟨by rfl, ?_⟩) ‹_› ?_
    rotate_left 1
    ·intro w hSw
     (try dsimp only at hSw)
     first | (go_simp; done) | (go_simp; with_reducible rfl)
    try simp only [Act.put, sA, sB, sC]
    refine tY 2 (v := ?_) rfl (by kernel_rfl) (.inl ⟨by rfl, ?_⟩) ‹_› ?_
    rotate_left 1
    ·intro w hSw
     (try dsimp only at hSw)
     first | (go_simp; done) | (go_simp; with_reducible rfl)
    try simp only [Act.put, sA, sB, sC]
    refine tY 3 (v := ?_) rfl (by kernel_rfl) (.inl ⟨by rfl, ?_⟩) ‹_› ?_
    rotate_left 1
    ·intro w hSw
     (try dsimp only at hSw)
     first | (go_simp; done) | (go_simp; with_reducible rfl)
    try simp only [Act.put, sA, sB, sC]
    refine wpAnyH_ready (rs := [4]) (by kernel_rfl) (by simp) ?_
    refine rC rfl (fun K hK => ?_) AllReadyH.nil
    go_simp
    refine (dU CQ _ bd).mono ?_
    rintro e w6 ⟨⟨b6, rfl, h6⟩, bl6⟩
    have b46 := bT bd bl6
    have pd := dU PP _ b46
    (try go_wp2_with fail)
    refine hK.out _ _ (by first | exact pd | exact pz | exact py | go_keep) (fun hHeld => ?_)
    clear hK K
    try simp only [Act.put, sA, sB, sC]
    refine tY 5 (v := ?_) rfl (by kernel_rfl) (.inl ⟨by rfl, ?_⟩) ‹_› ?_
    rotate_left 1
    ·intro w hSw
     (try dsimp only at hSw)
     first | (go_simp; done) | (go_simp; with_reducible rfl)
    try simp only [Act.put, sA, sB, sC]
    refine wpAnyH_done (by kernel_rfl) ?_ _
    refine NoPanic.normal ?_
    have s46 := b46.size
    have hlz := hb.size
    have B6 := B9.trans (b46.mono (by omega))
    have M6 := dH ((dU M9).belowW b46 s46)
    have O6 := dH ((dU O9').below b46)
    have H6 := dH h6
    clear pd py pz PP CQ M9 O9' h6
    go_wp2_with fail
    cases b6 with
    | false => exact dU Q0 _ (fun h => by have := (dU H6).2 ((dU PA).1 h).2; cases this) B6
    | true => exact dU Q1 _ _ _ ((dU PA).2 ⟨by first | rfl | trivial, (dU H6).1 rfl⟩) B6 (dU O6) (dU M6)
set_option maxHeartbeats 4000000 in
theorem sealF9_any (W : World) (lo b bc bn bt : Nat) (sv ev wv : Value) (ta : Option Addr) (tc : Nat) (qs : List (Nst (List Int))) (ds : List Int) (cop : Int) (ca : Option Addr) (cc : Nat) (node : Int) (list : List Ent) (m : Mn) (hP : mnP ds cop m) (hX : BxZ W lo b [.int .i64 m.bye, .int .i64 m.epoch, sv, ev, .bool m.planned, wv]) (hq : qs.map Nst.m = m.wrote) (hI : ImM W lo sv ev wv qs m.sealed m.seen) (hF : FrM b sv ev wv qs m.sealed) (hlo : lo ≤ W.heap.size) (hN : ∀ W', Below lo W W' → Ns W' (.slice ca ds.length cc) ds) (hLv : ∀ W', Below lo W W' → RdEntryS (.slice ta list.length tc) list W') (had : allInt ds) (okx : okInt node) (okm : okMend m) (hfl : fitE list) (hld : ds.length ≤ 1048576) (hll : list.length ≤ 1048576) (hs : sizMend m ≤ 1048576) (c0 : -9223372036854775808 ≤ cop) (c1 : cop ≤ 9223372036854775807)
  (k0 : W.cell? ⟨bc, 0, none⟩ = some (.slice ca ds.length cc)) (k1 : W.cell? ⟨bc, 1, none⟩ = some (.int .i64 cop)) (k2 : W.cell? ⟨bn, 0, none⟩ = some (.int .i64 node)) (k3 : W.cell? ⟨bt, 0, none⟩ = some (.slice ta list.length tc)) :
  Calls Tryz.prog 30 #[.pointer (some ⟨b, 0, none⟩), .pointer (some ⟨bc, 0, none⟩), .pointer (some ⟨bn, 0, none⟩), .pointer (some ⟨bt, 0, none⟩)] W (SealQ W lo b wv qs ds cop node list m) := by
 have CA := dH (mseal9_any W lo b sv ev wv _ qs ds cop ca cc node list m hP hX hq hI hF hlo hN hLv had okx okm hfl hld hll hs c0 c1)
 have HE : Hid (∀ e w', SealQ W lo b wv qs ds cop node list m e w' → ∃ ok, e = .returned (.bool ok)) := fun e w' ⟨ok, _, h, _⟩ => ⟨ok, h⟩
 generalize SealQ W lo b wv qs ds cop node list m = QQ at *
 clear hP hX hq hI hF hN hLv had okx okm hfl hs
 go_enter Tryz.func30, Tryz.ntmps30
 go_wp2_with fail
 refine (dU CA).mono ?_
 intro e w5 h5
 obtain ⟨ok, rfl⟩ := dU HE _ _ h5
 clear CA HE k0 k1 k2 k3
 go_wp2_with fail
 exact h5
set_option maxHeartbeats 8000000 in
theorem implSeal9_any (cv v : Value) (c : List Int × Int) (m : Mn) (node : Int) (lv : Value) (list : List Ent) (w : World) (hc : RdConfig cv c w) (hv : RdMend v m w) (hlv : RdEntryS lv list w) (okx : okInt node) (hfl : fitE list) (hll : list.length ≤ 1048576) (okc : okConfig c) (okm : okMend m) (hsc : sizConfig c ≤ 1048576) (hs : sizMend m ≤ 1048576) :
  Calls Tryz.prog 8 #[cv, v, .int .i64 node, lv] w fun e w' => (∃ u, e = .returned (.tuple #[u, .bool (seal9M c.1 c.2 m node list).2]) ∧ OwMend w.heap.size w'.heap.size u (seal9M c.1 c.2 m node list).1 w') ∧ Below w.heap.size w w' := by
 have ba : ∀ (w : World) o, Below w.heap.size w (w.alloc o) := fun w o => (Below.refl _ _).alloc (Nat.le_refl _) o
 obtain ⟨ds, cop⟩ := c
 obtain ⟨cs, rfl, hcn⟩ := id hc
 obtain ⟨-, ca, cc, rfl, -, -⟩ := id hcn
 have hdl : ds.length ≤ 1048576 := hsc
 obtain ⟨ta, tc, rfl, -⟩ := formEntryS (id hlv)
 have CC : Hid (∀ W b0 b1 b2, Below w.heap.size w W → Bx W b0 [.slice ca ds.length cc, .int .i64 cop] → Bx W b1 [.int .i64 node] → Bx W b2 [.slice ta list.length tc] → Calls Tryz.prog 29 #[v, .agg #[.slice ca ds.length cc, .int .i64 cop], .func (.func 30) #[] #[.pointer (some ⟨b0, 0, none⟩), .pointer (some ⟨b1, 0, none⟩), .pointer (some ⟨b2, 0, none⟩)]] W fun e w' => (∃ u, e = .returned (.tuple #[u, .bool (seal9M ds cop m node list).2]) ∧ OwMend W.heap.size w'.heap.size u (seal9M ds cop m node list).1 w') ∧ Below W.heap.size W w') := fun W b0 b1 b2 hb k0 k1 k2 =>
  changed9_any _ v (ds, cop) m 30 #[.pointer (some ⟨b0, 0, none⟩), .pointer (some ⟨b1, 0, none⟩), .pointer (some ⟨b2, 0, none⟩)] (seal9M ds cop m node list).1 (seal9M ds cop m node list).2 W (hc.below hb) (hv.below hb) okc okm hsc hs Tryz.call30 (fun hn => by rw [seal9M_bad hn]; exact ⟨rfl, rfl⟩) (fun hp hok => by
   by_cases ha : seal9P ds cop m node list
   ·rw [seal9M_yes hp ha] at hok
    cases hok
   ·rw [seal9M_no hp ha]) (fun hp W' lo b sv ev wv qs hB hl1 hl2 hX hq hI hF => by
   have hbB := bT hb hB
   have kN : ∀ V, Below lo W' V → Below w.heap.size w V := fun V hV => hbB.trans (hV.mono (by have := hb.size; omega))
   refine (sealF9_any W' lo b b0 b1 b2 sv ev wv ta tc qs ds cop ca cc node list m hp hX hq hI hF hl2 (fun V hV => hcn.below (kN V hV)) (fun V hV => Rw.below hlv (kN V hV)) okc.1 okx okm hfl hdl hll hs okc.2.1 okc.2.2 ((k0.below hB) 0 _ rfl) ((k0.below hB) 1 _ rfl) ((k1.below hB) 0 _ rfl) ((k2.below hB) 0 _ rfl)).mono ?_
   rintro e w5 ⟨ok, h1, rfl, h2, h3⟩
   by_cases ha : seal9P ds cop m node list
   ·have e1 := h1.2 ha
    subst e1
    rw [seal9M_yes hp ha]
    obtain ⟨sv', ev', q1, q3⟩ := h3 rfl
    exact ⟨rfl, h2, fun _ => ⟨sv', ev', wv, qs, q1, hq, q3⟩⟩
   ·have e1 : ok = false := by
     cases ok
     ·rfl
     ·exact absurd (h1.1 rfl) ha
    subst e1
    rw [seal9M_no hp ha]
    exact ⟨rfl, h2, fun h => by cases h⟩)
 simp only
 generalize seal9M ds cop m node list = AM at *
 obtain ⟨R, ok⟩ := AM
 simp only at *
 obtain ⟨sa, sc, ea, ec, wa, wz, rfl, hl1, hl2, hl3⟩ := formMend hv
 have HPt := dH fun (lo hi : Nat) (u : Value) (W : World) (h : OwMend lo hi u R W) => h.parts
 have HMe := dH fun (lo hi : Nat) (sv ev wv : Value) rs (W : World) (h : OwM lo hi sv ev wv rs R.sealed R.seen W) (e : rs.map Nst.m = R.wrote) => h.mend e
 clear hv hc hcn okc okm hs hsc hlv okx hfl
 generalize m.bye = f0 at *
 generalize m.epoch = f1 at *
 generalize m.planned = f4 at *
 generalize m.sealed = ss at *
 generalize m.seen = es at *
 generalize m.wrote = ws at *
 have B0 := (bT (bT (bT (bT (ba w (.cells #[.slice ca ds.length cc, .int .i64 cop] 26)) (ba _ (.cells #[.int .i64 f0, .int .i64 f1, .slice sa ss.length sc, .slice ea es.length ec, .bool f4, .slice wa ws.length wz] 30))) (ba _ (.cells #[.int .i64 node] 3))) (ba _ (.cells #[.slice ta list.length tc] 27))) (ba _ (.cells #[.int .i64 0, .int .i64 0, .slice none 0 0, .slice none 0 0, .bool false, .slice none 0 0] 30)))
 have X0 := dH ((Bx.new w [.slice ca ds.length cc, .int .i64 cop] 26).below (bT (bT (bT (ba _ (.cells #[.int .i64 f0, .int .i64 f1, .slice sa ss.length sc, .slice ea es.length ec, .bool f4, .slice wa ws.length wz] 30)) (ba _ (.cells #[.int .i64 node] 3))) (ba _ (.cells #[.slice ta list.length tc] 27))) (ba _ (.cells #[.int .i64 0, .int .i64 0, .slice none 0 0, .slice none 0 0, .bool false, .slice none 0 0] 30))))
 have X1 := (Bx.new ((w.alloc (.cells #[.slice ca ds.length cc, .int .i64 cop] 26)).alloc (.cells #[.int .i64 f0, .int .i64 f1, .slice sa ss.length sc, .slice ea es.length ec, .bool f4, .slice wa ws.length wz] 30)) [.int .i64 node] 3).below (bT (ba _ (.cells #[.slice ta list.length tc] 27)) (ba _ (.cells #[.int .i64 0, .int .i64 0, .slice none 0 0, .slice none 0 0, .bool false, .slice none 0 0] 30)))
 rw [show ((w.alloc (.cells #[.slice ca ds.length cc, .int .i64 cop] 26)).alloc (.cells #[.int .i64 f0, .int .i64 f1, .slice sa ss.length sc, .slice ea es.length ec, .bool f4, .slice wa ws.length wz] 30)).heap.size = w.heap.size + 1 + 1 from by simp] at X1
 replace X1 := dH X1
 have X2 := (Bx.new (((w.alloc (.cells #[.slice ca ds.length cc, .int .i64 cop] 26)).alloc (.cells #[.int .i64 f0, .int .i64 f1, .slice sa ss.length sc, .slice ea es.length ec, .bool f4, .slice wa ws.length wz] 30)).alloc (.cells #[.int .i64 node] 3)) [.slice ta list.length tc] 27).below (ba _ (.cells #[.int .i64 0, .int .i64 0, .slice none 0 0, .slice none 0 0, .bool false, .slice none 0 0] 30))
 rw [show (((w.alloc (.cells #[.slice ca ds.length cc, .int .i64 cop] 26)).alloc (.cells #[.int .i64 f0, .int .i64 f1, .slice sa ss.length sc, .slice ea es.length ec, .bool f4, .slice wa ws.length wz] 30)).alloc (.cells #[.int .i64 node] 3)).heap.size = w.heap.size + 1 + 1 + 1 from by simp] at X2
 replace X2 := dH X2
 have Z0 := BxZ.new (B := w.heap.size) ((((w.alloc (.cells #[.slice ca ds.length cc, .int .i64 cop] 26)).alloc (.cells #[.int .i64 f0, .int .i64 f1, .slice sa ss.length sc, .slice ea es.length ec, .bool f4, .slice wa ws.length wz] 30)).alloc (.cells #[.int .i64 node] 3)).alloc (.cells #[.slice ta list.length tc] 27)) [.int .i64 0, .int .i64 0, .slice none 0 0, .slice none 0 0, .bool false, .slice none 0 0] 30 (by simp <;> omega)
 rw [show ((((w.alloc (.cells #[.slice ca ds.length cc, .int .i64 cop] 26)).alloc (.cells #[.int .i64 f0, .int .i64 f1, .slice sa ss.length sc, .slice ea es.length ec, .bool f4, .slice wa ws.length wz] 30)).alloc (.cells #[.int .i64 node] 3)).alloc (.cells #[.slice ta list.length tc] 27)).heap.size = w.heap.size + 1 + 1 + 1 + 1 from by simp] at Z0
 replace Z0 := dH Z0
 have hsz0 : Hid (w.heap.size + 1 + 1 + 1 + 1 + 1 = (((((w.alloc (.cells #[.slice ca ds.length cc, .int .i64 cop] 26)).alloc (.cells #[.int .i64 f0, .int .i64 f1, .slice sa ss.length sc, .slice ea es.length ec, .bool f4, .slice wa ws.length wz] 30)).alloc (.cells #[.int .i64 node] 3)).alloc (.cells #[.slice ta list.length tc] 27)).alloc (.cells #[.int .i64 0, .int .i64 0, .slice none 0 0, .slice none 0 0, .bool false, .slice none 0 0] 30)).heap.size) := by simp [Hid]
 go_enter Tryz.func8, Tryz.ntmps8
 go_wp2_with fail
 generalize (((((w.alloc (.cells #[.slice ca ds.length cc, .int .i64 cop] 26)).alloc (.cells #[.int .i64 f0, .int .i64 f1, .slice sa ss.length sc, .slice ea es.length ec, .bool f4, .slice wa ws.length wz] 30)).alloc (.cells #[.int .i64 node] 3)).alloc (.cells #[.slice ta list.length tc] 27)).alloc (.cells #[.int .i64 0, .int .i64 0, .slice none 0 0, .slice none 0 0, .bool false, .slice none 0 0] 30)) = w0 at *
 have hs0 := dU hsz0
 refine (dU CC w0 (w.heap.size) (w.heap.size + 1 + 1) (w.heap.size + 1 + 1 + 1) B0 (dU X0) (dU X1) (dU X2)).mono ?_
 rintro e w1 ⟨⟨u1, rfl, N1⟩, b1⟩
 obtain ⟨ua, uc, va, vc, oa, oc, rs, rfl, hrs, M1⟩ := dU HPt _ _ _ _ N1
 have BB := bT B0 b1
 have RB := (dU Z0).below b1
 have s1 := b1.size
 clear CC X0 X1 X2 Z0 B0 b1 N1 HPt
 have hVz : w1.heap.size = ((((((w1.setCell ⟨w.heap.size + 1 + 1 + 1 + 1, 0, none⟩ (.int .i64 R.bye)).setCell ⟨w.heap.size + 1 + 1 + 1 + 1, 1, none⟩ (.int .i64 R.epoch)).setCell ⟨w.heap.size + 1 + 1 + 1 + 1, 2, none⟩ (.slice ua R.sealed.length uc)).setCell ⟨w.heap.size + 1 + 1 + 1 + 1, 3, none⟩ (.slice va R.seen.length vc)).setCell ⟨w.heap.size + 1 + 1 + 1 + 1, 4, none⟩ (.bool R.planned)).setCell ⟨w.heap.size + 1 + 1 + 1 + 1, 5, none⟩ (.slice oa R.wrote.length oc)).heap.size := by simp
 obtain ⟨z0, g0⟩ := RB.2 0 _ rfl
 obtain ⟨z1, g1⟩ := RB.2 1 _ rfl
 obtain ⟨z2, g2⟩ := RB.2 2 _ rfl
 obtain ⟨z3, g3⟩ := RB.2 3 _ rfl
 obtain ⟨z4, g4⟩ := RB.2 4 _ rfl
 obtain ⟨z5, g5⟩ := RB.2 5 _ rfl
 have YY := dH ((((((RB.put 0 (.int .i64 R.bye)).put 1 (.int .i64 R.epoch)).put 2 (.slice ua R.sealed.length uc)).put 3 (.slice va R.seen.length vc)).put 4 (.bool R.planned)).put 5 (.slice oa R.wrote.length oc))
 have BF := dH ((((((BB.setCell (p := ⟨w.heap.size + 1 + 1 + 1 + 1, 0, none⟩) (by simp only; omega) (.int .i64 R.bye)).setCell (p := ⟨w.heap.size + 1 + 1 + 1 + 1, 1, none⟩) (by simp only; omega) (.int .i64 R.epoch)).setCell (p := ⟨w.heap.size + 1 + 1 + 1 + 1, 2, none⟩) (by simp only; omega) (.slice ua R.sealed.length uc)).setCell (p := ⟨w.heap.size + 1 + 1 + 1 + 1, 3, none⟩) (by simp only; omega) (.slice va R.seen.length vc)).setCell (p := ⟨w.heap.size + 1 + 1 + 1 + 1, 4, none⟩) (by simp only; omega) (.bool R.planned)).setCell (p := ⟨w.heap.size + 1 + 1 + 1 + 1, 5, none⟩) (by simp only; omega) (.slice oa R.wrote.length oc))
 have MF := dH ((((((M1.far (b := w.heap.size + 1 + 1 + 1 + 1) (o := 0) (.inl (by omega)) (.int .i64 R.bye)).far (b := w.heap.size + 1 + 1 + 1 + 1) (o := 1) (.inl (by omega)) (.int .i64 R.epoch)).far (b := w.heap.size + 1 + 1 + 1 + 1) (o := 2) (.inl (by omega)) (.slice ua R.sealed.length uc)).far (b := w.heap.size + 1 + 1 + 1 + 1) (o := 3) (.inl (by omega)) (.slice va R.seen.length vc)).far (b := w.heap.size + 1 + 1 + 1 + 1) (o := 4) (.inl (by omega)) (.bool R.planned)).far (b := w.heap.size + 1 + 1 + 1 + 1) (o := 5) (.inl (by omega)) (.slice oa R.wrote.length oc))
 clear RB BB M1
 go_wp2_with fail
 generalize ((((((w1.setCell ⟨w.heap.size + 1 + 1 + 1 + 1, 0, none⟩ (.int .i64 R.bye)).setCell ⟨w.heap.size + 1 + 1 + 1 + 1, 1, none⟩ (.int .i64 R.epoch)).setCell ⟨w.heap.size + 1 + 1 + 1 + 1, 2, none⟩ (.slice ua R.sealed.length uc)).setCell ⟨w.heap.size + 1 + 1 + 1 + 1, 3, none⟩ (.slice va R.seen.length vc)).setCell ⟨w.heap.size + 1 + 1 + 1 + 1, 4, none⟩ (.bool R.planned)).setCell ⟨w.heap.size + 1 + 1 + 1 + 1, 5, none⟩ (.slice oa R.wrote.length oc)) = V at *
 have q0 := ((dU YY).2 0 _ rfl).1
 have q1 := ((dU YY).2 1 _ rfl).1
 have q2 := ((dU YY).2 2 _ rfl).1
 have q3 := ((dU YY).2 3 _ rfl).1
 have q4 := ((dU YY).2 4 _ rfl).1
 have q5 := ((dU YY).2 5 _ rfl).1
 refine bodyPost_ret (v := .tuple #[.agg #[.int .i64 R.bye, .int .i64 R.epoch, .slice ua R.sealed.length uc, .slice va R.seen.length vc, .bool R.planned, .slice oa R.wrote.length oc], .bool ok]) (by simp [results, Tryz.results8, go_sem, q0, q1, q2, q3, q4, q5]) rfl ⟨⟨_, rfl, dU HMe _ _ _ _ _ rs V ((dU MF).wide (by omega) (by omega)) hrs⟩, dU BF⟩
end Go.Proofs.YtjkjmapibcfcdaaGreat
