/- Mends drawn: DrawMendReady (printed by tools/mkmdg.py). -/
import Derived.Test.YtapfdmmfhfkhkaaMdE
import Derived.Deep.RegionLaw
import Derived.Deep.RegionHeld3
import Derived.Deep.DeepCutAuto
namespace Go.Proofs.Ytapfdmmfhfkhkaa
open Go.ChangeShapes Go.WideShapes Go.ChangeAt Go.RowKit
set_option linter.unusedVariables false
set_option linter.unusedSimpArgs false
set_option maxRecDepth 100000

theorem clG_ltL {p : Nst (List Int)} {j : Nat} {u : Value} (h : (lsCl p)[j]? = some u) : j < 1 := by
 rcases Nat.lt_or_ge j 1 with h' | h'
 ·exact h'
 ·rw [List.getElem?_eq_none (by rw [lsCl_len]; exact h')] at h
  cases h
section
variable {W W' : World} {lo bk b o wc : Nat} {v : Value}
theorem OwnN.setS {xs : List Int} {a : Option Addr} {n c : Nat} (h : OwnN W lo v xs) (hc : W.cell? ⟨b, o, none⟩ = some (.slice a n c)) (u : Value) : OwnN (W.setCell ⟨b, o, none⟩ u) lo v xs := by
 obtain ⟨h0, a', cap, rfl, hcap, h⟩ := h
 refine ⟨h0, a', cap, rfl, hcap, ?_⟩
 rcases h with h | ⟨b', off, rfl, hb, hcs⟩
 ·exact .inl h
 ·refine .inr ⟨b', off, rfl, hb, fun i hi => ⟨set_other (hcs i hi).1 ?_, (World.frozen?_setCell _ _ _ _).trans (hcs i hi).2⟩⟩
  by_cases e : b' = b
  ·right
   intro e2
   have := (hcs i hi).1
   rw [e, e2, hc] at this
   cases this
  ·exact .inl e
theorem OwnE.setS {es : List Ent} {a : Option Addr} {n c : Nat} (h : OwnRw 4 Ent.cl W lo v es) (hc : W.cell? ⟨b, o, none⟩ = some (.slice a n c)) (u : Value) : OwnRw 4 Ent.cl (W.setCell ⟨b, o, none⟩ u) lo v es := by
 obtain ⟨h0, a', cap, rfl, hcap, h⟩ := h
 refine ⟨h0, a', cap, rfl, hcap, ?_⟩
 rcases h with h | ⟨b', off, rfl, hb, hcs⟩
 ·exact .inl h
 ·refine .inr ⟨b', off, rfl, hb, fun i hi j u' hu => ⟨set_other (hcs i hi j u' hu).1 ?_, (World.frozen?_setCell _ _ _ _).trans (hcs i hi j u' hu).2⟩⟩
  by_cases e : b' = b
  ·right
   intro e2
   have q := (hcs i hi j u' hu).1
   rw [e, e2, hc] at q
   have q2 := Option.some.inj q
   subst q2
   have hm := List.mem_of_getElem? hu
   simp [Ent.cl] at hm
  ·exact .inl e
theorem OwnRw.drawnZ {α : Type} {sz : Nat} {cl : α → List Value} {ms : List α} (h : OwnRw sz cl W lo v ms) (hd : Drawn bk W W') (hb : bk < lo) : OwnRw sz cl W' lo v ms := by
 obtain ⟨h0, a', cap, rfl, hcap, h⟩ := h
 refine ⟨h0, a', cap, rfl, hcap, ?_⟩
 rcases h with h | ⟨b', off, rfl, hbb, hcs⟩
 ·exact .inl h
 ·exact .inr ⟨b', off, rfl, hbb, fun i hi j u hu => ⟨hd.cell (hcs i hi j u hu).1 (by omega), (hd.frozen (by omega) (dCell_lt (hcs i hi j u hu).1)).trans (hcs i hi j u hu).2⟩⟩
structure MR (W : World) (lo : Nat) (sv ev wv : Value) (ss : List Int) (es : List Ent) (rs : List (Nst (List Int))) : Prop where
 sealed : OwnN W lo sv ss
 seen : OwnRw 4 Ent.cl W lo ev es
 row : OwnRw 1 lsCl W lo wv rs
 each : ∀ p ∈ rs, OwnN W lo (Sv idL p) p.m
variable {sv ev wv : Value} {ss : List Int} {es : List Ent} {rs : List (Nst (List Int))}
theorem MR.below (h : MR W lo sv ev wv ss es rs) (hb : Below W.heap.size W W') : MR W' lo sv ev wv ss es rs := ⟨h.sealed.below hb, h.seen.below hb, h.row.below hb, fun p hp => (h.each p hp).below hb⟩
theorem MR.drawn (h : MR W lo sv ev wv ss es rs) (hd : Drawn bk W W') (hb : bk < lo) : MR W' lo sv ev wv ss es rs := ⟨h.sealed.drawn hd hb, h.seen.drawnZ hd hb, h.row.drawnZ hd hb, fun p hp => (h.each p hp).drawn hd hb⟩
theorem MR.far (h : MR W lo sv ev wv ss es rs) (hb : b < lo) (u : Value) : MR (W.setCell ⟨b, o, none⟩ u) lo sv ev wv ss es rs := ⟨h.sealed.far hb u, h.seen.farE hb u, by
 obtain ⟨h0, a', cap, rfl, hcap, q⟩ := h.row
 refine ⟨h0, a', cap, rfl, hcap, ?_⟩
 rcases q with q | ⟨b', off, rfl, hbb, hcs⟩
 ·exact .inl q
 ·exact .inr ⟨b', off, rfl, hbb, fun i hi j u' hu => ⟨set_other (hcs i hi j u' hu).1 (.inl (by omega)), (World.frozen?_setCell _ _ _ _).trans (hcs i hi j u' hu).2⟩⟩, fun p hp => (h.each p hp).far hb u⟩
theorem MR.at (h : MR W lo sv ev wv ss es rs) {k : Nat} (hk : k < rs.length) : ∃ rb ro n c, wv = .slice (some ⟨rb, ro, none⟩) n c ∧ lo ≤ rb ∧ ∀ i (hi : i < rs.length), W.cell? ⟨rb, ro + i, none⟩ = some (.slice rs[i].a rs[i].m.length rs[i].c) ∧ W.frozen? ⟨rb, ro + i, none⟩ = false := by
 obtain ⟨h0, a', cap, rfl, hcap, q⟩ := h.row
 rcases q with q | ⟨b', off, rfl, hbb, hcs⟩
 ·rw [q] at hk; simp at hk
 ·exact ⟨b', off, _, _, rfl, hbb, fun i hi => by simpa using hcs i hi 0 _ rfl⟩
theorem MR.told (h : MR W lo sv ev (.slice (some ⟨b, o, none⟩) rs.length wc) ss es rs) {k : Nat} (hk : k < rs.length) (hc : ∀ i (hi : i < rs.length), W.cell? ⟨b, o + i, none⟩ = some (.slice rs[i].a rs[i].m.length rs[i].c) ∧ W.frozen? ⟨b, o + i, none⟩ = false) (p : Nst (List Int)) (hp : OwnN W lo (Sv idL p) p.m) : MR (W.setCell ⟨b, o + k, none⟩ (.slice p.a p.m.length p.c)) lo sv ev (.slice (some ⟨b, o, none⟩) (rs.set k p).length wc) ss es (rs.set k p) := by
 have ck := (hc k hk).1
 refine ⟨h.sealed.setS ck _, OwnE.setS h.seen ck _, ?_, fun q hq => ?_⟩
 ·obtain ⟨h0, a', cap, e, hcap, q⟩ := h.row
  simp only [Value.slice.injEq] at e
  obtain ⟨rfl, -, rfl⟩ := e
  refine ⟨by simpa using h0, _, _, rfl, by simpa using hcap, ?_⟩
  rcases q with q | ⟨b', off, e, hbb, hcs⟩
  ·rw [q] at hk; simp at hk
  ·simp only [Option.some.injEq, Addr.mk.injEq] at e
   obtain ⟨rfl, rfl, -⟩ := e
   refine .inr ⟨_, _, rfl, hbb, fun i hi j u hu => ?_⟩
   have hi2 : i < rs.length := by simpa using hi
   have hj : j = 0 := by
    have := clG_ltL hu
    omega
   subst hj
   rw [List.getElem_set] at hu
   by_cases e : k = i
   ·subst e
    rw [if_pos rfl] at hu
    simp [lsCl] at hu
    subst hu
    simpa using (show (W.setCell ⟨b, o + k, none⟩ (.slice p.a p.m.length p.c)).cell? ⟨b, o + k, none⟩ = some (.slice p.a p.m.length p.c) ∧ (W.setCell ⟨b, o + k, none⟩ (.slice p.a p.m.length p.c)).frozen? ⟨b, o + k, none⟩ = false from ⟨World.cell?_setCell_same _ _ _ ck, (World.frozen?_setCell _ _ _ _).trans (hc k hk).2⟩)
   ·rw [if_neg e] at hu
    obtain ⟨q1, q2⟩ := hcs i hi2 0 u hu
    exact ⟨set_other q1 (.inr (by omega)), (World.frozen?_setCell _ _ _ _).trans q2⟩
 ·rcases List.mem_or_eq_of_mem_set hq with hq | rfl
  ·exact (h.each q hq).setS ck _
  ·exact hp.setS ck _
theorem MR.at2 {rb ro n c : Nat} (h : MR W lo sv ev (.slice (some ⟨rb, ro, none⟩) n c) ss es rs) : ∀ i (hi : i < rs.length), W.cell? ⟨rb, ro + i, none⟩ = some (.slice rs[i].a rs[i].m.length rs[i].c) ∧ W.frozen? ⟨rb, ro + i, none⟩ = false := fun i hi => by
 obtain ⟨rb', ro', n', c', e, -, hc⟩ := h.at hi
 simp only [Value.slice.injEq, Option.some.injEq, Addr.mk.injEq] at e
 obtain ⟨⟨rfl, rfl, -⟩, -, -⟩ := e
 exact hc i hi
end
theorem Bx.farX {w : World} {b b' o : Nat} {vs : List Value} (h : Bx w b vs) (hb : b ≠ b') (u : Value) : Bx (w.setCell ⟨b', o, none⟩ u) b vs := fun i v hv => set_other (h i v hv) (.inl hb)
def RF (rs : List (Nst (List Int))) : Prop := ∀ p ∈ rs, p.m.length ≤ 21 ∧ allInt p.m
theorem RF.set {rs : List (Nst (List Int))} {k : Nat} {p : Nst (List Int)} (h : RF rs) (hp : p.m.length ≤ 21 ∧ allInt p.m) : RF (rs.set k p) := fun q hq => by
 rcases List.mem_or_eq_of_mem_set hq with hq | rfl
 ·exact h q hq
 ·exact hp
def upTo (k : Nat) : List Int := (List.range k).map fun i => ((i : Nat) : Int)
theorem upTo_len (k : Nat) : (upTo k).length = k := by simp [upTo]
theorem upTo_succ (k : Nat) : upTo (k + 1) = upTo k ++ [((k : Nat) : Int)] := by simp [upTo, List.range_succ]
theorem upTo_int {k : Nat} (h : k ≤ 1000) : allInt (upTo k) := fun x hx => by
 unfold upTo at hx
 obtain ⟨i, hi, rfl⟩ := List.mem_map.1 hx
 have := List.mem_range.1 hi
 omega
def DrawRy (w : World) (e : Ending) (w' : World) : Prop := ∃ (m : Mn) (q : Pm) (ca : Option Addr) (cc : Nat) (ds : List Int) (cop : Int), e = .returned (.tuple #[.agg #[.slice ca ds.length cc, .int .i64 cop], .agg #[.int .i64 m.bye, .int .i64 m.epoch, .slice q.sa m.sealed.length q.sc, .slice q.ea m.seen.length q.ec, .bool m.planned, .slice q.wa m.wrote.length q.wc]]) ∧ Ns w' (.slice ca ds.length cc) ds ∧ RdMend (.agg #[.int .i64 m.bye, .int .i64 m.epoch, .slice q.sa m.sealed.length q.sc, .slice q.ea m.seen.length q.ec, .bool m.planned, .slice q.wa m.wrote.length q.wc]) m w' ∧ fitN m ∧ (ds.length ≤ 9 ∧ allInt ds ∧ 0 ≤ cop ∧ cop ≤ 5) ∧ Below w.heap.size w w'
theorem DrawRy.mk {w W : World} {lo : Nat} {m : Mn} {q : Pm} {ca : Option Addr} {cc : Nat} {ds : List Int} {cop : Int} {rs : List (Nst (List Int))} (hc : OwnN W lo (.slice ca ds.length cc) ds) (hm : MR W lo (.slice q.sa m.sealed.length q.sc) (.slice q.ea m.seen.length q.ec) (.slice q.wa rs.length q.wc) m.sealed m.seen rs) (hf : fitN m) (hr : RF rs) (hl : rs.length = m.wrote.length) (hd : ds.length ≤ 9 ∧ allInt ds ∧ 0 ≤ cop ∧ cop ≤ 5) (bel : Below w.heap.size w W) : DrawRy w (.returned (.tuple #[.agg #[.slice ca ds.length cc, .int .i64 cop], .agg #[.int .i64 m.bye, .int .i64 m.epoch, .slice q.sa m.sealed.length q.sc, .slice q.ea m.seen.length q.ec, .bool m.planned, .slice q.wa m.wrote.length q.wc]])) W := by
 refine ⟨⟨m.bye, m.epoch, m.sealed, m.seen, m.planned, rs.map Nst.m⟩, q, ca, cc, ds, cop, ?_, hc.bs, ?_, ?_, hd, bel⟩
 ·simp only [List.length_map, hl]
 ·refine ⟨_, _, _, rfl, hm.sealed.bs, OwnRw.rw hm.seen, rs, rfl, ?_, fun p hp => (hm.each p hp).bs⟩
  simp only [List.length_map]
  exact OwnRw.rw hm.row
 ·obtain ⟨⟨k1, k2, k3, k4, k5⟩, h1, h2, h3, h4⟩ := hf
  refine ⟨⟨k1, k2, k3, k4, fun l hl' => ?_⟩, h1, h2, ?_, fun l hl' => ?_⟩
  ·obtain ⟨p, hp, rfl⟩ := List.mem_map.1 hl'
   exact (hr p hp).2
  ·simp only [List.length_map]; omega
  ·obtain ⟨p, hp, rfl⟩ := List.mem_map.1 hl'
   exact (hr p hp).1
set_option maxHeartbeats 16000000 in
theorem drawMendReady_any (a : Option Addr) (len cap : Nat) (w : World) (hr : Row8 w a len) :
  Calls Try.prog 7 #[.slice a len cap] w (DrawRy w) := by
 have ba : ∀ (w : World) o, Below w.heap.size w (w.alloc o) := fun w o => (Below.refl _ _).alloc (Nat.le_refl _) o
 have b0 := belowThen (ba w (.cells #[.slice none 0 0, .int .i64 0] 26)) (ba _ (.cells #[.int .i64 0, .int .i64 0, .slice none 0 0, .slice none 0 0, .bool false, .slice none 0 0] 30))
 have Z0 := (BxZ.new (B := w.heap.size) w [.slice none 0 0, .int .i64 0] 26 (Nat.le_refl _)).below (ba _ (.cells #[.int .i64 0, .int .i64 0, .slice none 0 0, .slice none 0 0, .bool false, .slice none 0 0] 30))
 have Y0 := BxZ.new (B := w.heap.size) (w.alloc (.cells #[.slice none 0 0, .int .i64 0] 26)) [.int .i64 0, .int .i64 0, .slice none 0 0, .slice none 0 0, .bool false, .slice none 0 0] 30 (by simp)
 rw [show (w.alloc (.cells #[.slice none 0 0, .int .i64 0] 26)).heap.size = w.heap.size + 1 from by simp] at Y0
 have e0 : Hid (((w.alloc (.cells #[.slice none 0 0, .int .i64 0] 26)).alloc (.cells #[.int .i64 0, .int .i64 0, .slice none 0 0, .slice none 0 0, .bool false, .slice none 0 0] 30)).heap.size = w.heap.size + 2) := by simp [Hid]
 have CO := dHide (l9DrawOne_any a len cap _ (hr.below b0))
 clear hr
 go_enter Try.func7, Try.ntmps7
 go_wp2_with fail
 generalize (w.alloc (.cells #[.slice none 0 0, .int .i64 0] 26)).alloc (.cells #[.int .i64 0, .int .i64 0, .slice none 0 0, .slice none 0 0, .bool false, .slice none 0 0] 30) = w0 at *
 have h0 := dUnhide e0
 refine (dUnhide CO).mono ?_
 rintro e w1 ⟨bk, lo, ca, cc, ds, cop, m, q, rfl, O⟩
 have k1 := O.bkw
 have k2 := O.bkl
 have k3 := O.low
 have bel := O.bel
 have s1 := bel.size
 have hdl := O.len
 obtain ⟨sv, ev, wv, rs, ea', er, o3, o4, o5, -⟩ := O.men
 simp only [Value.agg.injEq, Array.mk.injEq, List.cons.injEq, and_true, true_and] at ea'
 obtain ⟨rfl, rfl, rfl⟩ := ea'
 have hln : rs.length = m.wrote.length := by rw [← er, List.length_map]
 have M1 : MR w1 lo (.slice q.sa m.sealed.length q.sc) (.slice q.ea m.seen.length q.ec) (.slice q.wa m.wrote.length q.wc) m.sealed m.seen rs := ⟨o3.1, o4.1, o5.1, fun p hp => (o5.2.2.1 p hp).1⟩
 have F1 : RF rs := fun p hp => ⟨O.fitm.2.2.2.2 _ (by rw [← er]; exact List.mem_map.2 ⟨p, hp, rfl⟩), O.fitm.1.2.2.2.2 _ (by rw [← er]; exact List.mem_map.2 ⟨p, hp, rfl⟩)⟩
 have HRB : Hid (0 < m.wrote.length → blockOf (.slice q.wa m.wrote.length q.wc) < w1.heap.size) := fun h => o5.2.1.resolve_left (fun e => by rw [e] at hln; simp at hln; omega)
 have C1 := O.cfg
 have K1 := O.cur
 have FIN : Hid (∀ (W : World) (rs' : List (Nst (List Int))), OwnN W lo (.slice ca ds.length cc) ds → MR W lo (.slice q.sa m.sealed.length q.sc) (.slice q.ea m.seen.length q.ec) (.slice q.wa m.wrote.length q.wc) m.sealed m.seen rs' → RF rs' → rs'.length = m.wrote.length → Below w.heap.size w W → DrawRy w (.returned (.tuple #[.agg #[.slice ca ds.length cc, .int .i64 cop], .agg #[.int .i64 m.bye, .int .i64 m.epoch, .slice q.sa m.sealed.length q.sc, .slice q.ea m.seen.length q.ec, .bool m.planned, .slice q.wa m.wrote.length q.wc]])) W) := fun W rs' h1 h2 h3 h4 h5 => DrawRy.mk h1 (by rw [h4]; exact h2) O.fitm h3 h4 ⟨hdl, O.fit.1, O.fit.2.1, O.fit.2.2⟩ h5
 have hwl := O.fitm.2.2.2.1
 have HF1 := dHide F1
 have HLN := dHide hln
 clear CO O o3 o4 o5 er F1 hln
 generalize DrawRy w = Q at *
 obtain ⟨sa, sc, ea, ec, wa, wc⟩ := q
 simp only at *
 generalize m.bye = g0 at *
 generalize m.epoch = g1 at *
 generalize m.planned = g4 at *
 generalize m.sealed = ss at *
 generalize m.seen = es at *
 generalize hnn : m.wrote.length = n at *
 clear hnn
 generalize hsl : ss.length = sl at *
 generalize hel : es.length = el at *
 have bX := ba w1 (.cells #[.slice ca ds.length cc, .int .i64 cop] 26)
 have bM := ba (w1.alloc (.cells #[.slice ca ds.length cc, .int .i64 cop] 26)) (.cells #[.int .i64 g0, .int .i64 g1, .slice sa sl sc, .slice ea el ec, .bool g4, .slice wa n wc] 30)
 have bXM := belowThen bX bM
 have T2 := (Bx.new w1 [.slice ca ds.length cc, .int .i64 cop] 26).below bM
 have U2 := Bx.new (w1.alloc (.cells #[.slice ca ds.length cc, .int .i64 cop] 26)) [.int .i64 g0, .int .i64 g1, .slice sa sl sc, .slice ea el ec, .bool g4, .slice wa n wc] 30
 rw [show (w1.alloc (.cells #[.slice ca ds.length cc, .int .i64 cop] 26)).heap.size = w1.heap.size + 1 from by simp] at U2
 have Z2 := (Z0.below bel).below bXM
 have Y2 := (Y0.below bel).below bXM
 have M2 := M1.below bXM
 have C2 := C1.below bXM
 have K2 := K1.below bXM
 have B2 := belowThen (belowThen b0 bel) bXM
 have s2 : ((w1.alloc (.cells #[.slice ca ds.length cc, .int .i64 cop] 26)).alloc (.cells #[.int .i64 g0, .int .i64 g1, .slice sa sl sc, .slice ea el ec, .bool g4, .slice wa n wc] 30)).heap.size = w1.heap.size + 2 := by simp
 clear Z0 Y0 M1 C1 K1 bX bM bXM b0 bel e0
 go_upto_region 2 with fail
 generalize ((w1.alloc (.cells #[.slice ca ds.length cc, .int .i64 cop] 26)).alloc (.cells #[.int .i64 g0, .int .i64 g1, .slice sa sl sc, .slice ea el ec, .bool g4, .slice wa n wc] 30)) = w2 at *
 generalize hmb : w1.heap.size = xb at *
 cases g4
 ·have u4' := U2 4 _ rfl
  have t0 := T2 0 _ rfl
  have t1 := T2 1 _ rfl
  have u0 := U2 0 _ rfl
  have u1 := U2 1 _ rfl
  have u2 := U2 2 _ rfl
  have u3 := U2 3 _ rfl
  have u4 := U2 4 _ rfl
  have u5 := U2 5 _ rfl
  obtain ⟨z0, fz0⟩ := Z2.2 0 _ rfl
  obtain ⟨z1, fz1⟩ := Z2.2 1 _ rfl
  obtain ⟨y0, fy0⟩ := Y2.2 0 _ rfl
  obtain ⟨y1, fy1⟩ := Y2.2 1 _ rfl
  obtain ⟨y2, fy2⟩ := Y2.2 2 _ rfl
  obtain ⟨y3, fy3⟩ := Y2.2 3 _ rfl
  obtain ⟨y4, fy4⟩ := Y2.2 4 _ rfl
  obtain ⟨y5, fy5⟩ := Y2.2 5 _ rfl
  have ZZ := dHide ((((((((Z2.put 0 (.slice ca ds.length cc)).put 1 (.int .i64 cop)).far (b' := w.heap.size + 1) (o := 0) (by omega) (.int .i64 g0)).far (b' := w.heap.size + 1) (o := 1) (by omega) (.int .i64 g1)).far (b' := w.heap.size + 1) (o := 2) (by omega) (.slice sa sl sc)).far (b' := w.heap.size + 1) (o := 3) (by omega) (.slice ea el ec)).far (b' := w.heap.size + 1) (o := 4) (by omega) (.bool false)).far (b' := w.heap.size + 1) (o := 5) (by omega) (.slice wa n wc))
  have YY := dHide ((((((((Y2.far (b' := w.heap.size) (o := 0) (by omega) (.slice ca ds.length cc)).far (b' := w.heap.size) (o := 1) (by omega) (.int .i64 cop)).put 0 (.int .i64 g0)).put 1 (.int .i64 g1)).put 2 (.slice sa sl sc)).put 3 (.slice ea el ec)).put 4 (.bool false)).put 5 (.slice wa n wc))
  have F := dHide fun W (hW : Below ((((((((w2.setCell ⟨w.heap.size, 0, none⟩ (.slice ca ds.length cc)).setCell ⟨w.heap.size, 1, none⟩ (.int .i64 cop)).setCell ⟨w.heap.size + 1, 0, none⟩ (.int .i64 g0)).setCell ⟨w.heap.size + 1, 1, none⟩ (.int .i64 g1)).setCell ⟨w.heap.size + 1, 2, none⟩ (.slice sa sl sc)).setCell ⟨w.heap.size + 1, 3, none⟩ (.slice ea el ec)).setCell ⟨w.heap.size + 1, 4, none⟩ (.bool false)).setCell ⟨w.heap.size + 1, 5, none⟩ (.slice wa n wc)).heap.size ((((((((w2.setCell ⟨w.heap.size, 0, none⟩ (.slice ca ds.length cc)).setCell ⟨w.heap.size, 1, none⟩ (.int .i64 cop)).setCell ⟨w.heap.size + 1, 0, none⟩ (.int .i64 g0)).setCell ⟨w.heap.size + 1, 1, none⟩ (.int .i64 g1)).setCell ⟨w.heap.size + 1, 2, none⟩ (.slice sa sl sc)).setCell ⟨w.heap.size + 1, 3, none⟩ (.slice ea el ec)).setCell ⟨w.heap.size + 1, 4, none⟩ (.bool false)).setCell ⟨w.heap.size + 1, 5, none⟩ (.slice wa n wc)) W) => dUnhide FIN W rs (((((((((C2.far (b := w.heap.size) (o := 0) (by omega) (.slice ca ds.length cc)).far (b := w.heap.size) (o := 1) (by omega) (.int .i64 cop)).far (b := w.heap.size + 1) (o := 0) (by omega) (.int .i64 g0)).far (b := w.heap.size + 1) (o := 1) (by omega) (.int .i64 g1)).far (b := w.heap.size + 1) (o := 2) (by omega) (.slice sa sl sc)).far (b := w.heap.size + 1) (o := 3) (by omega) (.slice ea el ec)).far (b := w.heap.size + 1) (o := 4) (by omega) (.bool false)).far (b := w.heap.size + 1) (o := 5) (by omega) (.slice wa n wc)).below hW) (((((((((M2.far (b := w.heap.size) (o := 0) (by omega) (.slice ca ds.length cc)).far (b := w.heap.size) (o := 1) (by omega) (.int .i64 cop)).far (b := w.heap.size + 1) (o := 0) (by omega) (.int .i64 g0)).far (b := w.heap.size + 1) (o := 1) (by omega) (.int .i64 g1)).far (b := w.heap.size + 1) (o := 2) (by omega) (.slice sa sl sc)).far (b := w.heap.size + 1) (o := 3) (by omega) (.slice ea el ec)).far (b := w.heap.size + 1) (o := 4) (by omega) (.bool false)).far (b := w.heap.size + 1) (o := 5) (by omega) (.slice wa n wc)).below hW) (dUnhide HF1) (dUnhide HLN) (belowThen ((((((((B2.setCell (p := ⟨w.heap.size, 0, none⟩) (by simp only; omega) (.slice ca ds.length cc)).setCell (p := ⟨w.heap.size, 1, none⟩) (by simp only; omega) (.int .i64 cop)).setCell (p := ⟨w.heap.size + 1, 0, none⟩) (by simp only; omega) (.int .i64 g0)).setCell (p := ⟨w.heap.size + 1, 1, none⟩) (by simp only; omega) (.int .i64 g1)).setCell (p := ⟨w.heap.size + 1, 2, none⟩) (by simp only; omega) (.slice sa sl sc)).setCell (p := ⟨w.heap.size + 1, 3, none⟩) (by simp only; omega) (.slice ea el ec)).setCell (p := ⟨w.heap.size + 1, 4, none⟩) (by simp only; omega) (.bool false)).setCell (p := ⟨w.heap.size + 1, 5, none⟩) (by simp only; omega) (.slice wa n wc)) hW)
  clear FIN K2 u4'
  go_wp2_with fail
  go_region
  all_goals
   go_wp2_with fail
   generalize ((((((((w2.setCell ⟨w.heap.size, 0, none⟩ (.slice ca ds.length cc)).setCell ⟨w.heap.size, 1, none⟩ (.int .i64 cop)).setCell ⟨w.heap.size + 1, 0, none⟩ (.int .i64 g0)).setCell ⟨w.heap.size + 1, 1, none⟩ (.int .i64 g1)).setCell ⟨w.heap.size + 1, 2, none⟩ (.slice sa sl sc)).setCell ⟨w.heap.size + 1, 3, none⟩ (.slice ea el ec)).setCell ⟨w.heap.size + 1, 4, none⟩ (.bool false)).setCell ⟨w.heap.size + 1, 5, none⟩ (.slice wa n wc)) = V at *
   have p0 := ((dUnhide ZZ).2 0 _ rfl).1
   have p1 := ((dUnhide ZZ).2 1 _ rfl).1
   have q0 := ((dUnhide YY).2 0 _ rfl).1
   have q1 := ((dUnhide YY).2 1 _ rfl).1
   have q2 := ((dUnhide YY).2 2 _ rfl).1
   have q3 := ((dUnhide YY).2 3 _ rfl).1
   have q4 := ((dUnhide YY).2 4 _ rfl).1
   have q5 := ((dUnhide YY).2 5 _ rfl).1
   exact bodyPost_ret (v := .tuple #[.agg #[.slice ca ds.length cc, .int .i64 cop], .agg #[.int .i64 g0, .int .i64 g1, .slice sa sl sc, .slice ea el ec, .bool false, .slice wa n wc]]) (by simp [results, Try.results7, go_sem, p0, p1, q0, q1, q2, q3, q4, q5]) rfl (by first | exact dUnhide F _ (Below.refl _ _) | exact dUnhide F _ (Below.refl _ _).drew)
 ·have CO3 := dHide (l1Once_any bk 3 (by omega) (by omega) w2 K2)
  have u4' := U2 4 _ rfl
  go_wp2_with fail
  refine (dUnhide CO3).mono ?_
  rintro e w3 ⟨⟨b3, rfl⟩, K3, D3⟩
  have hx1 : xb ≠ bk := by omega
  have hx2 : xb + 1 ≠ bk := by omega
  have Z3 := Z2.drawn D3 (by omega)
  have Y3 := Y2.drawn D3 (by omega)
  have T3 := T2.drawn D3 hx1
  have U3 := U2.drawn D3 hx2
  have M3 := M2.drawn D3 k2
  have C3 := C2.drawn D3 k2
  have B3 := D3.below B2 B2.size (by omega)
  have s3 := D3.size
  clear CO3 Z2 Y2 T2 U2 M2 C2 B2 D3 K2 u4'
  cases b3
  case true =>
   have t0 := T3 0 _ rfl
   have t1 := T3 1 _ rfl
   have u0 := U3 0 _ rfl
   have u1 := U3 1 _ rfl
   have u2 := U3 2 _ rfl
   have u3 := U3 3 _ rfl
   have u4 := U3 4 _ rfl
   have u5 := U3 5 _ rfl
   obtain ⟨z0, fz0⟩ := Z3.2 0 _ rfl
   obtain ⟨z1, fz1⟩ := Z3.2 1 _ rfl
   obtain ⟨y0, fy0⟩ := Y3.2 0 _ rfl
   obtain ⟨y1, fy1⟩ := Y3.2 1 _ rfl
   obtain ⟨y2, fy2⟩ := Y3.2 2 _ rfl
   obtain ⟨y3, fy3⟩ := Y3.2 3 _ rfl
   obtain ⟨y4, fy4⟩ := Y3.2 4 _ rfl
   obtain ⟨y5, fy5⟩ := Y3.2 5 _ rfl
   have ZZ := dHide ((((((((Z3.put 0 (.slice ca ds.length cc)).put 1 (.int .i64 cop)).far (b' := w.heap.size + 1) (o := 0) (by omega) (.int .i64 g0)).far (b' := w.heap.size + 1) (o := 1) (by omega) (.int .i64 g1)).far (b' := w.heap.size + 1) (o := 2) (by omega) (.slice sa sl sc)).far (b' := w.heap.size + 1) (o := 3) (by omega) (.slice ea el ec)).far (b' := w.heap.size + 1) (o := 4) (by omega) (.bool true)).far (b' := w.heap.size + 1) (o := 5) (by omega) (.slice wa n wc))
   have YY := dHide ((((((((Y3.far (b' := w.heap.size) (o := 0) (by omega) (.slice ca ds.length cc)).far (b' := w.heap.size) (o := 1) (by omega) (.int .i64 cop)).put 0 (.int .i64 g0)).put 1 (.int .i64 g1)).put 2 (.slice sa sl sc)).put 3 (.slice ea el ec)).put 4 (.bool true)).put 5 (.slice wa n wc))
   have F := dHide fun W (hW : Below ((((((((w3.setCell ⟨w.heap.size, 0, none⟩ (.slice ca ds.length cc)).setCell ⟨w.heap.size, 1, none⟩ (.int .i64 cop)).setCell ⟨w.heap.size + 1, 0, none⟩ (.int .i64 g0)).setCell ⟨w.heap.size + 1, 1, none⟩ (.int .i64 g1)).setCell ⟨w.heap.size + 1, 2, none⟩ (.slice sa sl sc)).setCell ⟨w.heap.size + 1, 3, none⟩ (.slice ea el ec)).setCell ⟨w.heap.size + 1, 4, none⟩ (.bool true)).setCell ⟨w.heap.size + 1, 5, none⟩ (.slice wa n wc)).heap.size ((((((((w3.setCell ⟨w.heap.size, 0, none⟩ (.slice ca ds.length cc)).setCell ⟨w.heap.size, 1, none⟩ (.int .i64 cop)).setCell ⟨w.heap.size + 1, 0, none⟩ (.int .i64 g0)).setCell ⟨w.heap.size + 1, 1, none⟩ (.int .i64 g1)).setCell ⟨w.heap.size + 1, 2, none⟩ (.slice sa sl sc)).setCell ⟨w.heap.size + 1, 3, none⟩ (.slice ea el ec)).setCell ⟨w.heap.size + 1, 4, none⟩ (.bool true)).setCell ⟨w.heap.size + 1, 5, none⟩ (.slice wa n wc)) W) => dUnhide FIN W rs (((((((((C3.far (b := w.heap.size) (o := 0) (by omega) (.slice ca ds.length cc)).far (b := w.heap.size) (o := 1) (by omega) (.int .i64 cop)).far (b := w.heap.size + 1) (o := 0) (by omega) (.int .i64 g0)).far (b := w.heap.size + 1) (o := 1) (by omega) (.int .i64 g1)).far (b := w.heap.size + 1) (o := 2) (by omega) (.slice sa sl sc)).far (b := w.heap.size + 1) (o := 3) (by omega) (.slice ea el ec)).far (b := w.heap.size + 1) (o := 4) (by omega) (.bool true)).far (b := w.heap.size + 1) (o := 5) (by omega) (.slice wa n wc)).below hW) (((((((((M3.far (b := w.heap.size) (o := 0) (by omega) (.slice ca ds.length cc)).far (b := w.heap.size) (o := 1) (by omega) (.int .i64 cop)).far (b := w.heap.size + 1) (o := 0) (by omega) (.int .i64 g0)).far (b := w.heap.size + 1) (o := 1) (by omega) (.int .i64 g1)).far (b := w.heap.size + 1) (o := 2) (by omega) (.slice sa sl sc)).far (b := w.heap.size + 1) (o := 3) (by omega) (.slice ea el ec)).far (b := w.heap.size + 1) (o := 4) (by omega) (.bool true)).far (b := w.heap.size + 1) (o := 5) (by omega) (.slice wa n wc)).below hW) (dUnhide HF1) (dUnhide HLN) (belowThen ((((((((B3.setCell (p := ⟨w.heap.size, 0, none⟩) (by simp only; omega) (.slice ca ds.length cc)).setCell (p := ⟨w.heap.size, 1, none⟩) (by simp only; omega) (.int .i64 cop)).setCell (p := ⟨w.heap.size + 1, 0, none⟩) (by simp only; omega) (.int .i64 g0)).setCell (p := ⟨w.heap.size + 1, 1, none⟩) (by simp only; omega) (.int .i64 g1)).setCell (p := ⟨w.heap.size + 1, 2, none⟩) (by simp only; omega) (.slice sa sl sc)).setCell (p := ⟨w.heap.size + 1, 3, none⟩) (by simp only; omega) (.slice ea el ec)).setCell (p := ⟨w.heap.size + 1, 4, none⟩) (by simp only; omega) (.bool true)).setCell (p := ⟨w.heap.size + 1, 5, none⟩) (by simp only; omega) (.slice wa n wc)) hW)
   clear FIN K3
   go_wp2_with fail
   go_region
   all_goals
    go_wp2_with fail
    generalize ((((((((w3.setCell ⟨w.heap.size, 0, none⟩ (.slice ca ds.length cc)).setCell ⟨w.heap.size, 1, none⟩ (.int .i64 cop)).setCell ⟨w.heap.size + 1, 0, none⟩ (.int .i64 g0)).setCell ⟨w.heap.size + 1, 1, none⟩ (.int .i64 g1)).setCell ⟨w.heap.size + 1, 2, none⟩ (.slice sa sl sc)).setCell ⟨w.heap.size + 1, 3, none⟩ (.slice ea el ec)).setCell ⟨w.heap.size + 1, 4, none⟩ (.bool true)).setCell ⟨w.heap.size + 1, 5, none⟩ (.slice wa n wc)) = V at *
    have p0 := ((dUnhide ZZ).2 0 _ rfl).1
    have p1 := ((dUnhide ZZ).2 1 _ rfl).1
    have q0 := ((dUnhide YY).2 0 _ rfl).1
    have q1 := ((dUnhide YY).2 1 _ rfl).1
    have q2 := ((dUnhide YY).2 2 _ rfl).1
    have q3 := ((dUnhide YY).2 3 _ rfl).1
    have q4 := ((dUnhide YY).2 4 _ rfl).1
    have q5 := ((dUnhide YY).2 5 _ rfl).1
    exact bodyPost_ret (v := .tuple #[.agg #[.slice ca ds.length cc, .int .i64 cop], .agg #[.int .i64 g0, .int .i64 g1, .slice sa sl sc, .slice ea el ec, .bool true, .slice wa n wc]]) (by simp [results, Try.results7, go_sem, p0, p1, q0, q1, q2, q3, q4, q5]) rfl (by first | exact dUnhide F _ (Below.refl _ _) | exact dUnhide F _ (Below.refl _ _).drew)
  have HC3 := dHide fun W (hb : Below w3.heap.size w3 W) => C3.below hb
  have t0' := T3 0 _ rfl
  go_wp2
  go_loopw [7, 8] (fun o x wr => ∃ k : Nat, x = .int .i64 (k : Int) ∧ k ≤ ds.length ∧ wr.ownsRow w3.heap.size 3 1 o (upTo k).length (ncells (upTo k)) ∧ Below w3.heap.size w3 wr) (fun _ x _ => ds.length - (intOf x).toNat)
  case atStart => exact ⟨0, rfl, Nat.zero_le _, by
   have := World.ownsRow_made (e := 3) (size := 1) (base := w3.heap.size) w3 #[] 0 (Nat.le_refl _) (by decide) (by simp)
   simpa [upTo, ncells] using this, ba _ _⟩
  case round =>
   obtain ⟨k, rfl, hk, hown, hb⟩ := hrel
   have tk := T3.below hb 0 _ rfl
   clear t0'
   by_cases hlt : (k : Int) < (ds.length : Int)
   ·have hlen := upTo_len k
    have e1 := dHide (upTo_succ k)
    have hkl : (upTo k).length ≤ 100 := by omega
    clear hlen
    generalize upTo k = L at *
    have hlt' := hown.lt
    go_wp2_with (at_builtin; refine appN _ rfl _ _ rfl w3.heap.size _ L rfl (hown.alloc _) ⟨wr.heap.size, 0, none⟩ 1 1 [(k : Int)] rfl rfl (one_int _ _ _) ?c3 ?c4 ?_)
    case c3 => simp; omega
    case c4 => have := hb.size; simp; omega
    intro v' w4 hown' hgrow
    have hb2 : Below w3.heap.size w3 w4 := (hb.alloc hb.size _).grown hgrow (by have := hb.size; simp; omega) (fun k hk => (hlt' k hk).1)
    have hown2 := own_lenN hown'
    clear hown hown' hgrow hb hlt' tk
    go_wp2
    go_roundw
    case rel => exact ⟨k + 1, by go_num, by omega, by rw [dUnhide e1]; exact hown2, hb2⟩
    case measure => simp [intOf]; omega
   ·have ek : k = ds.length := by omega
    subst ek
    have A4 := ownN_of_row hown
    have hul := upTo_len ds.length
    obtain ⟨-, aa, ac, rfl, -, -⟩ := A4.bs
    rw [hul] at A4
    rw [hul]
    have HUI := dHide (upTo_int (k := ds.length) (by omega))
    have HUL := dHide hul
    generalize upTo ds.length = UL at *
    have Z4 := dHide (Z3.below hb)
    have Y4 := dHide (Y3.below hb)
    have T4 := dHide (T3.below hb)
    have U4 := dHide (U3.below hb)
    have M4 := dHide (M3.below hb)
    have C4 := dHide (C3.below hb)
    have K4 := dHide (K3.below hb)
    have B4 := belowThen B3 hb
    have A5 := dHide (A4.mono (show lo ≤ w3.heap.size by omega))
    have s4 : w2.heap.size ≤ wr.heap.size := Nat.le_trans s3 hb.size
    clear Z3 Y3 T3 U3 M3 C3 K3 B3 hb hown A4 hul HC3 hk
    generalize wr = w5 at *
    go_wp2
    clear tk hlt
    go_loopw [9] (fun x wr => ∃ (k : Nat) (rs' : List (Nst (List Int))), x = .int .i64 (k : Int) ∧ k ≤ n ∧ Hid (MR wr lo (.slice sa sl sc) (.slice ea el ec) (.slice wa n wc) ss es rs') ∧ Hid (rs'.length = n) ∧ Hid (RF rs') ∧ Hid (OwnN wr lo (.slice ca ds.length cc) ds) ∧ Hid (Cur wr bk) ∧ Hid (BxZ wr w.heap.size (w.heap.size) [.slice none 0 0, .int .i64 0]) ∧ Hid (BxZ wr w.heap.size (w.heap.size + 1) [.int .i64 0, .int .i64 0, .slice none 0 0, .slice none 0 0, .bool false, .slice none 0 0]) ∧ Hid (Bx wr xb [.slice ca ds.length cc, .int .i64 cop]) ∧ Hid (Bx wr (xb + 1) [.int .i64 g0, .int .i64 g1, .slice sa sl sc, .slice ea el ec, .bool true, .slice wa n wc]) ∧ Hid (OwnN wr lo (.slice aa ds.length ac) UL) ∧ w2.heap.size ≤ wr.heap.size ∧ Below w.heap.size w wr) (fun x _ => n - (intOf x).toNat)
    case atStart => exact ⟨0, rs, rfl, Nat.zero_le _, M4, HLN, HF1, C4, K4, Z4, Y4, T4, U4, A5, s4, B4⟩
    case round =>
     obtain ⟨k, rs', rfl, hk, hM, hL, hF, hC, hK, hZ, hY, hT, hU, hA, hs, hb⟩ := hrel
     clear M4 C4 K4 Z4 Y4 T4 U4 A5 s4 B4 HF1 HLN
     have uk := dUnhide hU 5 _ rfl
     by_cases hlt : (k : Int) < (n : Int)
     ·have CO8 := dHide (l1Once_any bk 8 (by omega) (by omega) wr (dUnhide hK))
      go_wp2_with fail
      refine (dUnhide CO8).mono ?_
      rintro e w6 ⟨⟨b6, rfl⟩, K6, D6⟩
      have M6 := (dUnhide hM).drawn D6 k2
      have C6 := (dUnhide hC).drawn D6 k2
      have A6 := (dUnhide hA).drawn D6 k2
      have Z6 := (dUnhide hZ).drawn D6 (by omega)
      have Y6 := (dUnhide hY).drawn D6 (by omega)
      have T6 := (dUnhide hT).drawn D6 hx1
      have U6 := (dUnhide hU).drawn D6 hx2
      have B6 := D6.below hb hb.size (by omega)
      have s6 := Nat.le_trans hs D6.size
      clear CO8 hM hC hA hZ hY hT hU hK D6 hs hb uk
      cases b6
      case true =>
       have HM6 := dHide M6
       have HC6 := dHide C6
       have HA6 := dHide A6
       have HZ6 := dHide Z6
       have HY6 := dHide Y6
       have HT6 := dHide T6
       have HU6 := dHide U6
       have HK6 := dHide K6
       clear M6 C6 A6 Z6 Y6 T6 U6 K6
       go_wp2
       go_roundw
       case rel => exact ⟨k + 1, rs', by go_num, by omega, HM6, hL, hF, HC6, HK6, HZ6, HY6, HT6, HU6, HA6, s6, B6⟩
       case measure => simp [intOf]; omega
      case false =>
       have hkl : k < rs'.length := by have := dUnhide hL; omega
       obtain ⟨rb, ro, n', c', ew, hrb, -⟩ := M6.at hkl
       simp only [Value.slice.injEq] at ew
       obtain ⟨rfl, rfl, rfl⟩ := ew
       have hrl : rb < xb := dUnhide HRB (by omega)
       have hkn : (k : Int) < (n : Int) := by omega
       have bdr : Below w6.heap.size w6 w6.drew := (Below.refl _ _).drew
       have Md := M6.below bdr
       have Cd := C6.below bdr
       have Ad := A6.below bdr
       have Zd := Z6.below bdr
       have Yd := Y6.below bdr
       have Td := T6.below bdr
       have Ud := U6.below bdr
       have Kd := K6.below bdr
       have Bd := belowThen B6 bdr
       have sd := Nat.le_trans s6 bdr.size
       clear M6 C6 A6 Z6 Y6 T6 U6 K6 B6 bdr
       go_upto_region 12 with fail
       go_wp2_with fail
       refine wp_region_noPanic ?_
       refine wp_region_held_drew (S := fun W => W.cell? ⟨xb + 1, 5, none⟩ = some (.slice (some ⟨rb, ro, none⟩) n wc)) (by kernel_rfl) (by first | exact Ud 5 _ rfl | exact U7 5 _ rfl) (fun hHeld => ?_)
       generalize w6.drew = wd at *
       refine wpAnyH_take (i := 0) (oi := ⟨some 45, .fieldAddr 30 (.tmp 5) 5, 0, "l09_mend.go:253", #[], none⟩) (v := ?_) rfl (by kernel_rfl) (by kernel_rfl) (by kernel_rfl) (fun _ _ _ h => h) (Or.inl ⟨by rfl, ?_⟩) (by assumption) ?_
       rotate_left 1
       ·intro w hSw
        (try dsimp only at hSw)
        first | (go_simp; done) | (go_simp; with_reducible rfl)
       try simp only [Act.put, sA, sB, sC]
       refine wpAnyH_take (i := 1) (oi := ⟨some 46, .load 28 (.tmp 45), 28, "l09_mend.go:253", #[⟨0, .data⟩], none⟩) (v := ?_) rfl (by kernel_rfl) (by kernel_rfl) (by kernel_rfl) (fun _ _ _ h => h) (Or.inl ⟨by rfl, ?_⟩) (by assumption) ?_
       rotate_left 1
       ·intro w hSw
        (try dsimp only at hSw)
        first | (go_simp; done) | (go_simp; with_reducible rfl)
       try simp only [Act.put, sA, sB, sC]
       refine wpAnyH_take (i := 2) (oi := ⟨some 47, .move (.tmp 9), 3, "l09_mend.go:253", #[], none⟩) (v := ?_) rfl (by kernel_rfl) (by kernel_rfl) (by kernel_rfl) (fun _ _ _ h => h) (Or.inl ⟨by rfl, ?_⟩) (by assumption) ?_
       rotate_left 1
       ·intro w hSw
        (try dsimp only at hSw)
        first | (go_simp; done) | (go_simp; with_reducible rfl)
       try simp only [Act.put, sA, sB, sC]
       refine wpAnyH_take (i := 4) (oi := ⟨some 49, .move (.tmp 7), 24, "l09_mend.go:253", #[], none⟩) (v := ?_) rfl (by kernel_rfl) (by kernel_rfl) (by kernel_rfl) (fun _ _ _ h => h) (Or.inl ⟨by rfl, ?_⟩) (by assumption) ?_
       rotate_left 1
       ·intro w hSw
        (try dsimp only at hSw)
        first | (go_simp; done) | (go_simp; with_reducible rfl)
       try simp only [Act.put, sA, sB, sC]
       refine wpAnyH_ready (rs := [3]) (by kernel_rfl) (by simp) ?_
       refine AllReadyH.cons (o := ⟨some 48, .buildSlice 24 0 #[], 24, "l09_mend.go:253", #[], none⟩) rfl (fun K hK => ?_) AllReadyH.nil
       go_simp
       have bE := ba wd (.cells #[] 3)
       replace Md := Md.below bE
       replace Cd := Cd.below bE
       replace Ad := Ad.below bE
       replace Zd := Zd.below bE
       replace Yd := Yd.below bE
       replace Td := Td.below bE
       replace Ud := Ud.below bE
       replace Kd := Kd.below bE
       replace Bd := belowThen Bd bE
       replace sd := Nat.le_trans sd bE.size
       (try replace NU := NU.below bE)
       clear bE
       generalize wd.alloc (.cells #[] 3) = wd at *
       refine hK.out _ _ (by first | exact Ud 5 _ rfl | exact U7 5 _ rfl) (fun hHeld => ?_)
       clear hK K
       try simp only [Act.put, sA, sB, sC]
       refine wpAnyH_ready (rs := [5]) (by kernel_rfl) (by simp) ?_
       refine AllReadyH.cons (o := ⟨some 50, .call { callee := .builtin .append, args := #[.tmp 48, .tmp 49], argTypes := #[24, 24] }, 24, "l09_mend.go:253", #[⟨3, .data⟩, ⟨4, .data⟩], none⟩) rfl (fun K hK => ?_) AllReadyH.nil
       refine step_cpN rfl _ _ rfl _ rfl _ UL rfl Ad.bs (by have := dUnhide HUL; omega) ?_
       intro u w7 O7 b7
       obtain ⟨-, ua, uc, rfl, -, -⟩ := O7.bs
       have NU := O7.mono (show lo ≤ wd.heap.size by omega)
       replace Md := Md.below b7
       replace Cd := Cd.below b7
       replace Ad := Ad.below b7
       replace Zd := Zd.below b7
       replace Yd := Yd.below b7
       replace Td := Td.below b7
       replace Ud := Ud.below b7
       replace Kd := Kd.below b7
       replace Bd := belowThen Bd b7
       replace sd := Nat.le_trans sd b7.size
       clear O7 b7
       generalize w7 = wd at *
       refine hK.out _ _ (by first | exact Ud 5 _ rfl | exact U7 5 _ rfl) (fun hHeld => ?_)
       clear hK K
       try simp only [Act.put, sA, sB, sC]
       refine wpAnyH_take (i := 6) (oi := ⟨some 51, .indexAddr 28 (.tmp 46) (.tmp 47), 0, "l09_mend.go:253", #[⟨1, .data⟩, ⟨2, .data⟩, ⟨0, .phase⟩, ⟨1, .phase⟩, ⟨2, .phase⟩, ⟨3, .phase⟩, ⟨4, .phase⟩, ⟨5, .phase⟩], none⟩) (v := ?_) rfl (by kernel_rfl) (by kernel_rfl) (by kernel_rfl) (fun _ _ _ h => h) (Or.inl ⟨by rfl, ?_⟩) (by assumption) ?_
       rotate_left 1
       ·intro w hSw
        (try dsimp only at hSw)
        first | (go_simp; done) | (go_simp; with_reducible rfl)
       try simp only [Act.put, sA, sB, sC]
       refine wpAnyH_ready (rs := [7]) (by kernel_rfl) (by simp) ?_
       refine AllReadyH.cons (o := ⟨none, .store 24 (.tmp 51) (.tmp 50), 0, "l09_mend.go:253", #[⟨6, .data⟩, ⟨5, .data⟩, ⟨5, .chain⟩, ⟨0, .phase⟩, ⟨1, .phase⟩, ⟨2, .phase⟩, ⟨3, .phase⟩, ⟨4, .phase⟩, ⟨5, .phase⟩], none⟩) rfl (fun K hK => ?_) AllReadyH.nil
       obtain ⟨ck, fk⟩ := Md.at2 k hkl
       go_simp
       have N7 : MR (wd.setCell ⟨rb, ro + k, none⟩ (.slice ua UL.length uc)) lo (.slice sa sl sc) (.slice ea el ec) (.slice (some ⟨rb, ro, none⟩) n wc) ss es (rs'.set k ⟨ua, uc, UL⟩) := by
        have q := MR.told (wc := wc) (by rw [dUnhide hL]; exact Md) hkl (Md.at2) ⟨ua, uc, UL⟩ NU
        rw [List.length_set, dUnhide hL] at q
        exact q
       have C7 := Cd.setS ck (.slice ua UL.length uc)
       have A7 := Ad.setS ck (.slice ua UL.length uc)
       have K7 := Kd.setX (show rb ≠ bk by omega) ck (fun v => by simp) (.slice ua UL.length uc)
       have Z7 := Zd.far (b' := rb) (o := ro + k) (by omega) (.slice ua UL.length uc)
       have Y7 := Yd.far (b' := rb) (o := ro + k) (by omega) (.slice ua UL.length uc)
       have T7 := Td.farX (b' := rb) (o := ro + k) (by omega) (.slice ua UL.length uc)
       have U7 := Ud.farX (b' := rb) (o := ro + k) (by omega) (.slice ua UL.length uc)
       have B7 := Bd.setCell (p := ⟨rb, ro + k, none⟩) (by simp only; omega) (.slice ua UL.length uc)
       have s7 : w2.heap.size ≤ (wd.setCell ⟨rb, ro + k, none⟩ (.slice ua UL.length uc)).heap.size := by rw [World.size_setCell]; exact sd
       clear ck fk Md Cd Ad Kd Zd Yd Td Ud Bd sd NU
       generalize wd.setCell ⟨rb, ro + k, none⟩ (.slice ua UL.length uc) = w8 at *
       refine hK.out _ _ (by first | exact Ud 5 _ rfl | exact U7 5 _ rfl) (fun hHeld => ?_)
       clear hK K
       try simp only [Act.put, sA, sB, sC]
       refine wpAnyH_done (by kernel_rfl) ?_ _
       refine NoPanic.normal ?_
       have HN7 := dHide N7
       have HC7 := dHide C7
       have HA7 := dHide A7
       have HK7 := dHide K7
       have HZ7 := dHide Z7
       have HY7 := dHide Y7
       have HT7 := dHide T7
       have HU7 := dHide U7
       have HL7 : Hid ((rs'.set k ⟨ua, uc, UL⟩).length = n) := by rw [Hid, List.length_set]; exact dUnhide hL
       have HF7 := dHide ((dUnhide hF).set (k := k) (p := ⟨ua, uc, UL⟩) ⟨by have := dUnhide HUL; simp only; omega, dUnhide HUI⟩)
       clear N7 C7 A7 K7 Z7 Y7 T7 U7
       go_wp2
       go_roundw
       case rel => exact ⟨k + 1, _, by go_num, by omega, HN7, HL7, HF7, HC7, HK7, HZ7, HY7, HT7, HU7, HA7, s7, B7⟩
       case measure => simp [intOf]; omega
     ·have e1 := dUnhide hL
      have M9 := dUnhide hM
      have C9 := dUnhide hC
      have Z9 := dUnhide hZ
      have Y9 := dUnhide hY
      have T9 := dUnhide hT
      have U9 := dUnhide hU
      clear hM hC hZ hY hT hU hA hK
      have t0 := T9 0 _ rfl
      have t1 := T9 1 _ rfl
      have u0 := U9 0 _ rfl
      have u1 := U9 1 _ rfl
      have u2 := U9 2 _ rfl
      have u3 := U9 3 _ rfl
      have u4 := U9 4 _ rfl
      have u5 := U9 5 _ rfl
      obtain ⟨z0, fz0⟩ := Z9.2 0 _ rfl
      obtain ⟨z1, fz1⟩ := Z9.2 1 _ rfl
      obtain ⟨y0, fy0⟩ := Y9.2 0 _ rfl
      obtain ⟨y1, fy1⟩ := Y9.2 1 _ rfl
      obtain ⟨y2, fy2⟩ := Y9.2 2 _ rfl
      obtain ⟨y3, fy3⟩ := Y9.2 3 _ rfl
      obtain ⟨y4, fy4⟩ := Y9.2 4 _ rfl
      obtain ⟨y5, fy5⟩ := Y9.2 5 _ rfl
      have ZZ := dHide ((((((((Z9.put 0 (.slice ca ds.length cc)).put 1 (.int .i64 cop)).far (b' := w.heap.size + 1) (o := 0) (by omega) (.int .i64 g0)).far (b' := w.heap.size + 1) (o := 1) (by omega) (.int .i64 g1)).far (b' := w.heap.size + 1) (o := 2) (by omega) (.slice sa sl sc)).far (b' := w.heap.size + 1) (o := 3) (by omega) (.slice ea el ec)).far (b' := w.heap.size + 1) (o := 4) (by omega) (.bool true)).far (b' := w.heap.size + 1) (o := 5) (by omega) (.slice wa n wc))
      have YY := dHide ((((((((Y9.far (b' := w.heap.size) (o := 0) (by omega) (.slice ca ds.length cc)).far (b' := w.heap.size) (o := 1) (by omega) (.int .i64 cop)).put 0 (.int .i64 g0)).put 1 (.int .i64 g1)).put 2 (.slice sa sl sc)).put 3 (.slice ea el ec)).put 4 (.bool true)).put 5 (.slice wa n wc))
      have F := dHide fun W (hW : Below ((((((((wr.setCell ⟨w.heap.size, 0, none⟩ (.slice ca ds.length cc)).setCell ⟨w.heap.size, 1, none⟩ (.int .i64 cop)).setCell ⟨w.heap.size + 1, 0, none⟩ (.int .i64 g0)).setCell ⟨w.heap.size + 1, 1, none⟩ (.int .i64 g1)).setCell ⟨w.heap.size + 1, 2, none⟩ (.slice sa sl sc)).setCell ⟨w.heap.size + 1, 3, none⟩ (.slice ea el ec)).setCell ⟨w.heap.size + 1, 4, none⟩ (.bool true)).setCell ⟨w.heap.size + 1, 5, none⟩ (.slice wa n wc)).heap.size ((((((((wr.setCell ⟨w.heap.size, 0, none⟩ (.slice ca ds.length cc)).setCell ⟨w.heap.size, 1, none⟩ (.int .i64 cop)).setCell ⟨w.heap.size + 1, 0, none⟩ (.int .i64 g0)).setCell ⟨w.heap.size + 1, 1, none⟩ (.int .i64 g1)).setCell ⟨w.heap.size + 1, 2, none⟩ (.slice sa sl sc)).setCell ⟨w.heap.size + 1, 3, none⟩ (.slice ea el ec)).setCell ⟨w.heap.size + 1, 4, none⟩ (.bool true)).setCell ⟨w.heap.size + 1, 5, none⟩ (.slice wa n wc)) W) => dUnhide FIN W rs' (((((((((C9.far (b := w.heap.size) (o := 0) (by omega) (.slice ca ds.length cc)).far (b := w.heap.size) (o := 1) (by omega) (.int .i64 cop)).far (b := w.heap.size + 1) (o := 0) (by omega) (.int .i64 g0)).far (b := w.heap.size + 1) (o := 1) (by omega) (.int .i64 g1)).far (b := w.heap.size + 1) (o := 2) (by omega) (.slice sa sl sc)).far (b := w.heap.size + 1) (o := 3) (by omega) (.slice ea el ec)).far (b := w.heap.size + 1) (o := 4) (by omega) (.bool true)).far (b := w.heap.size + 1) (o := 5) (by omega) (.slice wa n wc)).below hW) (((((((((M9.far (b := w.heap.size) (o := 0) (by omega) (.slice ca ds.length cc)).far (b := w.heap.size) (o := 1) (by omega) (.int .i64 cop)).far (b := w.heap.size + 1) (o := 0) (by omega) (.int .i64 g0)).far (b := w.heap.size + 1) (o := 1) (by omega) (.int .i64 g1)).far (b := w.heap.size + 1) (o := 2) (by omega) (.slice sa sl sc)).far (b := w.heap.size + 1) (o := 3) (by omega) (.slice ea el ec)).far (b := w.heap.size + 1) (o := 4) (by omega) (.bool true)).far (b := w.heap.size + 1) (o := 5) (by omega) (.slice wa n wc)).below hW) (dUnhide hF) (dUnhide hL) (belowThen ((((((((hb.setCell (p := ⟨w.heap.size, 0, none⟩) (by simp only; omega) (.slice ca ds.length cc)).setCell (p := ⟨w.heap.size, 1, none⟩) (by simp only; omega) (.int .i64 cop)).setCell (p := ⟨w.heap.size + 1, 0, none⟩) (by simp only; omega) (.int .i64 g0)).setCell (p := ⟨w.heap.size + 1, 1, none⟩) (by simp only; omega) (.int .i64 g1)).setCell (p := ⟨w.heap.size + 1, 2, none⟩) (by simp only; omega) (.slice sa sl sc)).setCell (p := ⟨w.heap.size + 1, 3, none⟩) (by simp only; omega) (.slice ea el ec)).setCell (p := ⟨w.heap.size + 1, 4, none⟩) (by simp only; omega) (.bool true)).setCell (p := ⟨w.heap.size + 1, 5, none⟩) (by simp only; omega) (.slice wa n wc)) hW)
      clear FIN M9 C9 hL hF e1
      go_wp2_with fail
      go_region
      all_goals
       go_wp2_with fail
       generalize ((((((((wr.setCell ⟨w.heap.size, 0, none⟩ (.slice ca ds.length cc)).setCell ⟨w.heap.size, 1, none⟩ (.int .i64 cop)).setCell ⟨w.heap.size + 1, 0, none⟩ (.int .i64 g0)).setCell ⟨w.heap.size + 1, 1, none⟩ (.int .i64 g1)).setCell ⟨w.heap.size + 1, 2, none⟩ (.slice sa sl sc)).setCell ⟨w.heap.size + 1, 3, none⟩ (.slice ea el ec)).setCell ⟨w.heap.size + 1, 4, none⟩ (.bool true)).setCell ⟨w.heap.size + 1, 5, none⟩ (.slice wa n wc)) = V at *
       have p0 := ((dUnhide ZZ).2 0 _ rfl).1
       have p1 := ((dUnhide ZZ).2 1 _ rfl).1
       have q0 := ((dUnhide YY).2 0 _ rfl).1
       have q1 := ((dUnhide YY).2 1 _ rfl).1
       have q2 := ((dUnhide YY).2 2 _ rfl).1
       have q3 := ((dUnhide YY).2 3 _ rfl).1
       have q4 := ((dUnhide YY).2 4 _ rfl).1
       have q5 := ((dUnhide YY).2 5 _ rfl).1
       exact bodyPost_ret (v := .tuple #[.agg #[.slice ca ds.length cc, .int .i64 cop], .agg #[.int .i64 g0, .int .i64 g1, .slice sa sl sc, .slice ea el ec, .bool true, .slice wa n wc]]) (by simp [results, Try.results7, go_sem, p0, p1, q0, q1, q2, q3, q4, q5]) rfl (by first | exact dUnhide F _ (Below.refl _ _) | exact dUnhide F _ (Below.refl _ _).drew)
end Go.Proofs.Ytapfdmmfhfkhkaa
