/- Several texts in one: MdA, Q9N, AkB. -/
import Derived.Test.YtjkjmapibcfcdaaGreatGz8
import Derived.Test.YtjkjmapibcfcdaaGreatMnR
import Derived.Test.YtjkjmapibcfcdaaGreatGx1
import Derived.Test.YtjkjmapibcfcdaaGreatGx6
import Derived.Test.YtjkjmapibcfcdaaGreatGaD
import Derived.Test.YtjkjmapibcfcdaaGreatGx5
namespace Go.Proofs.YtjkjmapibcfcdaaGreat
open Go.ChangeShapes Go.WideShapes Go.ChangeAt Go.RowKit
set_option linter.unusedSimpArgs false
set_option linter.unusedVariables false
set_option maxRecDepth 100000
def fitM (m : Mn) : Prop := okMend m ∧ m.sealed.length ≤ 21 ∧ (m.seen.length ≤ 61 ∧ ∀ e ∈ m.seen, e.data.size ≤ 60) ∧ m.wrote.length ≤ 61 ∧ ∀ l ∈ m.wrote, l.length ≤ 21
theorem sumL_fit {n : Nat} : ∀ {ls : List (List Int)}, (∀ l ∈ ls, l.length ≤ n) → sumL ls ≤ n * ls.length
 | [], _ => by simp [sumL]
 | a :: l, h => by
  have h1 := h a (List.mem_cons_self ..)
  have h2 := sumL_fit (ls := l) fun y hy => h y (List.mem_cons_of_mem _ hy)
  rw [sumL_cons, List.length_cons, Nat.mul_add]
  omega
theorem sumD_fit {n : Nat} : ∀ {es : List Ent}, (∀ e ∈ es, e.data.size ≤ n) → sumD es ≤ n * es.length
 | [], _ => by simp [sumD]
 | a :: l, h => by
  have h1 := h a (List.mem_cons_self ..)
  have h2 := sumD_fit (es := l) fun y hy => h y (List.mem_cons_of_mem _ hy)
  have e : sumD (a :: l) = a.data.size + sumD l := by simp [sumD]
  rw [e, List.length_cons, Nat.mul_add]
  omega
theorem fitM.siz {m : Mn} (h : fitM m) : sizMend m ≤ 1048576 := by
 obtain ⟨-, h1, ⟨h2, h3⟩, h4, h5⟩ := h
 have q1 := sumL_fit h5
 have q2 := sumD_fit h3
 have q3 : 21 * m.wrote.length ≤ 21 * 61 := Nat.mul_le_mul_left _ h4
 have q4 : 60 * m.seen.length ≤ 60 * 61 := Nat.mul_le_mul_left _ h2
 unfold sizMend sizEntryS sizIntSS
 omega
theorem nodes_few8 {ds xs : List Int} {cop : Int} (h : nodesP ds cop xs) : xs.length ≤ 8 ∧ allInt xs := by
 obtain ⟨p1, p2⟩ := (ascP_iff _ _ _).1 h.2
 have hd := h.1.1
 have key : ∀ i (hi : i < xs.length), (i : Int) ≤ xs[i] := by
  intro i
  induction i with
  | zero => intro hi; exact (p2 _ (List.getElem_mem hi)).1
  | succ i ih =>
   intro hi
   have q := List.pairwise_iff_getElem.1 p1 i (i + 1) (by omega) hi (by omega)
   have q2 := ih (by omega)
   push_cast
   omega
 refine ⟨?_, fun z hz => by have := p2 z hz; omega⟩
 rcases Nat.eq_zero_or_pos xs.length with h0 | h0
 ·omega
 ·have q := key (xs.length - 1) (by omega)
  have q2 := (p2 _ (List.getElem_mem (show xs.length - 1 < xs.length by omega))).2
  omega
theorem entP.fit {e : Ent} (h : entP e) : e.fits ∧ e.data.size ≤ 60 := by
 obtain ⟨h1, h2, h3, h4, h5, h6⟩ := h
 unfold isPl at h1
 exact ⟨⟨by omega, by omega, by omega, by omega, by omega⟩, by omega⟩
theorem mnP.fit {ds : List Int} {cop : Int} {m : Mn} (h : mnP ds cop m) : fitM m := by
 have hs := nodes_few8 h.1.2.2.2.1
 have h1 := h.1.2.1
 have h2 := h.1.2.2.1
 refine ⟨⟨by omega, by omega, hs.2, fun e he => (h.seen e he).1.fit.1, fun l hl => (nodes_few8 (h.wrote l hl)).2⟩, by omega, ⟨by have := h.good.len; omega, fun e he => (h.seen e he).1.fit.2⟩, by have := h.wroteLe; omega, fun l hl => by have := (nodes_few8 (h.wrote l hl)).1; omega⟩
theorem fitM_new (e : Nat) (he : e ≤ 10) : fitM ⟨4, 1 + (e : Int), [], [], false, []⟩ := ⟨⟨by simp, by simp only; omega, (fun z hz => by cases hz), (fun z hz => by cases hz), fun l hl => by cases hl⟩, Nat.zero_le _, ⟨Nat.zero_le _, fun e he => by cases he⟩, Nat.zero_le _, fun l hl => by cases hl⟩
theorem fitM.sealed9 {ds : List Int} {cop : Int} {m : Mn} {x : Int} {l : List Ent} (h : (seal9M ds cop m x l).2 = true) : fitM (seal9M ds cop m x l).1 := by
 by_cases hp : mnP ds cop m
 ·by_cases ha : seal9P ds cop m x l
  ·rw [seal9M_yes hp ha]; exact ha.2.fit
  ·rw [seal9M_no hp ha] at h; cases h
 ·rw [seal9M_bad hp] at h; cases h
theorem fitM.planned9 {ds : List Int} {cop : Int} {m : Mn} {l : List Int} (h : (plan9M ds cop m l).2 = true) : fitM (plan9M ds cop m l).1 := by
 by_cases hp : mnP ds cop m
 ·by_cases ha : plan9P ds cop m l
  ·rw [plan9M_yes hp ha]
   have f := hp.fit
   have q := lastO_le hp
   refine ⟨⟨f.1.1, f.1.2.1, f.1.2.2.1, f.1.2.2.2.1, fun l hl z hz => ?_⟩, f.2.1, f.2.2.1, ?_, fun l hl => ?_⟩
   ·rw [(List.mem_replicate.1 hl).2] at hz; cases hz
   ·show (List.replicate _ _).length ≤ 61
    rw [List.length_replicate]
    omega
   ·rw [(List.mem_replicate.1 hl).2]; simp
  ·rw [plan9M_no hp ha] at h; cases h
 ·rw [plan9M_bad hp] at h; cases h
theorem fitM.acked9 {ds : List Int} {cop : Int} {m : Mn} {off x : Int} (hx : okInt x) (h : (ack9M ds cop m off x).2 = true) : fitM (ack9M ds cop m off x).1 := by
 by_cases hp : mnP ds cop m
 ·by_cases ha : ack9P ds m off x
  ·rw [ack9M_yes hp ha]
   have f := hp.fit
   have hk : off.toNat - 1 < m.wrote.length := by have := ha.1; omega
   have eg : m.wrote.getD (off.toNat - 1) [] = m.wrote[off.toNat - 1] := by rw [List.getD_eq_getElem?_getD, List.getElem?_eq_getElem hk]; rfl
   have hn := nodes_few8 (hp.wrote _ (List.getElem_mem hk))
   have hl := putL_len x m.wrote[off.toNat - 1]
   refine ⟨⟨f.1.1, f.1.2.1, f.1.2.2.1, f.1.2.2.2.1, fun l hl z hz => ?_⟩, f.2.1, f.2.2.1, ?_, fun l hl => ?_⟩
   ·rcases List.mem_or_eq_of_mem_set hl with q | q
    ·exact f.1.2.2.2.2 l q z hz
    ·rw [q, eg] at hz
     rcases mem_putL.1 hz with rfl | hz
     ·exact hx
     ·exact hn.2 z hz
   ·show (m.wrote.set _ _).length ≤ 61
    rw [List.length_set]
    exact f.2.2.2.1
   ·rcases List.mem_or_eq_of_mem_set hl with q | q
    ·exact f.2.2.2.2 l q
    ·rw [q, eg]; omega
  ·rw [ack9M_no hp ha] at h; cases h
 ·rw [ack9M_bad hp] at h; cases h
structure Pm where
 sa : Option Addr
 sc : Nat
 ea : Option Addr
 ec : Nat
 wa : Option Addr
 wc : Nat
structure DX (W : World) (b lo hi : Nat) (m : Mn) (q : Pm) : Prop where
 box : BxZ W 0 b [.int .i64 m.bye, .int .i64 m.epoch, .slice q.sa m.sealed.length q.sc, .slice q.ea m.seen.length q.ec, .bool m.planned, .slice q.wa m.wrote.length q.wc]
 own : ∃ rs, rs.map Nst.m = m.wrote ∧ MIn lo hi (.slice q.sa m.sealed.length q.sc) (.slice q.ea m.seen.length q.ec) (.slice q.wa m.wrote.length q.wc) rs m.sealed m.seen W
 fit : hi ≤ W.heap.size
 apart : b < lo ∨ hi ≤ b
variable {W W' : World} {b lo hi bk : Nat} {m : Mn} {q : Pm}
theorem DX.same (h : DX W b lo hi m q) (hb : BxZ W' 0 b [.int .i64 m.bye, .int .i64 m.epoch, .slice q.sa m.sealed.length q.sc, .slice q.ea m.seen.length q.ec, .bool m.planned, .slice q.wa m.wrote.length q.wc]) (hs : W.heap.size ≤ W'.heap.size) (heq : ∀ k, lo ≤ k → k < hi → W'.heap[k]? = W.heap[k]?) : DX W' b lo hi m q := by
 obtain ⟨rs, h1, h2⟩ := h.own
 exact ⟨hb, ⟨rs, h1, h2.same heq⟩, Nat.le_trans h.fit hs, h.apart⟩
theorem DX.below (h : DX W b lo hi m q) (hb : Below W.heap.size W W') : DX W' b lo hi m q := h.same (h.box.below hb) hb.size fun k h1 h2 => hb.block k (by have := h.fit; omega)
theorem DX.drawn (h : DX W b lo hi m q) (hd : Drawn bk W W') (h1 : bk < lo) (h2 : b ≠ bk) : DX W' b lo hi m q := h.same (h.box.drawn hd h2) hd.size fun k h3 h4 => hd.block k (by have := h.fit; omega) (by omega)
theorem DX.set (h : DX W b lo hi m q) {b' o : Nat} (h1 : b ≠ b') (h2 : b' < lo ∨ hi ≤ b') (u : Value) : DX (W.setCell ⟨b', o, none⟩ u) b lo hi m q := h.same (h.box.far h1 u) (by rw [World.size_setCell]; exact Nat.le_refl _) fun k h3 h4 => Below.heap_setCell _ _ _ k (by simp only; omega)
theorem DX.ow (h : DX W b lo hi m q) : OwMend lo hi (.agg #[.int .i64 m.bye, .int .i64 m.epoch, .slice q.sa m.sealed.length q.sc, .slice q.ea m.seen.length q.ec, .bool m.planned, .slice q.wa m.wrote.length q.wc]) m W := by
 obtain ⟨rs, h1, h2⟩ := h.own
 exact h2.mend h1
theorem DX.rd (h : DX W b lo hi m q) : RdMend (.agg #[.int .i64 m.bye, .int .i64 m.epoch, .slice q.sa m.sealed.length q.sc, .slice q.ea m.seen.length q.ec, .bool m.planned, .slice q.wa m.wrote.length q.wc]) m W := h.ow.rd
theorem DX.lt (h : DX W b lo hi m q) : b < W.heap.size := dCell_lt (h.box.2 0 _ rfl).1
theorem DX.weak {hi' : Nat} (h : DX W b lo hi m q) (h1 : hi ≤ hi') (h2 : hi' ≤ W.heap.size) (hb : b < lo) : DX W b lo hi' m q := by
 obtain ⟨rs, e1, e2⟩ := h.own
 exact ⟨h.box, ⟨rs, e1, e2.wide (Nat.le_refl _) h1⟩, h2, .inl hb⟩
theorem DX.put {x0 x1 x2 x3 x4 x5 : Value} {B : Nat} (h : ∃ rs, rs.map Nst.m = m.wrote ∧ MIn lo hi (.slice q.sa m.sealed.length q.sc) (.slice q.ea m.seen.length q.ec) (.slice q.wa m.wrote.length q.wc) rs m.sealed m.seen W) (hf : hi ≤ W.heap.size) (X : BxZ W B b [x0, x1, x2, x3, x4, x5]) (hb : b < lo ∨ hi ≤ b) :
  DX ((((((W.setCell ⟨b, 0, none⟩ (.int .i64 m.bye)).setCell ⟨b, 1, none⟩ (.int .i64 m.epoch)).setCell ⟨b, 2, none⟩ (.slice q.sa m.sealed.length q.sc)).setCell ⟨b, 3, none⟩ (.slice q.ea m.seen.length q.ec)).setCell ⟨b, 4, none⟩ (.bool m.planned)).setCell ⟨b, 5, none⟩ (.slice q.wa m.wrote.length q.wc)) b lo hi m q := by
 obtain ⟨rs, e1, e2⟩ := h
 refine ⟨⟨Nat.zero_le _, ((((((X.put 0 (.int .i64 m.bye)).put 1 (.int .i64 m.epoch)).put 2 (.slice q.sa m.sealed.length q.sc)).put 3 (.slice q.ea m.seen.length q.ec)).put 4 (.bool m.planned)).put 5 (.slice q.wa m.wrote.length q.wc)).2⟩, ⟨rs, e1, ((((((e2.far hb (.int .i64 m.bye)).far hb (.int .i64 m.epoch)).far hb (.slice q.sa m.sealed.length q.sc)).far hb (.slice q.ea m.seen.length q.ec)).far hb (.bool m.planned)).far hb (.slice q.wa m.wrote.length q.wc))⟩, by simpa using hf, hb⟩
theorem Ns.setFar9 {v : Value} {xs : List Int} (h : Ns W v xs) {b' o : Nat} (hb : xs = [] ∨ bO v ≠ b') (u : Value) : Ns (W.setCell ⟨b', o, none⟩ u) v xs := by
 obtain ⟨h0, a, cap, rfl, hcap, h⟩ := h
 refine ⟨h0, a, cap, rfl, hcap, ?_⟩
 rcases hb with h' | hb
 ·exact .inl h'
 ·rcases h with h | ⟨b, off, rfl, hc⟩
  ·exact .inl h
  ·exact .inr ⟨b, off, rfl, fun i hi => sO (hc i hi) (.inl hb)⟩
structure D9 (w : World) (bk bt : Nat) (ca : Option Addr) (cc : Nat) (ds : List Int) (cop : Int) (W : World) (B : Nat) (m : Mn) (q : Pm) : Prop where
 cur : Cur W bk
 drawn : Drawn bk w W
 cfg : Bx W w.heap.size [.slice ca ds.length cc, .int .i64 cop]
 ns : Ns W (.slice ca ds.length cc) ds
 res : BxZ W w.heap.size (w.heap.size + 1) [.int .i64 0, .int .i64 0, .slice none 0 0, .slice none 0 0, .bool false, .slice none 0 0]
 men : DX W bt (bt + 1) B m q
 fit : fitM m
variable {w : World} {ca : Option Addr} {cc : Nat} {ds : List Int} {cop : Int} {B bo bt : Nat}
theorem D9.move (h : D9 w bk bt ca cc ds cop W B m q) (hk : bk < w.heap.size) (ht : w.heap.size + 2 ≤ bt) (hne : ds = [] ∨ bO (.slice ca ds.length cc) ≠ bk) (hc : Cur W' bk) (hd : Drawn bk W W') : D9 w bk bt ca cc ds cop W' B m q :=
 ⟨hc, h.drawn.trans hd, h.cfg.drawn hd (by omega), h.ns.drawn hd hne, h.res.drawn hd (by omega), h.men.drawn hd (by omega) (by omega), h.fit⟩
theorem D9.below (h : D9 w bk bt ca cc ds cop W B m q) (hb : Below W.heap.size W W') : D9 w bk bt ca cc ds cop W' B m q :=
 ⟨h.cur.below hb, h.drawn.trans (Drawn.of_below hb), h.cfg.below hb, h.ns.below hb, h.res.below hb, h.men.below hb, h.fit⟩
theorem D9.set (h : D9 w bk bt ca cc ds cop W B m q) (hk : bk < w.heap.size) (ht : w.heap.size + 2 ≤ bt) (hw : ds = [] ∨ bO (.slice ca ds.length cc) < w.heap.size) (h1 : B ≤ bo) (h2 : bt + 1 ≤ bo) (o : Nat) (u : Value) : D9 w bk bt ca cc ds cop (W.setCell ⟨bo, o, none⟩ u) B m q :=
 ⟨h.cur.setNew4 (by omega) _ _, h.drawn.setNew (by omega) _ _, h.cfg.farB (by omega) _, Ns.setFar9 h.ns (by rcases hw with h | h; exact .inl h; exact .inr (by omega)) _, h.res.far (by omega) _, h.men.set (by omega) (.inr h1) _, h.fit⟩
theorem D9.cells (h : D9 w bk bt ca cc ds cop W B m q) : (W.cell? ⟨w.heap.size, 0, none⟩ = some (.slice ca ds.length cc) ∧ W.cell? ⟨w.heap.size, 1, none⟩ = some (.int .i64 cop)) ∧ W.cell? ⟨bt, 0, none⟩ = some (.int .i64 m.bye) ∧ W.cell? ⟨bt, 1, none⟩ = some (.int .i64 m.epoch) ∧ W.cell? ⟨bt, 2, none⟩ = some (.slice q.sa m.sealed.length q.sc) ∧ W.cell? ⟨bt, 3, none⟩ = some (.slice q.ea m.seen.length q.ec) ∧ W.cell? ⟨bt, 4, none⟩ = some (.bool m.planned) ∧ W.cell? ⟨bt, 5, none⟩ = some (.slice q.wa m.wrote.length q.wc) :=
 ⟨⟨h.cfg 0 _ rfl, h.cfg 1 _ rfl⟩, (h.men.box.2 0 _ rfl).1, (h.men.box.2 1 _ rfl).1, (h.men.box.2 2 _ rfl).1, (h.men.box.2 3 _ rfl).1, (h.men.box.2 4 _ rfl).1, (h.men.box.2 5 _ rfl).1⟩
theorem D9.weak {B' : Nat} (h : D9 w bk bt ca cc ds cop W B m q) (h1 : B ≤ B') (h2 : B' ≤ W.heap.size) : D9 w bk bt ca cc ds cop W B' m q :=
 ⟨h.cur, h.drawn, h.cfg, h.ns, h.res, h.men.weak h1 h2 (by omega), h.fit⟩
theorem D9.lt (h : D9 w bk bt ca cc ds cop W B m q) : bt < W.heap.size := h.men.lt
variable {lo' hi' : Nat} {m' : Mn} {q' : Pm}
theorem D9.set6 (h : D9 w bk bt ca cc ds cop W B m q) (hk : bk < w.heap.size) (ht : w.heap.size + 2 ≤ bt) (hw : ds = [] ∨ bO (.slice ca ds.length cc) < w.heap.size) (h1 : B ≤ bo) (h2 : bt + 1 ≤ bo) (u0 u1 u2 u3 u4 u5 : Value) : D9 w bk bt ca cc ds cop ((((((W.setCell ⟨bo, 0, none⟩ (u0)).setCell ⟨bo, 1, none⟩ (u1)).setCell ⟨bo, 2, none⟩ (u2)).setCell ⟨bo, 3, none⟩ (u3)).setCell ⟨bo, 4, none⟩ (u4)).setCell ⟨bo, 5, none⟩ (u5)) B m q :=
 ((((((h.set hk ht hw h1 h2 0 u0).set hk ht hw h1 h2 1 u1).set hk ht hw h1 h2 2 u2).set hk ht hw h1 h2 3 u3).set hk ht hw h1 h2 4 u4).set hk ht hw h1 h2 5 u5)
theorem D9.take (h : D9 w bk bt ca cc ds cop W B m q) (hk : bk < w.heap.size) (ht : w.heap.size + 2 ≤ bt) (hw : ds = [] ∨ bO (.slice ca ds.length cc) < w.heap.size) (N : DX W bo lo' hi' m' q') (hl : bt + 1 ≤ lo') (hf : fitM m') :
  D9 w bk bt ca cc ds cop ((((((W.setCell ⟨bt, 0, none⟩ (.int .i64 m'.bye)).setCell ⟨bt, 1, none⟩ (.int .i64 m'.epoch)).setCell ⟨bt, 2, none⟩ (.slice q'.sa m'.sealed.length q'.sc)).setCell ⟨bt, 3, none⟩ (.slice q'.ea m'.seen.length q'.ec)).setCell ⟨bt, 4, none⟩ (.bool m'.planned)).setCell ⟨bt, 5, none⟩ (.slice q'.wa m'.wrote.length q'.wc)) W.heap.size m' q' := by
 have hn : ds = [] ∨ bO (.slice ca ds.length cc) ≠ bt := by rcases hw with h | h; exact .inl h; exact .inr (by omega)
 obtain ⟨rs, e1, e2⟩ := N.own
 exact ⟨((((((h.cur.setNew4 (by omega) _ _).setNew4 (by omega) _ _).setNew4 (by omega) _ _).setNew4 (by omega) _ _).setNew4 (by omega) _ _).setNew4 (by omega) _ _), ((((((h.drawn.setNew (by omega) _ _).setNew (by omega) _ _).setNew (by omega) _ _).setNew (by omega) _ _).setNew (by omega) _ _).setNew (by omega) _ _), ((((((h.cfg.farB (by omega) _).farB (by omega) _).farB (by omega) _).farB (by omega) _).farB (by omega) _).farB (by omega) _), (Ns.setFar9 (Ns.setFar9 (Ns.setFar9 (Ns.setFar9 (Ns.setFar9 (Ns.setFar9 h.ns hn _) hn _) hn _) hn _) hn _) hn _), ((((((h.res.far (by omega) _).far (by omega) _).far (by omega) _).far (by omega) _).far (by omega) _).far (by omega) _), DX.put ⟨rs, e1, e2.wide hl N.fit⟩ (Nat.le_refl _) h.men.box (.inl (by omega)), hf⟩
theorem ApM.pm {lo hi : Nat} {u : Value} (h : ApM lo hi u m W) : ∃ q : Pm, u = .agg #[.int .i64 m.bye, .int .i64 m.epoch, .slice q.sa m.sealed.length q.sc, .slice q.ea m.seen.length q.ec, .bool m.planned, .slice q.wa m.wrote.length q.wc] ∧ ∃ rs, rs.map Nst.m = m.wrote ∧ MIn lo hi (.slice q.sa m.sealed.length q.sc) (.slice q.ea m.seen.length q.ec) (.slice q.wa m.wrote.length q.wc) rs m.sealed m.seen W := by
 obtain ⟨sa, sc, ea, ec, wa, wc, rs, h1, h2, h3⟩ := h.parts
 exact ⟨⟨sa, sc, ea, ec, wa, wc⟩, h1, rs, h2, h3⟩
theorem ApM.both {lo hi : Nat} {u : Value} {ok : Bool} (h : OwMend lo hi u m W) (ha : ok = true → ApM lo hi u m W) : ∃ q : Pm, u = .agg #[.int .i64 m.bye, .int .i64 m.epoch, .slice q.sa m.sealed.length q.sc, .slice q.ea m.seen.length q.ec, .bool m.planned, .slice q.wa m.wrote.length q.wc] ∧ (ok = true → ∃ rs, rs.map Nst.m = m.wrote ∧ MIn lo hi (.slice q.sa m.sealed.length q.sc) (.slice q.ea m.seen.length q.ec) (.slice q.wa m.wrote.length q.wc) rs m.sealed m.seen W) := by
 cases ok with
 | true =>
  obtain ⟨q, h1, h2⟩ := (ha rfl).pm
  exact ⟨q, h1, fun _ => h2⟩
 | false =>
  obtain ⟨sa, sc, ea, ec, wa, wc, rs, h1, -⟩ := h.parts
  exact ⟨⟨sa, sc, ea, ec, wa, wc⟩, h1, fun h => by cases h⟩
theorem OwMend.bare (lo hi : Nat) (a b : Int) (p : Bool) (W : World) : OwMend lo hi (.agg #[.int .i64 b, .int .i64 a, .slice none 0 0, .slice none 0 0, .bool p, .slice none 0 0]) ⟨b, a, [], [], p, []⟩ W :=
 ⟨.slice none 0 0, .slice none 0 0, .slice none 0 0, [], rfl, rfl, ⟨⟨by simp, none, 0, rfl, by simp, .inl rfl⟩, .inl rfl⟩, ⟨OwnRw.nil _ _ _ _ (by simp), .inl rfl⟩, ⟨OwnRw.nil _ _ _ _ (by simp), .inl rfl, (fun p hp => by cases hp), (fun i j hi => by simp at hi), fun i hi => by simp at hi⟩, .inl rfl, .inl rfl, .inl rfl⟩
theorem specNew_any (a b : Int) (w : World) :
  Calls Tryz.prog 140 #[.int .i64 a, .int .i64 b] w fun e w' => e = .returned (.agg #[.int .i64 b, .int .i64 a, .slice none 0 0, .slice none 0 0, .bool false, .slice none 0 0]) ∧ Below w.heap.size w w' := by
 have bA : ∀ o, Below w.heap.size w (w.alloc o) := fun o => (Below.refl _ _).alloc (Nat.le_refl _) o
 have X := Bx.new w [.int .i64 b, .int .i64 a, .slice none 0 0, .slice none 0 0, .bool false, .slice none 0 0] 30
 have q0 := X 0 _ rfl
 have q1 := X 1 _ rfl
 have q2 := X 2 _ rfl
 have q3 := X 3 _ rfl
 have q4 := X 4 _ rfl
 have q5 := X 5 _ rfl
 go_enter Tryz.func140, Tryz.ntmps140
 go_wp2_with fail
 refine bodyPost_ret (v := .agg #[.int .i64 b, .int .i64 a, .slice none 0 0, .slice none 0 0, .bool false, .slice none 0 0]) (by simp [results, Tryz.results140, go_sem, q0, q1, q2, q3, q4, q5]) rfl ⟨rfl, bA _⟩
end Go.Proofs.YtjkjmapibcfcdaaGreat
