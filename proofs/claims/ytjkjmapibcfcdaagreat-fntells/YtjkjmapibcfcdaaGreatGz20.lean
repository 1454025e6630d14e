/- Several texts in one: RgM, RgN, RgO. -/
import Derived.Test.YtjkjmapibcfcdaaGreatRgJ
import Derived.Test.YtjkjmapibcfcdaaGreatRgK
namespace Go.Proofs.YtjkjmapibcfcdaaGreat
open Go.ChangeShapes Go.WideShapes Go.ChangeAt Go.RowKit
set_option linter.unusedSimpArgs false
set_option linter.unusedVariables false
set_option maxRecDepth 100000
def RdO (lo : Nat) (v : Value) (ms : List Er) (W : World) : Prop := ∃ rs : List (Nst Er), rs.map Nst.m = ms ∧ OwnRw 3 erCl W lo v rs ∧ ∀ p ∈ rs, OwnN W lo (Sv Er.nodes p) p.m.nodes
section
variable {lo lo' hi bk : Nat} {v : Value} {ms : List Er} {W W' : World}
theorem RdO.rd (h : RdO lo v ms W) : RdEraS v ms W := by
 obtain ⟨rs, h1, h2, h3⟩ := h
 exact ⟨rs, h1, h2.rw, fun p hp => (h3 p hp).bs⟩
theorem RdO.of (h : OwEraS lo hi v ms W) : RdO lo v ms W := by
 obtain ⟨rs, h1, h2, -, h4, -⟩ := h
 exact ⟨rs, h1, h2, fun p hp => (h4 p hp).1⟩
theorem RdO.mono (h : RdO lo v ms W) (hl : lo' ≤ lo) : RdO lo' v ms W := by
 obtain ⟨rs, h1, h2, h3⟩ := h
 exact ⟨rs, h1, h2.mono hl, fun p hp => (h3 p hp).mono hl⟩
theorem RdO.below (h : RdO lo v ms W) (hb : Below W.heap.size W W') : RdO lo v ms W' := by
 obtain ⟨rs, h1, h2, h3⟩ := h
 exact ⟨rs, h1, h2.below hb, fun p hp => (h3 p hp).below hb⟩
theorem OwnRw.drawnE {rs : List (Nst Er)} (h : OwnRw 3 erCl W lo v rs) (hd : Drawn bk W W') (hb : bk < lo) : OwnRw 3 erCl W' lo v rs := by
 obtain ⟨h0, a, cap, rfl, hcap, h⟩ := h
 refine ⟨h0, a, cap, rfl, hcap, ?_⟩
 rcases h with h | ⟨b, off, rfl, hl, hc⟩
 ·exact .inl h
 ·exact .inr ⟨b, off, rfl, hl, fun i hi j u hu => by
   obtain ⟨c1, c2⟩ := hc i hi j u hu
   exact ⟨hd.cell c1 (by omega), (hd.frozen (by omega) (dCell_lt c1)).trans c2⟩⟩
theorem RdO.drawn (h : RdO lo v ms W) (hd : Drawn bk W W') (hb : bk < lo) : RdO lo v ms W' := by
 obtain ⟨rs, h1, h2, h3⟩ := h
 exact ⟨rs, h1, h2.drawnE hd hb, fun p hp => (h3 p hp).drawn hd hb⟩
theorem OwnRw.farR {rs : List (Nst Er)} (h : OwnRw 3 erCl W lo v rs) {b o : Nat} (hb : b < lo) (u : Value) : OwnRw 3 erCl (W.setCell ⟨b, o, none⟩ u) lo v rs := by
 obtain ⟨h0, a, cap, rfl, hcap, h⟩ := h
 refine ⟨h0, a, cap, rfl, hcap, ?_⟩
 rcases h with h | ⟨b', off, rfl, hl, hc⟩
 ·exact .inl h
 ·exact .inr ⟨b', off, rfl, hl, fun i hi j x hx => by
   obtain ⟨c1, c2⟩ := hc i hi j x hx
   exact ⟨sO c1 (.inl (by omega)), (World.frozen?_of_block (a := ⟨b', off + i * 3 + j, none⟩) (Below.heap_setCell W ⟨b, o, none⟩ u b' (by simp only; omega))).trans c2⟩⟩
theorem RdO.far (h : RdO lo v ms W) {b o : Nat} (hb : b < lo) (u : Value) : RdO lo v ms (W.setCell ⟨b, o, none⟩ u) := by
 obtain ⟨rs, h1, h2, h3⟩ := h
 exact ⟨rs, h1, h2.farR hb u, fun p hp => (h3 p hp).far hb u⟩
end
theorem cell_of_block {W : World} {g t : Nat} {cur : Array Value} {T : TypeId} {f : Nat × Nat} (h : W.heap[g]? = some (.cells cur T f)) : W.cell? ⟨g, t, none⟩ = cur[t]? := by
 simp [World.cell?, h]
theorem ApR.of_full {W : World} {lo c : Nat} {a : Option Addr} {rs : List (Nst Er)} (h : OwnRw 3 erCl W lo (.slice a rs.length c) rs) (hF : Full W lo (.slice a rs.length c)) : ApR 98 3 erCl W lo (.slice a rs.length c) rs := by
 rcases hF with ⟨a', e⟩ | ⟨g, n, cap, cur, e, h0, hg, hnc, hc, hs⟩
 ·simp only [Value.slice.injEq] at e
  obtain ⟨rfl, e1, e2⟩ := e
  exact .inl ⟨List.eq_nil_of_length_eq_zero e1, a, by rw [e1, e2]⟩
 ·simp only [Value.slice.injEq] at e
  obtain ⟨rfl, e1, e2⟩ := e
  subst e1
  subst e2
  refine .inr ⟨fcells_len erCl_len rs, .inr ⟨g, c, cur, rfl, h0, hg, hnc, hc, hs, ?_⟩⟩
  obtain ⟨-, a', c', e', -, h⟩ := h
  simp only [Value.slice.injEq] at e'
  obtain ⟨e1, -, rfl⟩ := e'
  have hl : (cur.toList.take (rs.length * 3)).length = rs.length * 3 := by
   have h1 : cur.toList.length = c * 3 := by simpa using hs
   rw [List.length_take, h1]
   have : rs.length * 3 ≤ c * 3 := Nat.mul_le_mul_right _ hnc
   omega
  refine List.ext_getElem? fun t => ?_
  rcases Nat.lt_or_ge t (rs.length * 3) with ht | ht
  ·have hi : t / 3 < rs.length := by omega
   rcases h with h | ⟨b, off, hb, -, hc'⟩
   ·subst h; simp at hi
   ·rw [← e1] at hb
    simp only [Option.some.injEq, Addr.mk.injEq, and_true] at hb
    obtain ⟨rfl, rfl⟩ := hb
    have hj : t % 3 < (erCl rs[t / 3]).length := by rw [erCl_len]; omega
    have h1 := (hc' (t / 3) hi (t % 3) _ (List.getElem?_eq_getElem hj)).1
    have h2 := fcells_at erCl_len rs (t / 3) hi (t % 3) _ (List.getElem?_eq_getElem hj)
    have et : 0 + t / 3 * 3 + t % 3 = t := by omega
    have et' : t / 3 * 3 + t % 3 = t := by omega
    rw [et, cell_of_block hg] at h1
    rw [et'] at h2
    rw [h2, List.getElem?_take_of_lt ht, Array.getElem?_toList, h1]
  ·rw [List.getElem?_eq_none (by omega), List.getElem?_eq_none (by rw [fcells_len erCl_len]; omega)]
def eraLen (W : World) (b : Nat) : Nat := match W.cell? ⟨b, 0, none⟩ with
 | some (.slice _ n _) => n
 | _ => 0
theorem eraLen_of {W : World} {b n c : Nat} {a : Option Addr} (h : W.cell? ⟨b, 0, none⟩ = some (.slice a n c)) : eraLen W b = n := by unfold eraLen; rw [h]
theorem OwnN.setNe {w : World} {lo b o : Nat} {v : Value} {xs : List Int} (h : OwnN w lo v xs) (hb : xs = [] ∨ bO v ≠ b) (u : Value) : OwnN (w.setCell ⟨b, o, none⟩ u) lo v xs :=
 h.grown (grown_set w b o u) (by rcases hb with h | h; exact .inl h; exact .inr fun e => h (Option.some.inj e).symm)
structure DE7 (w : World) (bk rb lo : Nat) (W : World) (p : Nst Er) (ms : List Er) (tr : Int) (a : Option Addr) (c : Nat) : Prop where
 cur : Cur W bk
 drawn : Drawn bk w W
 res : BxZ W w.heap.size (w.heap.size + 1) [.slice none 0 0, .int .i64 0]
 box : BxZ W 0 rb [.slice a ms.length c, .int .i64 tr]
 row : ∃ rs : List (Nst Er), rs.map Nst.m = ms ∧ ApR 98 3 erCl W lo (.slice a ms.length c) rs ∧ ∀ q ∈ rs, OwnN W lo (Sv Er.nodes q) q.m.nodes ∧ (q.m.nodes = [] ∨ (touch (.slice a ms.length c) ≠ some (bO (Sv Er.nodes q)) ∧ bO (Sv Er.nodes q) ≠ rb))
 set : OwnN W lo (Sv Er.nodes p) p.m.nodes ∧ (p.m.nodes = [] ∨ (touch (.slice a ms.length c) ≠ some (bO (Sv Er.nodes p)) ∧ bO (Sv Er.nodes p) ≠ rb))
 away : touch (.slice a ms.length c) ≠ some rb
variable {w W W' : World} {bk rb lo : Nat} {p : Nst Er} {ms : List Er} {tr : Int} {a : Option Addr} {c : Nat}
theorem DE7.below (h : DE7 w bk rb lo W p ms tr a c) (hb : Below W.heap.size W W') : DE7 w bk rb lo W' p ms tr a c := by
 obtain ⟨rs, h1, h2, h3⟩ := h.row
 exact ⟨h.cur.below hb, h.drawn.trans (Drawn.of_below hb), h.res.below hb, h.box.below hb, ⟨rs, h1, h2.below hb, fun q hq => ⟨(h3 q hq).1.below hb, (h3 q hq).2⟩⟩, ⟨h.set.1.below hb, h.set.2⟩, h.away⟩
theorem DE7.move (h : DE7 w bk rb lo W p ms tr a c) (hk : bk < w.heap.size) (h1 : bk < lo) (h2 : rb ≠ bk) (hc : Cur W' bk) (hd : Drawn bk W W') : DE7 w bk rb lo W' p ms tr a c := by
 obtain ⟨rs, r1, r2, r3⟩ := h.row
 exact ⟨hc, h.drawn.trans hd, h.res.drawn hd (by omega), h.box.drawn hd h2, ⟨rs, r1, r2.kept elemR hd.row (.inr fun e => by have := (r2.touched elemR e).1; omega), fun q hq => ⟨(r3 q hq).1.drawn hd h1, (r3 q hq).2⟩⟩, ⟨h.set.1.drawn hd h1, h.set.2⟩, h.away⟩
theorem DE7.rd (h : DE7 w bk rb lo W p ms tr a c) : RdO lo (.slice a ms.length c) ms W := by
 obtain ⟨rs, r1, r2, r3⟩ := h.row
 exact ⟨rs, r1, r2.own elemR, fun q hq => (r3 q hq).1⟩
theorem DE7.push (h : DE7 w bk rb lo W p ms tr a c) (hk : bk < w.heap.size) (hl : w.heap.size + 1 < lo) (hr0 : w.heap.size + 1 < rb) (hlo : lo ≤ W.heap.size) (ty : TypeId) (sv : Value) (hs : Rw 3 erCl W sv [p]) (hn : ms.length ≤ 1000) :
  ∃ a' c' w', (Builtin.append_ #[40, 40] ty #[.slice a ms.length c, sv]).run Tryz.prog W = .ok (.slice a' (ms.length + 1) c') w' ∧ BxZ w' 0 rb [.slice a ms.length c, .int .i64 tr] ∧ DE7 w bk rb lo (w'.setCell ⟨rb, 0, none⟩ (.slice a' (ms.length + 1) c')) p (ms ++ [p.m]) tr a' c' := by
 obtain ⟨rs, r1, r2, r3⟩ := h.row
 have hrl : rs.length = ms.length := by rw [← r1, List.length_map]
 have hrb : rb < W.heap.size := dCell_lt (h.box.2 0 _ rfl).1
 obtain ⟨v', w', hr, P7, g7, t7⟩ := run_apR elemR ty r2 sv hs (by simp; omega) (by simp; omega) hlo
 obtain ⟨a', c', rfl⟩ := ApR.slice elemR P7
 have hln : (rs ++ [p]).length = ms.length + 1 := by simp [hrl]
 rw [hln] at hr P7 t7
 have tb : ∀ j, touch (.slice a ms.length c) = some j → lo ≤ j := fun j hj => (r2.touched elemR hj).1
 have N7 := h.box.grown g7 h.away
 have R7 := h.res.grown g7 (fun e => by have := tb _ e; omega)
 have C7 := h.cur.grown g7 (fun k hk' => by have := tb k hk'; omega)
 have D7 := h.drawn.grown g7 (fun k hk' => by have := tb k hk'; omega)
 have T7 : touch (.slice a' (ms.length + 1) c') ≠ some rb := fun e => by
  rcases t7 with h' | h'
  ·exact h.away (h' ▸ e)
  ·have := h' rb e; omega
 -- a list that stays
 have K : ∀ q : Nst Er, OwnN W lo (Sv Er.nodes q) q.m.nodes ∧ (q.m.nodes = [] ∨ (touch (.slice a ms.length c) ≠ some (bO (Sv Er.nodes q)) ∧ bO (Sv Er.nodes q) ≠ rb)) →
   OwnN (w'.setCell ⟨rb, 0, none⟩ (.slice a' (ms.length + 1) c')) lo (Sv Er.nodes q) q.m.nodes ∧ (q.m.nodes = [] ∨ (touch (.slice a' (ms.length + 1) c') ≠ some (bO (Sv Er.nodes q)) ∧ bO (Sv Er.nodes q) ≠ rb)) := by
  intro q ⟨q1, q2⟩
  have hlt := q1.bs.lt
  refine ⟨(q1.grown g7 (by rcases q2 with h | h; exact .inl h; exact .inr h.1)).setNe (by rcases q2 with h | h; exact .inl h; exact .inr h.2) _, ?_⟩
  rcases q2 with h | h
  ·exact .inl h
  ·rcases hlt with h' | h'
   ·exact .inl h'
   ·refine .inr ⟨fun e => ?_, h.2⟩
    rcases t7 with h'' | h''
    ·exact h.1 (h'' ▸ e)
    ·have := h'' _ e; omega
 refine ⟨a', c', w', hr, N7, ?_⟩
 have el : (ms ++ [p.m]).length = ms.length + 1 := by simp
 have B8 := N7.put 0 (.slice a' (ms.length + 1) c')
 refine ⟨C7.setNew4 (by omega) _ _, D7.setNew (by omega) _ _, R7.far (by omega) _, by rw [el]; exact B8, ⟨rs ++ [p], by rw [List.map_append, r1]; rfl, by rw [el]; exact ApR.put elemR P7 T7 _, fun q hq => ?_⟩, by rw [el]; exact K p h.set, by rw [el]; exact T7⟩
 rw [el]
 rcases List.mem_append.1 hq with hq | hq
 ·exact K q (r3 q hq)
 ·obtain rfl : q = p := by simpa using hq
  exact K q h.set
end Go.Proofs.YtjkjmapibcfcdaaGreat
