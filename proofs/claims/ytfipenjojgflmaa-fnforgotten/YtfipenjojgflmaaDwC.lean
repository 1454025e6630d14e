/- Words that are read, in memory from a block on; the words that l8Draw appends. -/
import Derived.Test.YtfipenjojgflmaaDwB
namespace Go.Proofs.Ytfipenjojgflmaa
open Go.ChangeShapes Go.WideShapes Go.ChangeAt Go.RowKit
set_option linter.unusedVariables false
set_option linter.unusedSimpArgs false
set_option maxRecDepth 100000

/-- Eras in memory from lo on; their lists may be shared. -/
def RdW (lo : Nat) (v : Value) (ms : List Wd) (W : World) : Prop := ∃ rs : List (Nst Wd), rs.map Nst.m = ms ∧ OwnRw 3 wdCl W lo v rs ∧ ∀ p ∈ rs, OwnN W lo (Sv Wd.acks p) p.m.acks
section
variable {lo lo' hi bk : Nat} {v : Value} {ms : List Wd} {W W' : World}
theorem RdW.rd (h : RdW lo v ms W) : RdWordS v ms W := by
  obtain ⟨rs, h1, h2, h3⟩ := h
  exact ⟨rs, h1, h2.rw, fun p hp => (h3 p hp).bs⟩
theorem RdW.of (h : WIn lo hi v ms W) : RdW lo v ms W := by
  obtain ⟨rs, h1, h2, -⟩ := h
  exact ⟨rs, h1, ApR.own elemW h2.1, h2.2.1⟩
theorem RdW.mono (h : RdW lo v ms W) (hl : lo' ≤ lo) : RdW lo' v ms W := by
  obtain ⟨rs, h1, h2, h3⟩ := h
  exact ⟨rs, h1, h2.mono hl, fun p hp => (h3 p hp).mono hl⟩
theorem RdW.below (h : RdW lo v ms W) (hb : Below W.heap.size W W') : RdW lo v ms W' := by
  obtain ⟨rs, h1, h2, h3⟩ := h
  exact ⟨rs, h1, h2.below hb, fun p hp => (h3 p hp).below hb⟩
theorem OwnRw.drawnW {rs : List (Nst Wd)} (h : OwnRw 3 wdCl W lo v rs) (hd : Drawn bk W W') (hb : bk < lo) : OwnRw 3 wdCl W' lo v rs := by
  obtain ⟨h0, a, cap, rfl, hcap, h⟩ := h
  refine ⟨h0, a, cap, rfl, hcap, ?_⟩
  rcases h with h | ⟨b, off, rfl, hl, hc⟩
  · exact .inl h
  · exact .inr ⟨b, off, rfl, hl, fun i hi j u hu => by
      obtain ⟨c1, c2⟩ := hc i hi j u hu
      exact ⟨hd.cell c1 (by omega), (hd.frozen (by omega) (dCell_lt c1)).trans c2⟩⟩
theorem RdW.drawn (h : RdW lo v ms W) (hd : Drawn bk W W') (hb : bk < lo) : RdW lo v ms W' := by
  obtain ⟨rs, h1, h2, h3⟩ := h
  exact ⟨rs, h1, h2.drawnW hd hb, fun p hp => (h3 p hp).drawn hd hb⟩
theorem OwnRw.farW {rs : List (Nst Wd)} (h : OwnRw 3 wdCl W lo v rs) {b o : Nat} (hb : b < lo) (u : Value) : OwnRw 3 wdCl (W.setCell ⟨b, o, none⟩ u) lo v rs := by
  obtain ⟨h0, a, cap, rfl, hcap, h⟩ := h
  refine ⟨h0, a, cap, rfl, hcap, ?_⟩
  rcases h with h | ⟨b', off, rfl, hl, hc⟩
  · exact .inl h
  · exact .inr ⟨b', off, rfl, hl, fun i hi j x hx => by
      obtain ⟨c1, c2⟩ := hc i hi j x hx
      exact ⟨set_other c1 (.inl (by omega)), (World.frozen?_of_block (a := ⟨b', off + i * 3 + j, none⟩) (Below.heap_setCell W ⟨b, o, none⟩ u b' (by simp only; omega))).trans c2⟩⟩
theorem RdW.far (h : RdW lo v ms W) {b o : Nat} (hb : b < lo) (u : Value) : RdW lo v ms (W.setCell ⟨b, o, none⟩ u) := by
  obtain ⟨rs, h1, h2, h3⟩ := h
  exact ⟨rs, h1, h2.farW hb u, fun p hp => (h3 p hp).far hb u⟩
end
/-- How many words a box holds. -/
def wdLen (W : World) (b : Nat) : Nat := match W.cell? ⟨b, 1, none⟩ with
  | some (.slice _ n _) => n
  | _ => 0
theorem wdLen_of {W : World} {b n c : Nat} {a : Option Addr} (h : W.cell? ⟨b, 1, none⟩ = some (.slice a n c)) : wdLen W b = n := by unfold wdLen; rw [h]
theorem OwnN.setNe {w : World} {lo b o : Nat} {v : Value} {xs : List Int} (h : OwnN w lo v xs) (hb : xs = [] ∨ blockOf v ≠ b) (u : Value) : OwnN (w.setCell ⟨b, o, none⟩ u) lo v xs :=
  h.grown (grown_set w b o u) (by rcases hb with h | h; exact .inl h; exact .inr fun e => h (Option.some.inj e).symm)
structure DE8 (w : World) (bk rb lo : Nat) (W : World) (p : Nst Wd) (ms : List Wd) (tr : Int) (a : Option Addr) (c : Nat) : Prop where
  cur : Cur W bk
  drawn : Drawn bk w W
  res : BxZ W w.heap.size (w.heap.size + 1) [.int .i64 0, .slice none 0 0]
  box : BxZ W 0 rb [.int .i64 tr, .slice a ms.length c]
  row : ∃ rs : List (Nst Wd), rs.map Nst.m = ms ∧ ApR 35 3 wdCl W lo (.slice a ms.length c) rs ∧ ∀ q ∈ rs, OwnN W lo (Sv Wd.acks q) q.m.acks ∧ (q.m.acks = [] ∨ (touch (.slice a ms.length c) ≠ some (blockOf (Sv Wd.acks q)) ∧ blockOf (Sv Wd.acks q) ≠ rb))
  set : OwnN W lo (Sv Wd.acks p) p.m.acks ∧ (p.m.acks = [] ∨ (touch (.slice a ms.length c) ≠ some (blockOf (Sv Wd.acks p)) ∧ blockOf (Sv Wd.acks p) ≠ rb))
  away : touch (.slice a ms.length c) ≠ some rb
variable {w W W' : World} {bk rb lo : Nat} {p : Nst Wd} {ms : List Wd} {tr : Int} {a : Option Addr} {c : Nat}
theorem DE8.below (h : DE8 w bk rb lo W p ms tr a c) (hb : Below W.heap.size W W') : DE8 w bk rb lo W' p ms tr a c := by
  obtain ⟨rs, h1, h2, h3⟩ := h.row
  exact ⟨h.cur.below hb, h.drawn.trans (Drawn.of_below hb), h.res.below hb, h.box.below hb, ⟨rs, h1, h2.below hb, fun q hq => ⟨(h3 q hq).1.below hb, (h3 q hq).2⟩⟩, ⟨h.set.1.below hb, h.set.2⟩, h.away⟩
theorem DE8.move (h : DE8 w bk rb lo W p ms tr a c) (hk : bk < w.heap.size) (h1 : bk < lo) (h2 : rb ≠ bk) (hc : Cur W' bk) (hd : Drawn bk W W') : DE8 w bk rb lo W' p ms tr a c := by
  obtain ⟨rs, r1, r2, r3⟩ := h.row
  exact ⟨hc, h.drawn.trans hd, h.res.drawn hd (by omega), h.box.drawn hd h2, ⟨rs, r1, r2.kept elemW hd.row (.inr fun e => by have := (r2.touched elemW e).1; omega), fun q hq => ⟨(r3 q hq).1.drawn hd h1, (r3 q hq).2⟩⟩, ⟨h.set.1.drawn hd h1, h.set.2⟩, h.away⟩
theorem DE8.rd (h : DE8 w bk rb lo W p ms tr a c) : RdW lo (.slice a ms.length c) ms W := by
  obtain ⟨rs, r1, r2, r3⟩ := h.row
  exact ⟨rs, r1, r2.own elemW, fun q hq => (r3 q hq).1⟩
/-- One more era. -/
theorem DE8.push (h : DE8 w bk rb lo W p ms tr a c) (hk : bk < w.heap.size) (hl : w.heap.size + 1 < lo) (hr0 : w.heap.size + 1 < rb) (hlo : lo ≤ W.heap.size) (ty : TypeId) (sv : Value) (hs : Rw 3 wdCl W sv [p]) (hn : ms.length ≤ 1000) :
    ∃ a' c' w', (Builtin.append_ #[27, 27] ty #[.slice a ms.length c, sv]).run Try.prog W = .ok (.slice a' (ms.length + 1) c') w' ∧ BxZ w' 0 rb [.int .i64 tr, .slice a ms.length c] ∧ DE8 w bk rb lo (w'.setCell ⟨rb, 1, none⟩ (.slice a' (ms.length + 1) c')) p (ms ++ [p.m]) tr a' c' := by
  obtain ⟨rs, r1, r2, r3⟩ := h.row
  have hrl : rs.length = ms.length := by rw [← r1, List.length_map]
  have hrb : rb < W.heap.size := dCell_lt (h.box.2 0 _ rfl).1
  obtain ⟨v', w', hr, P7, g7, t7⟩ := run_apR elemW ty r2 sv hs (by simp; omega) (by simp; omega) hlo
  obtain ⟨a', c', rfl⟩ := ApR.slice elemW P7
  have hln : (rs ++ [p]).length = ms.length + 1 := by simp [hrl]
  rw [hln] at hr P7 t7
  have tb : ∀ j, touch (.slice a ms.length c) = some j → lo ≤ j := fun j hj => (r2.touched elemW hj).1
  have N7 := h.box.grown g7 h.away
  have R7 := h.res.grown g7 (fun e => by have := tb _ e; omega)
  have C7 := h.cur.grown g7 (fun k hk' => by have := tb k hk'; omega)
  have Dw7 := h.drawn.grown g7 (fun k hk' => by have := tb k hk'; omega)
  have T7 : touch (.slice a' (ms.length + 1) c') ≠ some rb := fun e => by
    rcases t7 with h' | h'
    · exact h.away (h' ▸ e)
    · have := h' rb e; omega
  -- a list that stays
  have K : ∀ q : Nst Wd, OwnN W lo (Sv Wd.acks q) q.m.acks ∧ (q.m.acks = [] ∨ (touch (.slice a ms.length c) ≠ some (blockOf (Sv Wd.acks q)) ∧ blockOf (Sv Wd.acks q) ≠ rb)) →
      OwnN (w'.setCell ⟨rb, 1, none⟩ (.slice a' (ms.length + 1) c')) lo (Sv Wd.acks q) q.m.acks ∧ (q.m.acks = [] ∨ (touch (.slice a' (ms.length + 1) c') ≠ some (blockOf (Sv Wd.acks q)) ∧ blockOf (Sv Wd.acks q) ≠ rb)) := by
    intro q ⟨q1, q2⟩
    have hlt := q1.bs.lt
    refine ⟨(q1.grown g7 (by rcases q2 with h | h; exact .inl h; exact .inr h.1)).setNe (by rcases q2 with h | h; exact .inl h; exact .inr h.2) _, ?_⟩
    rcases q2 with h | h
    · exact .inl h
    · rcases hlt with h' | h'
      · exact .inl h'
      · refine .inr ⟨fun e => ?_, h.2⟩
        rcases t7 with h'' | h''
        · exact h.1 (h'' ▸ e)
        · have := h'' _ e; omega
  refine ⟨a', c', w', hr, N7, ?_⟩
  have el : (ms ++ [p.m]).length = ms.length + 1 := by simp
  have B8 := N7.put 1 (.slice a' (ms.length + 1) c')
  refine ⟨C7.setNew4 (by omega) _ _, Dw7.setNew (by omega) _ _, R7.far (by omega) _, by rw [el]; exact B8, ⟨rs ++ [p], by rw [List.map_append, r1]; rfl, by rw [el]; exact ApR.put elemW P7 T7 _, fun q hq => ?_⟩, by rw [el]; exact K p h.set, by rw [el]; exact T7⟩
  rw [el]
  rcases List.mem_append.1 hq with hq | hq
  · exact K q (r3 q hq)
  · obtain rfl : q = p := by simpa using hq
    exact K q h.set
end Go.Proofs.Ytfipenjojgflmaa
