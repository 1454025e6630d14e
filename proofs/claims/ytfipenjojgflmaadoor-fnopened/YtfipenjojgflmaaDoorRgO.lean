/- Registers drawn: what the loop of appends in l7Draw holds. -/
import Derived.Test.YtfipenjojgflmaaDoorRgK
import Derived.Test.YtfipenjojgflmaaDoorRgN
namespace Go.Proofs.YtfipenjojgflmaaDoor
open Go.ChangeShapes Go.WideShapes Go.ChangeAt Go.RowKit
set_option linter.unusedVariables false

/-- How many eras a box holds. -/
def eraLen (W : World) (b : Nat) : Nat := match W.cell? ⟨b, 0, none⟩ with
  | some (.slice _ n _) => n
  | _ => 0
theorem eraLen_of {W : World} {b n c : Nat} {a : Option Addr} (h : W.cell? ⟨b, 0, none⟩ = some (.slice a n c)) : eraLen W b = n := by unfold eraLen; rw [h]
theorem OwnN.setNe {w : World} {lo b o : Nat} {v : Value} {xs : List Int} (h : OwnN w lo v xs) (hb : xs = [] ∨ blockOf v ≠ b) (u : Value) : OwnN (w.setCell ⟨b, o, none⟩ u) lo v xs :=
  h.grown (grown_set w b o u) (by rcases hb with h | h; exact .inl h; exact .inr fun e => h (Option.some.inj e).symm)
structure DE7 (w : World) (bk rb lo : Nat) (W : World) (p : Nst Er) (ms : List Er) (tr : Int) (a : Option Addr) (c : Nat) : Prop where
  cur : Cur W bk
  drawn : Drawn bk w W
  res : BxZ W w.heap.size (w.heap.size + 1) [.slice none 0 0, .int .i64 0]
  box : BxZ W 0 rb [.slice a ms.length c, .int .i64 tr]
  row : ∃ rs : List (Nst Er), rs.map Nst.m = ms ∧ ApR 37 3 erCl W lo (.slice a ms.length c) rs ∧ ∀ q ∈ rs, OwnN W lo (Sv Er.nodes q) q.m.nodes ∧ (q.m.nodes = [] ∨ (touch (.slice a ms.length c) ≠ some (blockOf (Sv Er.nodes q)) ∧ blockOf (Sv Er.nodes q) ≠ rb))
  set : OwnN W lo (Sv Er.nodes p) p.m.nodes ∧ (p.m.nodes = [] ∨ (touch (.slice a ms.length c) ≠ some (blockOf (Sv Er.nodes p)) ∧ blockOf (Sv Er.nodes p) ≠ rb))
  away : touch (.slice a ms.length c) ≠ some rb
variable {w W W' : World} {bk rb lo : Nat} {p : Nst Er} {ms : List Er} {tr : Int} {a : Option Addr} {c : Nat}
theorem DE7.below (h : DE7 w bk rb lo W p ms tr a c) (hb : Below W.heap.size W W') : DE7 w bk rb lo W' p ms tr a c := by
  obtain ⟨rs, h1, h2, h3⟩ := h.row
  exact ⟨h.cur.below hb, h.drawn.trans (Drawn.of_below hb), h.res.below hb, h.box.below hb, ⟨rs, h1, h2.below hb, fun q hq => ⟨(h3 q hq).1.below hb, (h3 q hq).2⟩⟩, ⟨h.set.1.below hb, h.set.2⟩, h.away⟩
theorem DE7.move (h : DE7 w bk rb lo W p ms tr a c) (hk : bk < w.heap.size) (h1 : bk < lo) (h2 : rb ≠ bk) (hc : Cur W' bk) (hd : Drawn bk W W') : DE7 w bk rb lo W' p ms tr a c := by
  obtain ⟨rs, r1, r2, r3⟩ := h.row
  exact ⟨hc, h.drawn.trans hd, h.res.drawn hd (by omega), h.box.drawn hd h2, ⟨rs, r1, r2.kept elemR hd.row (.inr fun e => by have := (r2.touched elemR e).1; omega), fun q hq => ⟨(r3 q hq).1.drawn hd h1, (r3 q hq).2⟩⟩, ⟨h.set.1.drawn hd h1, h.set.2⟩, h.away⟩
theorem DE7.rd (h : DE7 w bk rb lo W p ms tr a c) : RdO lo (.slice a ms.length c) ms W := by
  obtain ⟨rs, r1, r2, r3⟩ := h.row
  exact ⟨rs, r1, r2.own elemR, fun q hq => (r3 q hq).1⟩
/-- One more era. -/
theorem DE7.push (h : DE7 w bk rb lo W p ms tr a c) (hk : bk < w.heap.size) (hl : w.heap.size + 1 < lo) (hr0 : w.heap.size + 1 < rb) (hlo : lo ≤ W.heap.size) (ty : TypeId) (sv : Value) (hs : Rw 3 erCl W sv [p]) (hn : ms.length ≤ 1000) :
    ∃ a' c' w', (Builtin.append_ #[27, 27] ty #[.slice a ms.length c, sv]).run Tryd.prog W = .ok (.slice a' (ms.length + 1) c') w' ∧ BxZ w' 0 rb [.slice a ms.length c, .int .i64 tr] ∧ DE7 w bk rb lo (w'.setCell ⟨rb, 0, none⟩ (.slice a' (ms.length + 1) c')) p (ms ++ [p.m]) tr a' c' := by
  obtain ⟨rs, r1, r2, r3⟩ := h.row
  have hrl : rs.length = ms.length := by rw [← r1, List.length_map]
  have hrb : rb < W.heap.size := dCell_lt (h.box.2 0 _ rfl).1
  obtain ⟨v', w', hr, P7, g7, t7⟩ := run_apR elemR ty r2 sv hs (by simp; omega) (by simp; omega) hlo
  obtain ⟨a', c', rfl⟩ := ApR.slice elemR P7
  have hln : (rs ++ [p]).length = ms.length + 1 := by simp [hrl]
  rw [hln] at hr P7 t7
  have tb : ∀ j, touch (.slice a ms.length c) = some j → lo ≤ j := fun j hj => (r2.touched elemR hj).1
  have N7 := h.box.grown g7 h.away
  have R7 := h.res.grown g7 (fun e => by have := tb _ e; omega)
  have C7 := h.cur.grown g7 (fun k hk' => by have := tb k hk'; omega)
  have D7 := h.drawn.grown g7 (fun k hk' => by have := tb k hk'; omega)
  have T7 : touch (.slice a' (ms.length + 1) c') ≠ some rb := fun e => by
    rcases t7 with h' | h'
    · exact h.away (h' ▸ e)
    · have := h' rb e; omega
  -- a list that stays
  have K : ∀ q : Nst Er, OwnN W lo (Sv Er.nodes q) q.m.nodes ∧ (q.m.nodes = [] ∨ (touch (.slice a ms.length c) ≠ some (blockOf (Sv Er.nodes q)) ∧ blockOf (Sv Er.nodes q) ≠ rb)) →
      OwnN (w'.setCell ⟨rb, 0, none⟩ (.slice a' (ms.length + 1) c')) lo (Sv Er.nodes q) q.m.nodes ∧ (q.m.nodes = [] ∨ (touch (.slice a' (ms.length + 1) c') ≠ some (blockOf (Sv Er.nodes q)) ∧ blockOf (Sv Er.nodes q) ≠ rb)) := by
    intro q ⟨q1, q2⟩
    have hlt := q1.bs.lt
    refine ⟨(q1.grown g7 (by rcases q2 with h | h; exact .inl h; exact .inr h.1)).setNe (by rcases q2 with h | h; exact .inl h; exact .inr h.2) _, ?_⟩
    rcases q2 with h | h
    · exact .inl h
    · rcases hlt with h' | h'
      · exact .inl h'
      · refine .inr ⟨fun e => ?_, h.2⟩
        rcases t7 with h'' | h''
        · exact h.1 (h'' ▸ e)
        · have := h'' _ e; omega
  refine ⟨a', c', w', hr, N7, ?_⟩
  have el : (ms ++ [p.m]).length = ms.length + 1 := by simp
  have B8 := N7.put 0 (.slice a' (ms.length + 1) c')
  refine ⟨C7.setNew4 (by omega) _ _, D7.setNew (by omega) _ _, R7.far (by omega) _, by rw [el]; exact B8, ⟨rs ++ [p], by rw [List.map_append, r1]; rfl, by rw [el]; exact ApR.put elemR P7 T7 _, fun q hq => ?_⟩, by rw [el]; exact K p h.set, by rw [el]; exact T7⟩
  rw [el]
  rcases List.mem_append.1 hq with hq | hq
  · exact K q (r3 q hq)
  · obtain rfl : q = p := by simpa using hq
    exact K q h.set
end Go.Proofs.YtfipenjojgflmaaDoor
