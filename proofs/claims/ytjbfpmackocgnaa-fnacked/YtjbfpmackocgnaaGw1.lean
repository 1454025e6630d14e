/- Several texts in one: FgA, DwC, DwZ. -/
import Derived.Test.YtjbfpmackocgnaaWrP
import Derived.Test.YtjbfpmackocgnaaGaC
import Derived.Test.YtjbfpmackocgnaaDwB
import Derived.Test.YtjbfpmackocgnaaGaT
import Derived.Laws.OwnMore
namespace Go.Proofs.Ytjbfpmackocgnaa
open Go.ChangeShapes Go.WideShapes Go.ChangeAt Go.RowKit
set_option linter.unusedVariables false

theorem forg_sure (x : Int) : ∀ ms : List Wd, sureL (ms.map (forgW x)) = sureL ms
  | [] => rfl
  | e :: l => by
    have ih := forg_sure x l
    simp only [List.map_cons, sureL, ih]
    rfl
theorem forg_open (x : Int) (ms : List Wd) : openN (ms.map (forgW x)) = openN ms := by
  unfold openN
  rw [List.countP_map]
  rfl
theorem lessL_sub {xs : List Int} {x : Int} : ∀ z ∈ lessL xs [x], z ∈ xs := fun z hz => (List.mem_filter.1 hz).1
theorem lessL_not {xs : List Int} {x : Int} : x ∉ lessL xs [x] := fun h => by
  unfold lessL at h
  have := (List.mem_filter.1 h).2
  simp at this
theorem forg_word {ds : List Int} {cop x : Int} {e : Wd} (h : wdP ds cop e) : wdP ds cop (forgW x e) := by
  cases hd : e.done with
  | true => rw [forgW_done hd]; exact h
  | false =>
    rw [forgW_open hd]
    have hn : nodesP ds cop (lessL e.acks [x]) := ⟨h.2.1.1, ascP_filter h.2.1.2 _⟩
    refine ⟨h.1, hn, ⟨fun hh => ?_, fun hh => by cases hh⟩⟩
    have := h.2.2.1 ⟨h.2.1, by have q := hh.2; simp only at q; have r := spanN_mono (ds := ds) (lessL_sub (xs := e.acks) (x := x)); omega⟩
    rw [hd] at this
    cases this
theorem forg_wr {ds : List Int} {cop x : Int} {m : Wt} (h : wrP ds cop m) : wrP ds cop ⟨m.epoch, m.words.map (forgW x)⟩ := by
  rw [wrP_iff] at h ⊢
  obtain ⟨h1, h2, h3, h4, h5⟩ := h
  refine ⟨h1, h2, by simpa using h3, fun e he => ?_, by rw [forg_open]; exact h5⟩
  obtain ⟨e', he', rfl⟩ := List.mem_map.1 he
  exact forg_word (h4 e' he')
end Go.Proofs.Ytjbfpmackocgnaa
namespace Go.Proofs.Ytjbfpmackocgnaa
open Go.ChangeShapes Go.WideShapes Go.ChangeAt Go.RowKit
set_option linter.unusedVariables false
set_option linter.unusedSimpArgs false
set_option maxRecDepth 100000

/-- Eras in memory from lo on; their lists may be shared. -/
def RdW (lo : Nat) (v : Value) (ms : List Wd) (W : World) : Prop := ∃ rs : List (Nst Wd), rs.map Nst.m = ms ∧ OwnRw 3 wdCl W lo v rs ∧ ∀ p ∈ rs, OwnN W lo (Sv Wd.acks p) p.m.acks
section
variable {lo lo' hi bk : Nat} {v : Value} {ms : List Wd} {W W' : World}
theorem RdW.rd (h : RdW lo v ms W) : RdWordS v ms W := by
  obtain ⟨rs, h1, h2, h3⟩ := h
  exact ⟨rs, h1, h2.rw, fun p hp => (h3 p hp).bs⟩
theorem RdW.of (h : WIn lo hi v ms W) : RdW lo v ms W := by
  obtain ⟨rs, h1, h2, -⟩ := h
  exact ⟨rs, h1, ApR.own elemW h2.1, h2.2.1⟩
theorem RdW.mono (h : RdW lo v ms W) (hl : lo' ≤ lo) : RdW lo' v ms W := by
  obtain ⟨rs, h1, h2, h3⟩ := h
  exact ⟨rs, h1, h2.mono hl, fun p hp => (h3 p hp).mono hl⟩
theorem RdW.below (h : RdW lo v ms W) (hb : Below W.heap.size W W') : RdW lo v ms W' := by
  obtain ⟨rs, h1, h2, h3⟩ := h
  exact ⟨rs, h1, h2.below hb, fun p hp => (h3 p hp).below hb⟩
theorem OwnRw.drawnW {rs : List (Nst Wd)} (h : OwnRw 3 wdCl W lo v rs) (hd : Drawn bk W W') (hb : bk < lo) : OwnRw 3 wdCl W' lo v rs := by
  obtain ⟨h0, a, cap, rfl, hcap, h⟩ := h
  refine ⟨h0, a, cap, rfl, hcap, ?_⟩
  rcases h with h | ⟨b, off, rfl, hl, hc⟩
  · exact .inl h
  · exact .inr ⟨b, off, rfl, hl, fun i hi j u hu => by
      obtain ⟨c1, c2⟩ := hc i hi j u hu
      exact ⟨hd.cell c1 (by omega), (hd.frozen (by omega) (dCell_lt c1)).trans c2⟩⟩
theorem RdW.drawn (h : RdW lo v ms W) (hd : Drawn bk W W') (hb : bk < lo) : RdW lo v ms W' := by
  obtain ⟨rs, h1, h2, h3⟩ := h
  exact ⟨rs, h1, h2.drawnW hd hb, fun p hp => (h3 p hp).drawn hd hb⟩
theorem OwnRw.farW {rs : List (Nst Wd)} (h : OwnRw 3 wdCl W lo v rs) {b o : Nat} (hb : b < lo) (u : Value) : OwnRw 3 wdCl (W.setCell ⟨b, o, none⟩ u) lo v rs := by
  obtain ⟨h0, a, cap, rfl, hcap, h⟩ := h
  refine ⟨h0, a, cap, rfl, hcap, ?_⟩
  rcases h with h | ⟨b', off, rfl, hl, hc⟩
  · exact .inl h
  · exact .inr ⟨b', off, rfl, hl, fun i hi j x hx => by
      obtain ⟨c1, c2⟩ := hc i hi j x hx
      exact ⟨set_other c1 (.inl (by omega)), (World.frozen?_of_block (a := ⟨b', off + i * 3 + j, none⟩) (Below.heap_setCell W ⟨b, o, none⟩ u b' (by simp only; omega))).trans c2⟩⟩
theorem RdW.far (h : RdW lo v ms W) {b o : Nat} (hb : b < lo) (u : Value) : RdW lo v ms (W.setCell ⟨b, o, none⟩ u) := by
  obtain ⟨rs, h1, h2, h3⟩ := h
  exact ⟨rs, h1, h2.farW hb u, fun p hp => (h3 p hp).far hb u⟩
end
/-- How many words a box holds. -/
def wdLen (W : World) (b : Nat) : Nat := match W.cell? ⟨b, 1, none⟩ with
  | some (.slice _ n _) => n
  | _ => 0
theorem wdLen_of {W : World} {b n c : Nat} {a : Option Addr} (h : W.cell? ⟨b, 1, none⟩ = some (.slice a n c)) : wdLen W b = n := by unfold wdLen; rw [h]
theorem OwnN.setNe {w : World} {lo b o : Nat} {v : Value} {xs : List Int} (h : OwnN w lo v xs) (hb : xs = [] ∨ blockOf v ≠ b) (u : Value) : OwnN (w.setCell ⟨b, o, none⟩ u) lo v xs :=
  h.grown (grown_set w b o u) (by rcases hb with h | h; exact .inl h; exact .inr fun e => h (Option.some.inj e).symm)
structure DE8 (w : World) (bk rb lo : Nat) (W : World) (p : Nst Wd) (ms : List Wd) (tr : Int) (a : Option Addr) (c : Nat) : Prop where
  cur : Cur W bk
  drawn : Drawn bk w W
  res : BxZ W w.heap.size (w.heap.size + 1) [.int .i64 0, .slice none 0 0]
  box : BxZ W 0 rb [.int .i64 tr, .slice a ms.length c]
  row : ∃ rs : List (Nst Wd), rs.map Nst.m = ms ∧ ApR 35 3 wdCl W lo (.slice a ms.length c) rs ∧ ∀ q ∈ rs, OwnN W lo (Sv Wd.acks q) q.m.acks ∧ (q.m.acks = [] ∨ (touch (.slice a ms.length c) ≠ some (blockOf (Sv Wd.acks q)) ∧ blockOf (Sv Wd.acks q) ≠ rb))
  set : OwnN W lo (Sv Wd.acks p) p.m.acks ∧ (p.m.acks = [] ∨ (touch (.slice a ms.length c) ≠ some (blockOf (Sv Wd.acks p)) ∧ blockOf (Sv Wd.acks p) ≠ rb))
  away : touch (.slice a ms.length c) ≠ some rb
variable {w W W' : World} {bk rb lo : Nat} {p : Nst Wd} {ms : List Wd} {tr : Int} {a : Option Addr} {c : Nat}
theorem DE8.below (h : DE8 w bk rb lo W p ms tr a c) (hb : Below W.heap.size W W') : DE8 w bk rb lo W' p ms tr a c := by
  obtain ⟨rs, h1, h2, h3⟩ := h.row
  exact ⟨h.cur.below hb, h.drawn.trans (Drawn.of_below hb), h.res.below hb, h.box.below hb, ⟨rs, h1, h2.below hb, fun q hq => ⟨(h3 q hq).1.below hb, (h3 q hq).2⟩⟩, ⟨h.set.1.below hb, h.set.2⟩, h.away⟩
theorem DE8.move (h : DE8 w bk rb lo W p ms tr a c) (hk : bk < w.heap.size) (h1 : bk < lo) (h2 : rb ≠ bk) (hc : Cur W' bk) (hd : Drawn bk W W') : DE8 w bk rb lo W' p ms tr a c := by
  obtain ⟨rs, r1, r2, r3⟩ := h.row
  exact ⟨hc, h.drawn.trans hd, h.res.drawn hd (by omega), h.box.drawn hd h2, ⟨rs, r1, r2.kept elemW hd.row (.inr fun e => by have := (r2.touched elemW e).1; omega), fun q hq => ⟨(r3 q hq).1.drawn hd h1, (r3 q hq).2⟩⟩, ⟨h.set.1.drawn hd h1, h.set.2⟩, h.away⟩
theorem DE8.rd (h : DE8 w bk rb lo W p ms tr a c) : RdW lo (.slice a ms.length c) ms W := by
  obtain ⟨rs, r1, r2, r3⟩ := h.row
  exact ⟨rs, r1, r2.own elemW, fun q hq => (r3 q hq).1⟩
/-- One more era. -/
theorem DE8.push (h : DE8 w bk rb lo W p ms tr a c) (hk : bk < w.heap.size) (hl : w.heap.size + 1 < lo) (hr0 : w.heap.size + 1 < rb) (hlo : lo ≤ W.heap.size) (ty : TypeId) (sv : Value) (hs : Rw 3 wdCl W sv [p]) (hn : ms.length ≤ 1000) :
    ∃ a' c' w', (Builtin.append_ #[27, 27] ty #[.slice a ms.length c, sv]).run Try.prog W = .ok (.slice a' (ms.length + 1) c') w' ∧ BxZ w' 0 rb [.int .i64 tr, .slice a ms.length c] ∧ DE8 w bk rb lo (w'.setCell ⟨rb, 1, none⟩ (.slice a' (ms.length + 1) c')) p (ms ++ [p.m]) tr a' c' := by
  obtain ⟨rs, r1, r2, r3⟩ := h.row
  have hrl : rs.length = ms.length := by rw [← r1, List.length_map]
  have hrb : rb < W.heap.size := dCell_lt (h.box.2 0 _ rfl).1
  obtain ⟨v', w', hr, P7, g7, t7⟩ := run_apR elemW ty r2 sv hs (by simp; omega) (by simp; omega) hlo
  obtain ⟨a', c', rfl⟩ := ApR.slice elemW P7
  have hln : (rs ++ [p]).length = ms.length + 1 := by simp [hrl]
  rw [hln] at hr P7 t7
  have tb : ∀ j, touch (.slice a ms.length c) = some j → lo ≤ j := fun j hj => (r2.touched elemW hj).1
  have N7 := h.box.grown g7 h.away
  have R7 := h.res.grown g7 (fun e => by have := tb _ e; omega)
  have C7 := h.cur.grown g7 (fun k hk' => by have := tb k hk'; omega)
  have Dw7 := h.drawn.grown g7 (fun k hk' => by have := tb k hk'; omega)
  have T7 : touch (.slice a' (ms.length + 1) c') ≠ some rb := fun e => by
    rcases t7 with h' | h'
    · exact h.away (h' ▸ e)
    · have := h' rb e; omega
  -- a list that stays
  have K : ∀ q : Nst Wd, OwnN W lo (Sv Wd.acks q) q.m.acks ∧ (q.m.acks = [] ∨ (touch (.slice a ms.length c) ≠ some (blockOf (Sv Wd.acks q)) ∧ blockOf (Sv Wd.acks q) ≠ rb)) →
      OwnN (w'.setCell ⟨rb, 1, none⟩ (.slice a' (ms.length + 1) c')) lo (Sv Wd.acks q) q.m.acks ∧ (q.m.acks = [] ∨ (touch (.slice a' (ms.length + 1) c') ≠ some (blockOf (Sv Wd.acks q)) ∧ blockOf (Sv Wd.acks q) ≠ rb)) := by
    intro q ⟨q1, q2⟩
    have hlt := q1.bs.lt
    refine ⟨(q1.grown g7 (by rcases q2 with h | h; exact .inl h; exact .inr h.1)).setNe (by rcases q2 with h | h; exact .inl h; exact .inr h.2) _, ?_⟩
    rcases q2 with h | h
    · exact .inl h
    · rcases hlt with h' | h'
      · exact .inl h'
      · refine .inr ⟨fun e => ?_, h.2⟩
        rcases t7 with h'' | h''
        · exact h.1 (h'' ▸ e)
        · have := h'' _ e; omega
  refine ⟨a', c', w', hr, N7, ?_⟩
  have el : (ms ++ [p.m]).length = ms.length + 1 := by simp
  have B8 := N7.put 1 (.slice a' (ms.length + 1) c')
  refine ⟨C7.setNew4 (by omega) _ _, Dw7.setNew (by omega) _ _, R7.far (by omega) _, by rw [el]; exact B8, ⟨rs ++ [p], by rw [List.map_append, r1]; rfl, by rw [el]; exact ApR.put elemW P7 T7 _, fun q hq => ?_⟩, by rw [el]; exact K p h.set, by rw [el]; exact T7⟩
  rw [el]
  rcases List.mem_append.1 hq with hq | hq
  · exact K q (r3 q hq)
  · obtain rfl : q = p := by simpa using hq
    exact K q h.set
end Go.Proofs.Ytjbfpmackocgnaa
namespace Go.Proofs.Ytjbfpmackocgnaa
open Go.ChangeShapes Go.WideShapes Go.ChangeAt Go.RowKit
set_option linter.unusedVariables false

/-- New bytes 0, and the text of them. -/
theorem zeros_new (w : World) (n : Nat) (hn : n ≤ 1000) : ∃ (W : World) (S : ByteArray), (Instr.makeSlice 22 (.int .i64 (n : Int)) (.int .i64 (n : Int))).run Try.prog w = .ok (.slice (some ⟨w.heap.size, 0, none⟩) n n) W ∧
    (convert 22 9 (.slice (some ⟨w.heap.size, 0, none⟩) n n)).run Try.prog W = .ok (.string S) W ∧ S.size = n ∧ Below w.heap.size w W := by
  obtain ⟨i0, hi, hz0, hz1, hz2⟩ := info_parts info8a
  obtain ⟨W, hmk, hown, hg⟩ := run_makeSlice_full (P := Try.prog) w w.heap.size 22 5 i0 (.int .u8 0) 1 Try.underlying22 hi hz0 hz1 .i64 .i64 n (by omega) (by rw [hz2]; omega) (by unfold maxLen; omega) (Nat.le_refl _)
  have e : (madeCells (Value.int .u8 0).cells (n * 1)).toList = bcells (List.replicate n 0) := by
    show (madeCells #[Value.int .u8 0] (n * 1)).toList = _
    rw [toList_madeCells_one, Nat.mul_one]
    simp [bcells]
  rw [e] at hown
  have ho := ownB_of_row hown
  obtain ⟨h0, a, cap, hs, hcap, h⟩ := ho
  injection hs with h1 h2 h3
  have hl : (List.replicate n (0 : UInt8)).length = n := by simp
  refine ⟨W, ⟨(List.replicate n (0 : UInt8)).toArray⟩, hmk, ?_, by show (List.replicate n (0 : UInt8)).toArray.size = n; simp, (Below.refl _ _).grown hg (Nat.le_refl _) (fun k hk => by cases hk)⟩
  rcases h with h | ⟨b, off, h, hb, hc⟩
  · obtain rfl : n = 0 := by rw [← hl, h]; rfl
    exact conv_none w.heap.size 0 0
  · rw [← h1] at h
    cases h
    have hcut := conv_cut (w := W) (b := w.heap.size) (off := 0) (p := 0) (n := n) (cap := n) (bs := List.replicate n (0 : UInt8)) (fun i hi => (hc i hi).1) (by simp)
    have et : ((List.replicate n (0 : UInt8)).drop 0).take n = List.replicate n 0 := by rw [List.drop_zero, List.take_of_length_le (by simp)]
    rw [et] at hcut
    exact hcut
theorem op_appRun {w w' : World} {o : Oper} {a : Act} {Q : Exit → Act → World → Prop} {K : Act → World → Prop} (s x : Operand) (T1 T2 : TypeId) (hop : o.op = .call { callee := .builtin .append, args := #[s, x], argTypes := #[T1, T2] })
    (v u : Value) (hs : a.eval s = v) (hx : a.eval x = u) {v' : Value} (hr : (Builtin.append_ #[T1, T2] o.type #[v, u]).run Try.prog w = .ok v' w') (h : K (a.put o.dst v') w') : Oper.wp Try.prog o a w K Q := by
  unfold Oper.wp
  simp [execOp, hop, resolve, invoke, builtin, hs, hx, hr, Result.andThen]
  exact h
theorem DE8.with_ {w W : World} {bk rb lo : Nat} {p q : Nst Wd} {ms : List Wd} {tr : Int} {a : Option Addr} {c : Nat} (h : DE8 w bk rb lo W p ms tr a c) (hq : OwnN W lo (Sv Wd.acks q) q.m.acks ∧ (q.m.acks = [] ∨ (touch (.slice a ms.length c) ≠ some (blockOf (Sv Wd.acks q)) ∧ blockOf (Sv Wd.acks q) ≠ rb))) : DE8 w bk rb lo W q ms tr a c :=
  ⟨h.cur, h.drawn, h.res, h.box, h.row, hq, h.away⟩
/-- The first word. -/
theorem DE8.first {w W : World} {bk rb lo : Nat} {p : Nst Wd} {ms : List Wd} {tr : Int} {a : Option Addr} {c : Nat} (h : DE8 w bk rb lo W p ms tr a c) (h0 : 0 < ms.length) : ∃ g q, a = some ⟨g, 0, none⟩ ∧ DE8 w bk rb lo W q ms tr a c ∧ q.m = ms[0] ∧ W.cell? ⟨g, 0, none⟩ = some (.string q.m.data) ∧ W.cell? ⟨g, 1, none⟩ = some (.slice q.a q.m.acks.length q.c) ∧ W.cell? ⟨g, 2, none⟩ = some (.bool q.m.done) := by
  obtain ⟨rs, r1, r2, r3⟩ := h.row
  have hrl : rs.length = ms.length := by rw [← r1, List.length_map]
  have hk : 0 < rs.length := by omega
  have em : rs[0].m = ms[0] := by subst r1; simp
  rcases r2 with ⟨h', -⟩ | h'
  · subst h'; simp at hk
  · have h2 : ApR 35 3 wdCl W lo (.slice a ms.length c) rs := .inr h'
    rcases h'.2 with ⟨-, h00⟩ | ⟨g, cap, cur, e, -⟩
    · omega
    · simp only [Value.slice.injEq] at e
      obtain ⟨rfl, -, rfl⟩ := e
      obtain ⟨-, a', c', e', -, hc⟩ := ApR.own elemW h2
      simp only [Value.slice.injEq] at e'
      obtain ⟨b, off, ea, -, hce⟩ := orR_of_lt hc hk
      have eb : (⟨b, off, none⟩ : Addr) = ⟨g, 0, none⟩ := by have := e'.1; rw [ea] at this; exact (Option.some.inj this).symm
      cases eb
      have q0 := hce 0 hk 0 _ rfl
      have q1 := hce 0 hk 1 _ rfl
      have q2 := hce 0 hk 2 _ rfl
      simp only [Nat.zero_add, Nat.zero_mul, Nat.add_zero, Sv] at q0 q1 q2
      exact ⟨g, rs[0], rfl, h.with_ (r3 _ (List.getElem_mem hk)), em, q0.1, q1.1, q2.1⟩
end Go.Proofs.Ytjbfpmackocgnaa
