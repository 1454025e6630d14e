/- Draws of stores: a store that is filled entry by entry. -/
import Derived.Test.YtejmfohkobhidaaStT
namespace Go.Proofs.Ytejmfohkobhidaa
open Go.ChangeShapes Go.WideShapes Go.ChangeAt Go.RowKit
set_option linter.unusedVariables false
set_option linter.unusedSimpArgs false
set_option maxRecDepth 100000

/-- append whose run is known, as one step of a region that draws. -/
theorem step_appRun {w w' : World} {ops : Array Oper} {o : Oper} {a : Act} {Q : Exit → Act → World → Prop} {K : Act → World → Prop} {F : Prop} (hg : o.guard = none) (s x : Operand) (T1 T2 : TypeId) (hop : o.op = .call { callee := .builtin .append, args := #[s, x], argTypes := #[T1, T2] })
    (v u : Value) (hs : a.eval s = v) (hx : a.eval x = u) {v' : Value} (hr : (Builtin.append_ #[T1, T2] o.type #[v, u]).run Try.prog w = .ok v' w') (h : K (a.put o.dst v') w') :
    if Region.wanted o (yielded ops a.tmps) = true then Oper.wp Try.prog o a w K Q else F := by
  have hw : Region.wanted o (yielded ops a.tmps) = true := by simp [Region.wanted, hg]
  rw [if_pos hw]
  unfold Oper.wp
  simp [execOp, hop, resolve, invoke, builtin, hs, hx, hr, Result.andThen]
  exact h
theorem sepS {u v : Value} (h : touch u = none ∨ touch u ≠ touch v) : touch v = none ∨ touch v ≠ touch u := by
  by_cases hv : touch v = none
  · exact .inl hv
  · right
    intro e
    rcases h with h | h
    · exact hv (e.trans h)
    · exact h e.symm
/-- A store that is drawn: its block b0, what it holds from base on, whatever it is. -/
structure DE (w : World) (bk base b0 : Nat) (W : World) (s : St) (ka : Option Addr) (kc : Nat) (la : Option Addr) (lc : Nat) : Prop where
  box : BxZ W w.heap.size b0 [.slice ka s.kept.length kc, .slice la s.late.length lc, .int .i64 s.lock]
  ok : ApE W base (.slice ka s.kept.length kc) s.kept
  ol : ApE W base (.slice la s.late.length lc) s.late
  sep : touch (.slice ka s.kept.length kc) = none ∨ touch (.slice ka s.kept.length kc) ≠ touch (.slice la s.late.length lc)
  res : BxZ W w.heap.size w.heap.size [.slice none 0 0, .slice none 0 0, .int .i64 0]
  cur : Cur W bk
  drawn : Drawn bk w W
  fit : fitS s
  tk : touch (.slice ka s.kept.length kc) ≠ some b0
  tl : touch (.slice la s.late.length lc) ≠ some b0
section
variable {w W W' : World} {bk base b0 : Nat} {s : St} {ka la : Option Addr} {kc lc : Nat}
theorem DE.own (h : DE w bk base b0 W s ka kc la lc) : OwS W base (.agg #[.slice ka s.kept.length kc, .slice la s.late.length lc, .int .i64 s.lock]) s := ⟨_, _, rfl, h.ok, h.ol, h.sep⟩
theorem DE.move (h : DE w bk base b0 W s ka kc la lc) (hk : bk < w.heap.size) (h0 : w.heap.size ≤ b0) (hb : w.heap.size ≤ base) (hc : Cur W' bk) (hd : Drawn bk W W') : DE w bk base b0 W' s ka kc la lc :=
  ⟨h.box.drawn hd (by omega), ApR.kept elemE h.ok hd.row (.inr (touch_base elemE h.ok (by omega))), ApR.kept elemE h.ol hd.row (.inr (touch_base elemE h.ol (by omega))), h.sep, h.res.drawn hd (by omega), hc, h.drawn.trans hd, h.fit, h.tk, h.tl⟩
theorem DE.below (h : DE w bk base b0 W s ka kc la lc) (hk : bk < w.heap.size) (h0 : w.heap.size ≤ b0) (hb : w.heap.size ≤ base) (hB : Below W.heap.size W W') : DE w bk base b0 W' s ka kc la lc := h.move hk h0 hb (h.cur.below hB) (Drawn.of_below hB)
/-- One entry more is kept: the append, and the world behind it. -/
theorem DE.addK (h : DE w bk base b0 W s ka kc la lc) (hk : bk < w.heap.size) (hb : w.heap.size < base) (h0 : w.heap.size < b0) (hbW : base ≤ W.heap.size) (e : Ent) (he : e.fits) (hl : s.kept.length ≤ 100000) (ty : TypeId) (sv : Value) (hs : Rw 4 Ent.cl W sv [e]) :
    ∃ a' c' w7, (Builtin.append_ #[24, 24] ty #[.slice ka s.kept.length kc, sv]).run Try.prog W = .ok (.slice a' (s.kept.length + 1) c') w7 ∧ BxZ w7 w.heap.size b0 [.slice ka s.kept.length kc, .slice la s.late.length lc, .int .i64 s.lock] ∧
      DE w bk base b0 (w7.setCell ⟨b0, 0, none⟩ (.slice a' (s.kept.length + 1) c')) ⟨s.kept ++ [e], s.late, s.lock⟩ a' c' la lc := by
  obtain ⟨v', w7, hr, P7, g7, t7⟩ := run_apR elemE ty h.ok sv hs (by simp; omega) (by simp; omega) hbW
  obtain ⟨a', c', rfl⟩ := ApR.slice elemE P7
  have hln : (s.kept ++ [e]).length = s.kept.length + 1 := by simp
  have hbx := h.box.lt
  rw [hln] at hr P7 t7
  have tb : ∀ j, touch (.slice ka s.kept.length kc) = some j → base ≤ j := fun j hj => (h.ok.touched elemE hj).1
  have N7 := h.box.grown g7 h.tk
  have R7 := h.res.grown g7 (fun e => by have := tb _ e; omega)
  have L7 := ApR.kept elemE h.ol g7 (by rcases h.sep with h | h; exact .inl h; exact .inr fun e => h e.symm)
  have C7 := h.cur.grown g7 (fun k hk' => by have := tb k hk'; omega)
  have D7 := h.drawn.grown g7 (fun k hk' => by have := tb k hk'; omega)
  have T7 : touch (.slice a' (s.kept.length + 1) c') ≠ some b0 := fun e => by
    rcases t7 with h' | h'
    · exact h.tk (h' ▸ e)
    · have := h' b0 e; omega
  have S7 : touch (.slice a' (s.kept.length + 1) c') = none ∨ touch (.slice a' (s.kept.length + 1) c') ≠ touch (.slice la s.late.length lc) := by
    rcases t7 with e | e
    · rw [e]; exact h.sep
    · cases hv : touch (.slice a' (s.kept.length + 1) c') with
      | none => exact .inl rfl
      | some j =>
        right
        intro e2
        have h1 := e j hv
        have h2 := (h.ol.touched elemE e2.symm).2
        omega
  refine ⟨a', c', w7, hr, N7, ⟨?_, ?_, ApR.put elemE L7 h.tl _, ?_, R7.far (by omega) _, C7.setNew (by omega) 0 _, D7.setNew (by omega) 0 _, ?_, ?_, h.tl⟩⟩
  · show BxZ _ _ _ [.slice a' (s.kept ++ [e]).length c', .slice la s.late.length lc, .int .i64 s.lock]
    rw [hln]
    exact N7.put 0 _
  · show ApE _ _ (.slice a' (s.kept ++ [e]).length c') (s.kept ++ [e])
    rw [hln]
    exact ApR.put elemE P7 T7 _
  · show touch (.slice a' (s.kept ++ [e]).length c') = none ∨ touch (.slice a' (s.kept ++ [e]).length c') ≠ touch (.slice la s.late.length lc)
    rw [hln]
    exact S7
  · refine ⟨fun x hx => ?_, h.fit.2⟩
    rcases List.mem_append.1 hx with hx | hx
    · exact h.fit.1 x hx
    · obtain rfl : x = e := by simpa using hx
      exact he
  · show touch (.slice a' (s.kept ++ [e]).length c') ≠ some b0
    rw [hln]
    exact T7
/-- One entry more is late: the append, and the world behind it. -/
theorem DE.addL (h : DE w bk base b0 W s ka kc la lc) (hk : bk < w.heap.size) (hb : w.heap.size < base) (h0 : w.heap.size < b0) (hbW : base ≤ W.heap.size) (e : Ent) (he : e.fits) (hl : s.late.length ≤ 100000) (ty : TypeId) (sv : Value) (hs : Rw 4 Ent.cl W sv [e]) :
    ∃ a' c' w7, (Builtin.append_ #[24, 24] ty #[.slice la s.late.length lc, sv]).run Try.prog W = .ok (.slice a' (s.late.length + 1) c') w7 ∧ BxZ w7 w.heap.size b0 [.slice ka s.kept.length kc, .slice la s.late.length lc, .int .i64 s.lock] ∧
      DE w bk base b0 (w7.setCell ⟨b0, 1, none⟩ (.slice a' (s.late.length + 1) c')) ⟨s.kept, s.late ++ [e], s.lock⟩ ka kc a' c' := by
  obtain ⟨v', w7, hr, P7, g7, t7⟩ := run_apR elemE ty h.ol sv hs (by simp; omega) (by simp; omega) hbW
  obtain ⟨a', c', rfl⟩ := ApR.slice elemE P7
  have hln : (s.late ++ [e]).length = s.late.length + 1 := by simp
  have hbx := h.box.lt
  rw [hln] at hr P7 t7
  have tb : ∀ j, touch (.slice la s.late.length lc) = some j → base ≤ j := fun j hj => (h.ol.touched elemE hj).1
  have N7 := h.box.grown g7 h.tl
  have R7 := h.res.grown g7 (fun e => by have := tb _ e; omega)
  have L7 := ApR.kept elemE h.ok g7 (by
    rcases h.sep with h | h
    · by_cases h2 : touch (.slice la s.late.length lc) = none
      · exact .inl h2
      · exact .inr (by rw [h]; exact fun e => h2 e.symm)
    · exact .inr h)
  have C7 := h.cur.grown g7 (fun k hk' => by have := tb k hk'; omega)
  have D7 := h.drawn.grown g7 (fun k hk' => by have := tb k hk'; omega)
  have T7 : touch (.slice a' (s.late.length + 1) c') ≠ some b0 := fun e => by
    rcases t7 with h' | h'
    · exact h.tl (h' ▸ e)
    · have := h' b0 e; omega
  have S7 : touch (.slice a' (s.late.length + 1) c') = none ∨ touch (.slice a' (s.late.length + 1) c') ≠ touch (.slice ka s.kept.length kc) := by
    rcases t7 with e | e
    · rw [e]; exact sepS h.sep
    · cases hv : touch (.slice a' (s.late.length + 1) c') with
      | none => exact .inl rfl
      | some j =>
        right
        intro e2
        have h1 := e j hv
        have h2 := (h.ok.touched elemE e2.symm).2
        omega
  refine ⟨a', c', w7, hr, N7, ⟨?_, ApR.put elemE L7 h.tk _, ?_, ?_, R7.far (by omega) _, C7.setNew (by omega) 1 _, D7.setNew (by omega) 1 _, ?_, h.tk, ?_⟩⟩
  · show BxZ _ _ _ [.slice ka s.kept.length kc, .slice a' (s.late ++ [e]).length c', .int .i64 s.lock]
    rw [hln]
    exact N7.put 1 _
  · show ApE _ _ (.slice a' (s.late ++ [e]).length c') (s.late ++ [e])
    rw [hln]
    exact ApR.put elemE P7 T7 _
  · show touch (.slice ka s.kept.length kc) = none ∨ touch (.slice ka s.kept.length kc) ≠ touch (.slice a' (s.late ++ [e]).length c')
    rw [hln]
    exact sepS S7
  · refine ⟨h.fit.1, fun x hx => ?_, h.fit.2.2⟩
    rcases List.mem_append.1 hx with hx | hx
    · exact h.fit.2.1 x hx
    · obtain rfl : x = e := by simpa using hx
      exact he
  · show touch (.slice a' (s.late ++ [e]).length c') ≠ some b0
    rw [hln]
    exact T7
/-- The answer is laid into the result's block. -/
theorem DE.out (h : DE w bk base b0 W s ka kc la lc) (hk : bk < w.heap.size) (hb : w.heap.size < base) :
    Bx (((W.setCell ⟨w.heap.size, 0, none⟩ (.slice ka s.kept.length kc)).setCell ⟨w.heap.size, 1, none⟩ (.slice la s.late.length lc)).setCell ⟨w.heap.size, 2, none⟩ (.int .i64 s.lock)) w.heap.size [.slice ka s.kept.length kc, .slice la s.late.length lc, .int .i64 s.lock] ∧
    OwS (((W.setCell ⟨w.heap.size, 0, none⟩ (.slice ka s.kept.length kc)).setCell ⟨w.heap.size, 1, none⟩ (.slice la s.late.length lc)).setCell ⟨w.heap.size, 2, none⟩ (.int .i64 s.lock)) w.heap.size (.agg #[.slice ka s.kept.length kc, .slice la s.late.length lc, .int .i64 s.lock]) s ∧
    Cur (((W.setCell ⟨w.heap.size, 0, none⟩ (.slice ka s.kept.length kc)).setCell ⟨w.heap.size, 1, none⟩ (.slice la s.late.length lc)).setCell ⟨w.heap.size, 2, none⟩ (.int .i64 s.lock)) bk ∧
    Drawn bk w (((W.setCell ⟨w.heap.size, 0, none⟩ (.slice ka s.kept.length kc)).setCell ⟨w.heap.size, 1, none⟩ (.slice la s.late.length lc)).setCell ⟨w.heap.size, 2, none⟩ (.int .i64 s.lock)) := by
  obtain ⟨hx, hO⟩ := OwS.into h.own hb h.res
  exact ⟨hx, hO.mono (Nat.le_of_lt hb), ((h.cur.setNew hk 0 _).setNew hk 1 _).setNew hk 2 _, ((h.drawn.setNew (Nat.le_refl _) 0 _).setNew (Nat.le_refl _) 1 _).setNew (Nat.le_refl _) 2 _⟩
theorem DS.de {B : Nat} (h : DS w bk W B s ka kc la lc) : DE w bk (w.heap.size + 1 + 1) (w.heap.size + 1) W s ka kc la lc := by
  obtain ⟨kv, lv, e, p1, p2, p3⟩ := h.own
  cases e
  exact ⟨h.box, p1, p2, p3, h.res, h.cur, h.drawn, stP_fit h.right, touch_base elemE p1 (by omega), touch_base elemE p2 (by omega)⟩
/-- Nothing is kept any more. -/
theorem DE.nothing (h : DE w bk base b0 W s ka kc la lc) (hk : bk < w.heap.size) (h0 : w.heap.size < b0) : DE w bk base b0 (W.setCell ⟨b0, 0, none⟩ (.slice none 0 0)) ⟨[], s.late, s.lock⟩ none 0 la lc :=
  ⟨h.box.put 0 (.slice none 0 0), .inl ⟨rfl, none, rfl⟩, ApR.put elemE h.ol h.tl _, .inl rfl, h.res.far (by omega) _, h.cur.setNew (by omega) 0 _, h.drawn.setNew (by omega) 0 _, ⟨fun e he => by (cases he), h.fit.2⟩, by simp [touch], h.tl⟩
/-- Another seal. -/
theorem DE.lock (h : DE w bk base b0 W s ka kc la lc) (hk : bk < w.heap.size) (h0 : w.heap.size < b0) (x : Int) (hx : -9223372036854775808 ≤ x ∧ x ≤ 9223372036854775807) : DE w bk base b0 (W.setCell ⟨b0, 2, none⟩ (.int .i64 x)) ⟨s.kept, s.late, x⟩ ka kc la lc :=
  ⟨h.box.put 2 (.int .i64 x), ApR.put elemE h.ok h.tk _, ApR.put elemE h.ol h.tl _, h.sep, h.res.far (by omega) _, h.cur.setNew (by omega) 2 _, h.drawn.setNew (by omega) 2 _, ⟨h.fit.1, h.fit.2.1, hx⟩, h.tk, h.tl⟩
end
end Go.Proofs.Ytejmfohkobhidaa
