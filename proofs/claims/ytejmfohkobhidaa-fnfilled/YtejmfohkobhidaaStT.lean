/- Draws of stores: what is right stays right; l6DrawRight's one round. -/
import Derived.Test.YtejmfohkobhidaaStL
import Derived.Test.YtejmfohkobhidaaDrawF
import Derived.Test.YtejmfohkobhidaaAppB
import Derived.Deep.RegionHeld3
import Derived.Deep.DeepCutAuto
namespace Go.Proofs.Ytejmfohkobhidaa
open Go.ChangeShapes Go.WideShapes Go.ChangeAt Go.RowKit
set_option linter.unusedVariables false
set_option linter.unusedSimpArgs false
set_option maxRecDepth 100000

theorem zero_right : stP zeroSt := ⟨⟨by simp [zeroSt], fun e h => by simp [zeroSt] at h⟩, ⟨by simp [zeroSt], fun e h => by simp [zeroSt] at h⟩, fun i h => by simp [zeroSt] at h, by simp [zeroSt], by simp [zeroSt]⟩
theorem put_right {s : St} {e : Ent} (h : stP s) : stP (putM s e).1 := by
  by_cases hp : putP s e
  · rw [putM_yes h hp]
    refine ⟨h.1, ⟨?_, fun x hx => ?_⟩, h.2.2⟩
    · have := h.2.1.1; have := hp.2.2; simp only [List.length_append, List.length_singleton]; omega
    · rcases List.mem_append.1 hx with hx | hx
      · exact h.2.1.2 x hx
      · obtain rfl : x = e := by simpa using hx
        exact hp.1
  · rw [putM_no h hp]; exact h
theorem crash_right {s : St} {k : Int} (h : stP s) : stP (crashM s k).1 := by
  by_cases hp : crashP s k
  · rw [crashM_yes h hp]
    exact ⟨⟨hp.2.2, crashL_all k _ _ _ h.1.2 h.2.1.2⟩, ⟨by simp, fun e h => by simp at h⟩, (ascE_iff _).2 (crashL_asc k _ _ _ ((ascE_iff _).1 h.2.2.1)), h.2.2.2⟩
  · rw [crashM_no h hp]; exact h
theorem seal_right {s : St} {k : Int} (h : stP s) : stP (sealM s k).1 := by
  by_cases hp : sealP s k
  · rw [sealM_yes h hp]
    have h2 := h.2.2.2
    refine ⟨⟨hp.1.2.2, crashL_all _ _ _ _ h.1.2 h.2.1.2⟩, ⟨by simp, fun e h => by simp at h⟩, (ascE_iff _).2 (crashL_asc _ _ _ _ ((ascE_iff _).1 h.2.2.1)), ?_, ?_⟩
    · show 0 ≤ max s.lock k; omega
    · show max s.lock k ≤ 30; have := hp.2; omega
  · rw [sealM_no h hp]; exact h
theorem entP_fit {e : Ent} (h : entP e) : e.fits := by
  obtain ⟨⟨h0, h1, h2, h3, h4⟩, v0, v1, -, hd, -⟩ := h
  exact ⟨by omega, by omega, by omega, by omega, by omega⟩
theorem stP_fit {s : St} (h : stP s) : fitS s := ⟨fun e he => entP_fit (h.1.2 e he), fun e he => entP_fit (h.2.1.2 e he), by have := h.2.2.2.1; omega, by have := h.2.2.2.2; omega⟩
theorem OwS.drawn {bk base : Nat} {W W' : World} {v : Value} {s : St} (h : OwS W base v s) (hd : Drawn bk W W') (hb : bk < base) : OwS W' base v s := by
  obtain ⟨kv, lv, h1, h2, h3, h4⟩ := h
  exact ⟨kv, lv, h1, ApR.kept elemE h2 hd.row (.inr (touch_base elemE h2 hb)), ApR.kept elemE h3 hd.row (.inr (touch_base elemE h3 hb)), h4⟩
theorem OwS.put {base b o : Nat} {W : World} {kv lv c : Value} {s : St} (h : OwS W base (.agg #[kv, lv, c]) s) (t1 : touch kv ≠ some b) (t2 : touch lv ≠ some b) (u : Value) : OwS (W.setCell ⟨b, o, none⟩ u) base (.agg #[kv, lv, c]) s := by
  obtain ⟨kv', lv', e, p1, p2, p3⟩ := h
  cases e
  exact ⟨_, _, rfl, ApR.put elemE p1 t1 u, ApR.put elemE p2 t2 u, p3⟩
/-- What is there while a store is drawn: its block, what it holds, and a store that is right; its rows lie below B. -/
structure DS (w : World) (bk : Nat) (W : World) (B : Nat) (s : St) (ka : Option Addr) (kc : Nat) (la : Option Addr) (lc : Nat) : Prop where
  right : stP s
  box : BxZ W w.heap.size (w.heap.size + 1) [.slice ka s.kept.length kc, .slice la s.late.length lc, .int .i64 s.lock]
  own : OwS W (w.heap.size + 1 + 1) (.agg #[.slice ka s.kept.length kc, .slice la s.late.length lc, .int .i64 s.lock]) s
  res : BxZ W w.heap.size w.heap.size [.slice none 0 0, .slice none 0 0, .int .i64 0]
  cur : Cur W bk
  drawn : Drawn bk w W
  tk : ∀ j, touch (.slice ka s.kept.length kc) = some j → j < B
  tl : ∀ j, touch (.slice la s.late.length lc) = some j → j < B
section
variable {w W W' : World} {bk B bo base : Nat} {s m m' : St} {ka la ka' la' : Option Addr} {kc lc kc' lc' : Nat}
theorem DS.move (h : DS w bk W B s ka kc la lc) (hk : bk < w.heap.size) (hc : Cur W' bk) (hd : Drawn bk W W') : DS w bk W' B s ka kc la lc :=
  ⟨h.right, h.box.drawn hd (by omega), h.own.drawn hd (by omega), h.res.drawn hd (by omega), hc, h.drawn.trans hd, h.tk, h.tl⟩
theorem DS.below (h : DS w bk W B s ka kc la lc) (hk : bk < w.heap.size) (hb : Below W.heap.size W W') : DS w bk W' B s ka kc la lc := h.move hk (h.cur.below hb) (Drawn.of_below hb)
theorem DS.set (h : DS w bk W B s ka kc la lc) (hk : bk < w.heap.size) (hB : B ≤ bo) (hb : w.heap.size + 1 + 1 ≤ bo) (o : Nat) (u : Value) : DS w bk (W.setCell ⟨bo, o, none⟩ u) B s ka kc la lc :=
  ⟨h.right, h.box.far (by omega) u, h.own.put (fun e => by have := h.tk _ e; omega) (fun e => by have := h.tl _ e; omega) u, h.res.far (by omega) u, h.cur.setNew (by omega) o u, h.drawn.setNew (by omega) o u, h.tk, h.tl⟩
theorem DS.weak {B' : Nat} (h : DS w bk W B s ka kc la lc) (hB : B ≤ B') : DS w bk W B' s ka kc la lc :=
  ⟨h.right, h.box, h.own, h.res, h.cur, h.drawn, fun j hj => Nat.lt_of_lt_of_le (h.tk j hj) hB, fun j hj => Nat.lt_of_lt_of_le (h.tl j hj) hB⟩
theorem DS.lt (h : DS w bk W B s ka kc la lc) : w.heap.size + 1 < W.heap.size := h.box.lt
/-- What comes next: its block, and a store that is right. -/
structure DN (w : World) (W : World) (bo : Nat) (m : St) (ka : Option Addr) (kc : Nat) (la : Option Addr) (lc : Nat) : Prop where
  right : stP m
  far : w.heap.size + 1 + 1 ≤ bo
  box : BxZ W w.heap.size bo [.slice ka m.kept.length kc, .slice la m.late.length lc, .int .i64 m.lock]
  own : OwS W (w.heap.size + 1 + 1) (.agg #[.slice ka m.kept.length kc, .slice la m.late.length lc, .int .i64 m.lock]) m
  tk : touch (.slice ka m.kept.length kc) ≠ some bo
  tl : touch (.slice la m.late.length lc) ≠ some bo
theorem DN.move (h : DN w W bo m ka kc la lc) (hk : bk < w.heap.size) (hd : Drawn bk W W') : DN w W' bo m ka kc la lc :=
  ⟨h.right, h.far, h.box.drawn hd (by have := h.far; omega), h.own.drawn hd (by omega), h.tk, h.tl⟩
theorem DN.below (h : DN w W bo m ka kc la lc) (hb : Below W.heap.size W W') : DN w W' bo m ka kc la lc :=
  ⟨h.right, h.far, h.box.below hb, h.own.below hb, h.tk, h.tl⟩
/-- An answer goes into the block of what comes next. -/
theorem DN.put {x y z : Value} (hX : BxZ W w.heap.size bo [x, y, z]) (hf : w.heap.size + 1 + 1 ≤ bo) (hr : stP m') (O : OwS W base (.agg #[.slice ka' m'.kept.length kc', .slice la' m'.late.length lc', .int .i64 m'.lock]) m') (hb : bo < base) :
    DN w (((W.setCell ⟨bo, 0, none⟩ (.slice ka' m'.kept.length kc')).setCell ⟨bo, 1, none⟩ (.slice la' m'.late.length lc')).setCell ⟨bo, 2, none⟩ (.int .i64 m'.lock)) bo m' ka' kc' la' lc' := by
  obtain ⟨kv, lv, e, p1, p2, p3⟩ := id O
  cases e
  exact ⟨hr, hf, ((hX.put 0 (.slice ka' m'.kept.length kc')).put 1 (.slice la' m'.late.length lc')).put 2 (.int .i64 m'.lock), (((O.far (b := bo) (o := 0) hb _).far (b := bo) (o := 1) hb _).far (b := bo) (o := 2) hb _).mono (by omega), touch_base elemE p1 hb, touch_base elemE p2 hb⟩
theorem DS.set3 (h : DS w bk W B s ka kc la lc) (hk : bk < w.heap.size) (hB : B ≤ bo) (hb : w.heap.size + 1 + 1 ≤ bo) (u v x : Value) : DS w bk (((W.setCell ⟨bo, 0, none⟩ u).setCell ⟨bo, 1, none⟩ v).setCell ⟨bo, 2, none⟩ x) B s ka kc la lc :=
  ((h.set hk hB hb 0 u).set hk hB hb 1 v).set hk hB hb 2 x
/-- .. into a block that is made for it. -/
theorem DN.made (hr : stP m') (hf : w.heap.size + 1 + 1 ≤ W.heap.size) (hw : w.heap.size ≤ W.heap.size) (hbs : w.heap.size + 1 + 1 ≤ base) (O : OwS W base (.agg #[.slice ka' m'.kept.length kc', .slice la' m'.late.length lc', .int .i64 m'.lock]) m') (T : TypeId) :
    DN w (W.alloc (.cells #[.slice ka' m'.kept.length kc', .slice la' m'.late.length lc', .int .i64 m'.lock] T)) W.heap.size m' ka' kc' la' lc' := by
  have ba : Below W.heap.size W (W.alloc (.cells #[.slice ka' m'.kept.length kc', .slice la' m'.late.length lc', .int .i64 m'.lock] T)) := (Below.refl _ _).alloc (Nat.le_refl _) _
  obtain ⟨kv, lv, e, p1, p2, p3⟩ := id O
  cases e
  exact ⟨hr, hf, BxZ.new W [.slice ka' m'.kept.length kc', .slice la' m'.late.length lc', .int .i64 m'.lock] T hw, (O.below ba).mono hbs, fun e => by have := (p1.touched elemE e).2; omega, fun e => by have := (p2.touched elemE e).2; omega⟩
/-- What comes next is taken. -/
theorem DS.take (h : DS w bk W B s ka kc la lc) (n : DN w W bo m ka' kc' la' lc') (hk : bk < w.heap.size) :
    DS w bk (((W.setCell ⟨w.heap.size + 1, 0, none⟩ (.slice ka' m.kept.length kc')).setCell ⟨w.heap.size + 1, 1, none⟩ (.slice la' m.late.length lc')).setCell ⟨w.heap.size + 1, 2, none⟩ (.int .i64 m.lock)) W.heap.size m ka' kc' la' lc' := by
  obtain ⟨kv, lv, e, p1, p2, p3⟩ := id n.own
  cases e
  have hb : w.heap.size + 1 < w.heap.size + 1 + 1 := by omega
  refine ⟨n.right, ((h.box.put 0 (.slice ka' m.kept.length kc')).put 1 (.slice la' m.late.length lc')).put 2 (.int .i64 m.lock), ((n.own.far (b := w.heap.size + 1) (o := 0) hb _).far (b := w.heap.size + 1) (o := 1) hb _).far (b := w.heap.size + 1) (o := 2) hb _, ((h.res.far (b' := w.heap.size + 1) (o := 0) (by omega) _).far (b' := w.heap.size + 1) (o := 1) (by omega) _).far (b' := w.heap.size + 1) (o := 2) (by omega) _, ((h.cur.setNew (by omega) 0 _).setNew (by omega) 1 _).setNew (by omega) 2 _, ((h.drawn.setNew (Nat.le_succ _) 0 _).setNew (Nat.le_succ _) 1 _).setNew (Nat.le_succ _) 2 _, fun j hj => (p1.touched elemE hj).2, fun j hj => (p2.touched elemE hj).2⟩
end
end Go.Proofs.Ytejmfohkobhidaa
