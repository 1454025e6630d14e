/- append on a slice of bytes of the call's own, whatever the type of the block that it lies in (a row that was made, or an array). -/
import Derived.Test.YtioocibgfhgkhaaDoorAppB
import Derived.Test.YtioocibgfhgkhaaDoorGaT
import Derived.Lib.AppendStr
import Derived.Lib.Strings
namespace Go.Proofs.YtioocibgfhgkhaaDoor
open Go.ChangeShapes Go.WideShapes Go.ChangeAt Go.RowKit
set_option linter.unusedVariables false

/-- The value is a slice of the bytes bs, of a block from B on that may be written whole. -/
def OwnX (w : World) (B : Nat) (v : Value) (bs : List UInt8) : Prop := ∃ T, w.ownsRow B T 1 v bs.length (bcells bs)
theorem OwnX.of_row {w : World} {B T n : Nat} {v : Value} {bs : List UInt8} (h : w.ownsRow B T 1 v n (bcells bs)) : OwnX w B v bs := by
  have e : bs.length = n := by have := h.1; simpa [bcells] using this
  exact ⟨T, by rw [e]; exact h⟩
theorem OwnX.lt {w : World} {B : Nat} {v : Value} {bs : List UInt8} (h : OwnX w B v bs) : ∀ k, v.ownBlock = some k → B ≤ k ∧ k < w.heap.size := by
  obtain ⟨T, h⟩ := h; exact h.lt
theorem OwnX.alloc {w : World} {B : Nat} {v : Value} {bs : List UInt8} (h : OwnX w B v bs) (o : Obj) : OwnX (w.alloc o) B v bs := by
  obtain ⟨T, h⟩ := h; exact ⟨T, h.alloc o⟩
theorem OwnX.kept {w w' : World} {B : Nat} {v : Value} {bs : List UInt8} (h : OwnX w B v bs) (hb : Below w.heap.size w w') : OwnX w' B v bs := by
  obtain ⟨T, h⟩ := h
  exact ⟨T, h.kept (row := none) ⟨hb.os, hb.tape, hb.output, hb.size, fun k hk _ => hb.block k hk⟩ (by cases v.ownBlock <;> simp)⟩
theorem OwnX.mono {w : World} {B B' : Nat} {v : Value} {bs : List UInt8} (h : OwnX w B v bs) (hB : B' ≤ B) : OwnX w B' v bs := by
  obtain ⟨T, h⟩ := h
  refine ⟨T, h.1, ?_⟩
  rcases h.2 with h0 | ⟨g, cap, cur, h1, h2, h3⟩
  · exact .inl h0
  · exact .inr ⟨g, cap, cur, h1, by omega, h3⟩
theorem OwnX.nil (w : World) (B : Nat) : OwnX w B (.slice none 0 0) [] := ⟨0, World.ownsRow_nil w B 0 1⟩
theorem OwnX.own {w : World} {B : Nat} {v : Value} {bs : List UInt8} (h : OwnX w B v bs) : OwnB w B v bs := by
  obtain ⟨T, h⟩ := h
  rcases h.2 with ⟨rfl, hn⟩ | ⟨g, cap, cur, rfl, hb, hg, hnc, hcm, hsz, ht⟩
  · have : bs = [] := List.length_eq_zero_iff.1 hn
    subst this
    exact ⟨by simp, none, 0, rfl, by simp, .inl rfl⟩
  · have hm : maxLen = 9223372036854775807 := rfl
    refine ⟨by omega, some ⟨g, 0, none⟩, cap, rfl, by omega, .inr ⟨g, 0, rfl, hb, fun i hi => ?_⟩⟩
    have hcur : cur.toList[i]? = some (Value.int .u8 (bs[i].toNat : Int)) := by
      have e : (cur.toList.take (bs.length * 1))[i]? = (bcells bs)[i]? := by rw [ht]
      rw [List.getElem?_take] at e
      rw [if_pos (by omega)] at e
      rw [e]
      simp [bcells, hi]
    refine ⟨?_, ?_⟩
    · simp only [World.cell?, hg]
      simpa using hcur
    · simp [World.frozen?, hg]
/-- The row with room, written on. -/
theorem OwnX.roomed {w : World} {B g cap n T : Nat} {cur : Array Value} {bs cs : List UInt8} (hn : bs.length = n) (hbg : B ≤ g) (hg : w.heap[g]? = some (.cells cur T (0, 0))) (hcm : cap ≤ maxLen) (hcs : cur.size = cap * 1) (ht : cur.toList.take (n * 1) = bcells bs) (hr : n + cs.length ≤ cap) :
    OwnX (w.setRow g (cur.toList.take n ++ bcells cs ++ cur.toList.drop (n + cs.length)).toArray) B (.slice (some ⟨g, 0, none⟩) (n + cs.length) cap) (bs ++ cs) ∧ w.grownBy (w.setRow g (cur.toList.take n ++ bcells cs ++ cur.toList.drop (n + cs.length)).toArray) (some g) := by
  have hl : (bcells cs).length = cs.length := by simp [bcells]
  have hlb : (bcells bs).length = n := by simp [bcells, hn]
  have e : bcells (bs ++ cs) = bcells bs ++ bcells cs := by simp [bcells]
  rw [Nat.mul_one] at ht
  refine ⟨⟨T, by simp [bcells], .inr ⟨g, cap, _, by rw [List.length_append, hn], hbg, setRow_heap w g cur _ T _ hg, by rw [List.length_append, hn]; exact hr, hcm, ?_, ?_⟩⟩, ⟨rfl, rfl, rfl, by simp, fun k _ hk => setRow_other w g k _ (fun e => hk (by rw [e]))⟩⟩
  · simp only [List.size_toArray, List.length_append, List.length_take, List.length_drop, Array.length_toList, hl]
    omega
  · rw [e, ht, List.length_append, hn, Nat.mul_one]
    rw [show n + cs.length = (bcells bs ++ bcells cs).length by simp [hl, hlb]]
    exact List.take_left
/-- The row that was grown. -/
theorem OwnX.grew {w : World} {B old n T : Nat} {bs cs : List UInt8} (hn : bs.length = n) (hm : n + cs.length ≤ maxLen) (hb : B ≤ w.heap.size) (row : Option Nat) :
    OwnX (w.drew.alloc (.cells ((bcells bs).toArray ++ (bcells cs).toArray ++ Builtin.zeroCells (Value.int .u8 0).cells (grownCap w (n + cs.length) old T - (n + cs.length))) T)) B (.slice (some ⟨w.heap.size, 0, none⟩) (n + cs.length) (grownCap w (n + cs.length) old T)) (bs ++ cs) ∧
      w.grownBy (w.drew.alloc (.cells ((bcells bs).toArray ++ (bcells cs).toArray ++ Builtin.zeroCells (Value.int .u8 0).cells (grownCap w (n + cs.length) old T - (n + cs.length))) T)) row := by
  have hge := grownCap_ge w (n + cs.length) old T
  have hle := grownCap_le_maxLen w (n + cs.length) old T hm
  have hl : (bcells cs).length = cs.length := by simp [bcells]
  have hlb : (bcells bs).length = n := by simp [bcells, hn]
  have e : bcells (bs ++ cs) = bcells bs ++ bcells cs := by simp [bcells]
  have z1 : (Value.int IntKind.u8 0).cells.size = 1 := rfl
  refine ⟨⟨T, by simp [bcells], .inr ⟨w.heap.size, _, _, by rw [List.length_append, hn], hb, heap_alloc_new w.drew _, by rw [List.length_append, hn]; exact hge, hle, ?_, ?_⟩⟩, ⟨rfl, rfl, rfl, by simp, fun k hk _ => by first | exact heap_alloc_old w.drew _ k hk | exact heap_alloc_old w.drew _ hk⟩⟩
  · simp only [Array.size_append, List.size_toArray, size_zeroCells, z1, hl, hlb]
    omega
  · rw [e, List.length_append, hn, Nat.mul_one]
    simp only [Array.toList_append]
    rw [show n + cs.length = (bcells bs ++ bcells cs).length by simp [hl, hlb]]
    exact List.take_left
/-- Only the block of b is turned, and v lies in it or in a new one. -/
def Onto (w w' : World) (b v : Value) : Prop := w.grownBy w' b.ownBlock ∧ ∀ k, v.ownBlock = some k → b.ownBlock = some k ∨ w.heap.size ≤ k
theorem Onto.refl (w : World) (b : Value) : Onto w w b b := ⟨⟨rfl, rfl, rfl, Nat.le_refl _, fun _ _ _ => rfl⟩, fun k h => .inl h⟩
theorem Onto.trans {w w1 w2 : World} {b v u : Value} (h : Onto w w1 b v) (k : Onto w1 w2 v u) : Onto w w2 b u := by
  refine ⟨⟨k.1.os.trans h.1.os, k.1.tape.trans h.1.tape, k.1.output.trans h.1.output, Nat.le_trans h.1.size k.1.size, fun j hj hn => ?_⟩, fun j hj => ?_⟩
  · refine (k.1.block j (Nat.lt_of_lt_of_le hj h.1.size) fun he => ?_).trans (h.1.block j hj hn)
    rcases h.2 j he.symm with h1 | h1
    · exact hn h1.symm
    · omega
  · rcases k.2 j hj with h1 | h1
    · exact h.2 j h1
    · exact .inr (Nat.le_trans h.1.size h1)
theorem Onto.alloc {w w1 : World} {b v : Value} (h : Onto w w1 b v) (o : Obj) : Onto w (w1.alloc o) b v := h.trans ⟨World.grownBy_alloc w1 o _, fun _ h => .inl h⟩
theorem Onto.then_below {w w1 w2 : World} {b v : Value} (h : Onto w w1 b v) (k : Below w1.heap.size w1 w2) : Onto w w2 b v :=
  h.trans ⟨⟨k.os, k.tape, k.output, k.size, fun j hj _ => k.block j hj⟩, fun _ h => .inl h⟩
theorem Onto.below {w0 w w' : World} {b v : Value} {B : Nat} (h : Onto w w' b v) (hb : ∀ k, b.ownBlock = some k → B ≤ k) (h0 : Below B w0 w) (hB : B ≤ w.heap.size) : Below B w0 w' := h0.grown h.1 hB hb
/-- append of bytes. -/
theorem run_appX (w : World) (B : Nat) (ty : TypeId) (v : Value) (bs : List UInt8) (hown : OwnX w B v bs) (a : Addr) (c : Nat) (cs : List UInt8) (hnews : ∀ j u, (bcells cs)[j]? = some u → w.cell? (a.add j) = some u)
    (hb : bs.length + cs.length ≤ 4398046511104) (hbase : B ≤ w.heap.size) :
    ∃ v' w', (Builtin.append_ #[22, 22] ty #[v, .slice (some a) cs.length c]).run Tryd.prog w = .ok v' w' ∧ OwnX w' B v' (bs ++ cs) ∧ Onto w w' v v' := by
  obtain ⟨i0, hi, hz0, hz1, hz2⟩ := info_parts info8a
  have hm : maxLen = 9223372036854775807 := rfl
  have hl : (bcells cs).length = cs.length := by simp [bcells]
  have e : bcells (bs ++ cs) = bcells bs ++ bcells cs := by simp [bcells]
  obtain ⟨T, h⟩ := hown
  rcases h.2 with ⟨rfl, hn⟩ | ⟨g, cap, cur, rfl, hbg, hg, hnc, hcm, hcs, ht⟩
  · obtain rfl : bs = [] := List.length_eq_zero_iff.1 hn
    obtain ⟨v', w', h1, h2, h3, _⟩ := run_append_own (P := Tryd.prog) w w.heap.size 22 ty 5 i0 (.int .u8 0) 1 1 Tryd.underlying22 hi hz0 hz1 hz2 rfl (by decide) (.slice none 0 0) 0 [] (World.ownsRow_nil _ _ _ _) a cs.length c (bcells cs) (by simp [hl]) hnews (cells_one _) (by omega) (by simp only [List.length_nil] at hb; omega) (Nat.le_refl _)
    exact ⟨v', w', h1, (OwnX.of_row (B := w.heap.size) (by simpa using h2)).mono hbase, h3, fun k hk => .inr (h2.lt k hk).1⟩
  · by_cases hroom : bs.length + cs.length ≤ cap
    · have hf := run_firstCells_some (P := Tryd.prog) w i0.size cs.length a cs.length c (bcells cs) (by rw [hl, hz1]; omega) hnews
      have hst := run_storeCells_at Tryd.prog g bs.length T (bcells cs) 0 cur w hg (by rw [hl]; omega) (cells_one _)
      simp only [Nat.add_zero, hl] at hst
      rw [hz1] at hf
      obtain ⟨k1, k2⟩ := OwnX.roomed (cs := cs) rfl hbg hg hcm hcs ht hroom
      refine ⟨_, _, ?_, k1, k2, fun k hk => .inl hk⟩
      simp [Builtin.append_, run_underlying Tryd.underlying22, sizeOf, typeInfo, hi, hz1, Builtin.lenOf, hroom, hf, Addr.add_lit, hst]
    · have hr := run_append_grow (P := Tryd.prog) w 22 ty 5 i0 (.int .u8 0) Tryd.underlying22 hi hz0 ⟨g, 0, none⟩ bs.length cap (bcells bs) (by simp [bcells, hz1]) (h.cells rfl) a cs.length c (bcells cs) (by rw [hl, hz1]; omega) hnews (by omega) (by omega) (by rw [hz2]; exact growslice_fits (by omega) (by omega))
      obtain ⟨k1, k2⟩ := OwnX.grew (w := w) (B := B) (old := cap) (T := 5) (bs := bs) (cs := cs) rfl (by omega) hbase (Value.ownBlock (.slice (some ⟨g, 0, none⟩) bs.length cap))
      exact ⟨_, _, hr, k1, k2, fun k hk => .inr (by simp only [Value.ownBlock, Option.some.injEq] at hk; omega)⟩
/-- append of a text. -/
theorem run_appXs (w : World) (B : Nat) (ty : TypeId) (v : Value) (bs : List UInt8) (hown : OwnX w B v bs) (s : ByteArray) (hb : bs.length + s.size ≤ 4398046511104) (hbase : B ≤ w.heap.size) :
    ∃ v' w', (Builtin.append_ #[22, 9] ty #[v, .string s]).run Tryd.prog w = .ok v' w' ∧ OwnX w' B v' (bs ++ s.data.toList) ∧ Onto w w' v v' := by
  obtain ⟨i0, hi, hz0, hz1, hz2⟩ := info_parts info8a
  have hm : maxLen = 9223372036854775807 := rfl
  have hsl : s.data.toList.length = s.size := by rw [← Lib.size_eq]
  have hsc : Lib.strCells s = bcells s.data.toList := rfl
  have e : bcells (bs ++ s.data.toList) = bcells bs ++ bcells s.data.toList := by simp [bcells]
  obtain ⟨T, h⟩ := hown
  rcases h.2 with ⟨rfl, hn⟩ | ⟨g, cap, cur, rfl, hbg, hg, hnc, hcm, hcs, ht⟩
  · obtain rfl : bs = [] := List.length_eq_zero_iff.1 hn
    obtain ⟨v', w', h1, h2, h3, _⟩ := Lib.run_append_own_string (P := Tryd.prog) w w.heap.size 22 9 ty 5 i0 Tryd.underlying22 Tryd.underlying9 hi hz0 hz1 hz2 (.slice none 0 0) 0 [] (World.ownsRow_nil _ _ _ _) s (by simp only [List.length_nil] at hb; omega) (by simp only [List.length_nil] at hb; omega) (Nat.le_refl _)
    exact ⟨v', w', h1, (OwnX.of_row (B := w.heap.size) (T := 5) (n := 0 + s.size) (by simpa [hsc] using h2)).mono hbase, h3, fun k hk => .inr (h2.lt k hk).1⟩
  · by_cases hroom : bs.length + s.size ≤ cap
    · have hf := Lib.run_firstCells_string (P := Tryd.prog) w 1 s
      have hst := run_storeCells_at Tryd.prog g bs.length T (Lib.strCells s) 0 cur w hg (by rw [Lib.strCells_length]; omega) (Lib.strCells_oneCell s)
      simp only [Nat.add_zero, Lib.strCells_length] at hst
      rw [← hsl] at hroom
      obtain ⟨k1, k2⟩ := OwnX.roomed (cs := s.data.toList) rfl hbg hg hcm hcs ht hroom
      rw [hsl] at hroom k1 k2
      refine ⟨_, _, ?_, k1, k2, fun k hk => .inl hk⟩
      rw [← hsc]
      simp [Builtin.append_, run_underlying Tryd.underlying22, run_underlying Tryd.underlying9, sizeOf, typeInfo, hi, hz1, Builtin.lenOf, hroom, hf, Addr.add_lit, hst]
    · have hr := Lib.run_append_grow_string (P := Tryd.prog) w 22 9 ty 5 i0 (.int .u8 0) Tryd.underlying22 Tryd.underlying9 hi hz0 ⟨g, 0, none⟩ bs.length cap (bcells bs) (by simp [bcells, hz1]) (h.cells rfl) s (by omega) (by omega) (by rw [hz2]; exact growslice_fits (by omega) (by omega))
      obtain ⟨k1, k2⟩ := OwnX.grew (w := w) (B := B) (old := cap) (T := 5) (bs := bs) (cs := s.data.toList) rfl (by omega) hbase (Value.ownBlock (.slice (some ⟨g, 0, none⟩) bs.length cap))
      rw [hsl] at k1 k2
      rw [hsc] at hr
      exact ⟨_, _, hr, k1, k2, fun k hk => .inr (by simp only [Value.ownBlock, Option.some.injEq] at hk; omega)⟩
/-- append of bytes, as the walk meets it. -/
theorem appX {ops : Array Oper} {rest : List Oper} {o : Oper} {a : Act} {Q : Exit → Act → World → Prop} (w : World) (hgd : o.guard = none) (s x : Operand)
    (ho : o.op = .call { callee := .builtin .append, args := #[s, x], argTypes := #[22, 22] })
    (B : Nat) (v : Value) (bs : List UInt8) (hs : a.eval s = v) (hown : OwnX w B v bs)
    (ad : Addr) (c : Nat) (cs : List UInt8) (hx : a.eval x = .slice (some ad) cs.length c) (hnews : ∀ j u, (bcells cs)[j]? = some u → w.cell? (ad.add j) = some u)
    (rs : List UInt8) (he : bs ++ cs = rs)
    (hb : bs.length + cs.length ≤ 4398046511104) (hbase : B ≤ w.heap.size)
    (h : ∀ v' w', OwnX w' B v' rs → Onto w w' v v' → wpList Tryd.prog ops Q rest (a.put o.dst v') w') : wpList Tryd.prog ops Q (o :: rest) a w := by
  subst he
  refine wpList_plain hgd fun K hK => ?_
  obtain ⟨v', w', hr, h2, h3⟩ := run_appX w B o.type v bs hown ad c cs hnews hb hbase
  unfold Oper.wp execOp
  simp only [ho, resolve, invoke, builtin, Sem.run_bind, Sem.run_pure, Result.andThen_ok, List.map_toArray, List.map_cons, List.map_nil, hs, hx, hr]
  exact hK _ _ (h v' w' h2 h3)
/-- append of a text, as the walk meets it. -/
theorem appXs {ops : Array Oper} {rest : List Oper} {o : Oper} {a : Act} {Q : Exit → Act → World → Prop} (w : World) (hgd : o.guard = none) (sl x : Operand)
    (ho : o.op = .call { callee := .builtin .append, args := #[sl, x], argTypes := #[22, 9] })
    (B : Nat) (v : Value) (bs : List UInt8) (hs : a.eval sl = v) (hown : OwnX w B v bs) (s : ByteArray) (hx : a.eval x = .string s) (rs : List UInt8) (he : bs ++ s.data.toList = rs)
    (hb : bs.length + s.size ≤ 4398046511104) (hbase : B ≤ w.heap.size)
    (h : ∀ v' w', OwnX w' B v' rs → Onto w w' v v' → wpList Tryd.prog ops Q rest (a.put o.dst v') w') : wpList Tryd.prog ops Q (o :: rest) a w := by
  subst he
  refine wpList_plain hgd fun K hK => ?_
  obtain ⟨v', w', hr, h2, h3⟩ := run_appXs w B o.type v bs hown s hb hbase
  unfold Oper.wp execOp
  simp only [ho, resolve, invoke, builtin, Sem.run_bind, Sem.run_pure, Result.andThen_ok, List.map_toArray, List.map_cons, List.map_nil, hs, hx, hr]
  exact hK _ _ (h v' w' h2 h3)
end Go.Proofs.YtioocibgfhgkhaaDoor
