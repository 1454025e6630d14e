/- Several texts in one: AddX, AddY, PiA, PiC, PiF, PiI. -/
import Derived.Test.YthndkkjgjhgdnaaDoorGk16
import Derived.Test.YthndkkjgjhgdnaaDoorGaT
import Derived.Lib.AppendStr
import Derived.Lib.Strings
import Derived.Test.YthndkkjgjhgdnaaDoorGk17
import Derived.Test.YthndkkjgjhgdnaaDoorHp1
import Derived.Deep.RegionHeld3
import Derived.Deep.DeepCutAuto
import Derived.Test.YthndkkjgjhgdnaaDoorPkH
import Derived.Test.YthndkkjgjhgdnaaDoorPutW
import Derived.Test.YthndkkjgjhgdnaaDoorGaA
import Derived.Test.YthndkkjgjhgdnaaDoorHx1
namespace Go.Proofs.YthndkkjgjhgdnaaDoor
open Go.ChangeShapes Go.WideShapes Go.ChangeAt Go.RowKit
set_option linter.unusedVariables false

/-- The value is a slice of the bytes bs, of a block from B on that may be written whole. -/
def OwnX (w : World) (B : Nat) (v : Value) (bs : List UInt8) : Prop := ∃ T, w.ownsRow B T 1 v bs.length (bcells bs)
theorem OwnX.of_row {w : World} {B T n : Nat} {v : Value} {bs : List UInt8} (h : w.ownsRow B T 1 v n (bcells bs)) : OwnX w B v bs := by
  have e : bs.length = n := by have := h.1; simpa [bcells] using this
  exact ⟨T, by rw [e]; exact h⟩
theorem OwnX.lt {w : World} {B : Nat} {v : Value} {bs : List UInt8} (h : OwnX w B v bs) : ∀ k, v.ownBlock = some k → B ≤ k ∧ k < w.heap.size := by
  obtain ⟨T, h⟩ := h; exact h.lt
theorem OwnX.alloc {w : World} {B : Nat} {v : Value} {bs : List UInt8} (h : OwnX w B v bs) (o : Obj) : OwnX (w.alloc o) B v bs := by
  obtain ⟨T, h⟩ := h; exact ⟨T, h.alloc o⟩
theorem OwnX.kept {w w' : World} {B : Nat} {v : Value} {bs : List UInt8} (h : OwnX w B v bs) (hb : Below w.heap.size w w') : OwnX w' B v bs := by
  obtain ⟨T, h⟩ := h
  exact ⟨T, h.kept (row := none) ⟨hb.os, hb.tape, hb.output, hb.size, fun k hk _ => hb.block k hk⟩ (by cases v.ownBlock <;> simp)⟩
theorem OwnX.mono {w : World} {B B' : Nat} {v : Value} {bs : List UInt8} (h : OwnX w B v bs) (hB : B' ≤ B) : OwnX w B' v bs := by
  obtain ⟨T, h⟩ := h
  refine ⟨T, h.1, ?_⟩
  rcases h.2 with h0 | ⟨g, cap, cur, h1, h2, h3⟩
  · exact .inl h0
  · exact .inr ⟨g, cap, cur, h1, by omega, h3⟩
theorem OwnX.nil (w : World) (B : Nat) : OwnX w B (.slice none 0 0) [] := ⟨0, World.ownsRow_nil w B 0 1⟩
theorem OwnX.own {w : World} {B : Nat} {v : Value} {bs : List UInt8} (h : OwnX w B v bs) : OwnB w B v bs := by
  obtain ⟨T, h⟩ := h
  rcases h.2 with ⟨rfl, hn⟩ | ⟨g, cap, cur, rfl, hb, hg, hnc, hcm, hsz, ht⟩
  · have : bs = [] := List.length_eq_zero_iff.1 hn
    subst this
    exact ⟨by simp, none, 0, rfl, by simp, .inl rfl⟩
  · have hm : maxLen = 9223372036854775807 := rfl
    refine ⟨by omega, some ⟨g, 0, none⟩, cap, rfl, by omega, .inr ⟨g, 0, rfl, hb, fun i hi => ?_⟩⟩
    have hcur : cur.toList[i]? = some (Value.int .u8 (bs[i].toNat : Int)) := by
      have e : (cur.toList.take (bs.length * 1))[i]? = (bcells bs)[i]? := by rw [ht]
      rw [List.getElem?_take] at e
      rw [if_pos (by omega)] at e
      rw [e]
      simp [bcells, hi]
    refine ⟨?_, ?_⟩
    · simp only [World.cell?, hg]
      simpa using hcur
    · simp [World.frozen?, hg]
/-- The row with room, written on. -/
theorem OwnX.roomed {w : World} {B g cap n T : Nat} {cur : Array Value} {bs cs : List UInt8} (hn : bs.length = n) (hbg : B ≤ g) (hg : w.heap[g]? = some (.cells cur T (0, 0))) (hcm : cap ≤ maxLen) (hcs : cur.size = cap * 1) (ht : cur.toList.take (n * 1) = bcells bs) (hr : n + cs.length ≤ cap) :
    OwnX (w.setRow g (cur.toList.take n ++ bcells cs ++ cur.toList.drop (n + cs.length)).toArray) B (.slice (some ⟨g, 0, none⟩) (n + cs.length) cap) (bs ++ cs) ∧ w.grownBy (w.setRow g (cur.toList.take n ++ bcells cs ++ cur.toList.drop (n + cs.length)).toArray) (some g) := by
  have hl : (bcells cs).length = cs.length := by simp [bcells]
  have hlb : (bcells bs).length = n := by simp [bcells, hn]
  have e : bcells (bs ++ cs) = bcells bs ++ bcells cs := by simp [bcells]
  rw [Nat.mul_one] at ht
  refine ⟨⟨T, by simp [bcells], .inr ⟨g, cap, _, by rw [List.length_append, hn], hbg, setRow_heap w g cur _ T _ hg, by rw [List.length_append, hn]; exact hr, hcm, ?_, ?_⟩⟩, ⟨rfl, rfl, rfl, by simp, fun k _ hk => setRow_other w g k _ (fun e => hk (by rw [e]))⟩⟩
  · simp only [List.size_toArray, List.length_append, List.length_take, List.length_drop, Array.length_toList, hl]
    omega
  · rw [e, ht, List.length_append, hn, Nat.mul_one]
    rw [show n + cs.length = (bcells bs ++ bcells cs).length by simp [hl, hlb]]
    exact List.take_left
/-- The row that was grown. -/
theorem OwnX.grew {w : World} {B old n T : Nat} {bs cs : List UInt8} (hn : bs.length = n) (hm : n + cs.length ≤ maxLen) (hb : B ≤ w.heap.size) (row : Option Nat) :
    OwnX (w.drew.alloc (.cells ((bcells bs).toArray ++ (bcells cs).toArray ++ Builtin.zeroCells (Value.int .u8 0).cells (grownCap w (n + cs.length) old T - (n + cs.length))) T)) B (.slice (some ⟨w.heap.size, 0, none⟩) (n + cs.length) (grownCap w (n + cs.length) old T)) (bs ++ cs) ∧
      w.grownBy (w.drew.alloc (.cells ((bcells bs).toArray ++ (bcells cs).toArray ++ Builtin.zeroCells (Value.int .u8 0).cells (grownCap w (n + cs.length) old T - (n + cs.length))) T)) row := by
  have hge := grownCap_ge w (n + cs.length) old T
  have hle := grownCap_le_maxLen w (n + cs.length) old T hm
  have hl : (bcells cs).length = cs.length := by simp [bcells]
  have hlb : (bcells bs).length = n := by simp [bcells, hn]
  have e : bcells (bs ++ cs) = bcells bs ++ bcells cs := by simp [bcells]
  have z1 : (Value.int IntKind.u8 0).cells.size = 1 := rfl
  refine ⟨⟨T, by simp [bcells], .inr ⟨w.heap.size, _, _, by rw [List.length_append, hn], hb, heap_alloc_new w.drew _, by rw [List.length_append, hn]; exact hge, hle, ?_, ?_⟩⟩, ⟨rfl, rfl, rfl, by simp, fun k hk _ => by first | exact heap_alloc_old w.drew _ k hk | exact heap_alloc_old w.drew _ hk⟩⟩
  · simp only [Array.size_append, List.size_toArray, size_zeroCells, z1, hl, hlb]
    omega
  · rw [e, List.length_append, hn, Nat.mul_one]
    simp only [Array.toList_append]
    rw [show n + cs.length = (bcells bs ++ bcells cs).length by simp [hl, hlb]]
    exact List.take_left
/-- Only the block of b is turned, and v lies in it or in a new one. -/
def Onto (w w' : World) (b v : Value) : Prop := w.grownBy w' b.ownBlock ∧ ∀ k, v.ownBlock = some k → b.ownBlock = some k ∨ w.heap.size ≤ k
theorem Onto.refl (w : World) (b : Value) : Onto w w b b := ⟨⟨rfl, rfl, rfl, Nat.le_refl _, fun _ _ _ => rfl⟩, fun k h => .inl h⟩
theorem Onto.trans {w w1 w2 : World} {b v u : Value} (h : Onto w w1 b v) (k : Onto w1 w2 v u) : Onto w w2 b u := by
  refine ⟨⟨k.1.os.trans h.1.os, k.1.tape.trans h.1.tape, k.1.output.trans h.1.output, Nat.le_trans h.1.size k.1.size, fun j hj hn => ?_⟩, fun j hj => ?_⟩
  · refine (k.1.block j (Nat.lt_of_lt_of_le hj h.1.size) fun he => ?_).trans (h.1.block j hj hn)
    rcases h.2 j he.symm with h1 | h1
    · exact hn h1.symm
    · omega
  · rcases k.2 j hj with h1 | h1
    · exact h.2 j h1
    · exact .inr (Nat.le_trans h.1.size h1)
theorem Onto.alloc {w w1 : World} {b v : Value} (h : Onto w w1 b v) (o : Obj) : Onto w (w1.alloc o) b v := h.trans ⟨World.grownBy_alloc w1 o _, fun _ h => .inl h⟩
theorem Onto.then_below {w w1 w2 : World} {b v : Value} (h : Onto w w1 b v) (k : Below w1.heap.size w1 w2) : Onto w w2 b v :=
  h.trans ⟨⟨k.os, k.tape, k.output, k.size, fun j hj _ => k.block j hj⟩, fun _ h => .inl h⟩
theorem Onto.below {w0 w w' : World} {b v : Value} {B : Nat} (h : Onto w w' b v) (hb : ∀ k, b.ownBlock = some k → B ≤ k) (h0 : Below B w0 w) (hB : B ≤ w.heap.size) : Below B w0 w' := h0.grown h.1 hB hb
/-- append of bytes. -/
theorem run_appX (w : World) (B : Nat) (ty : TypeId) (v : Value) (bs : List UInt8) (hown : OwnX w B v bs) (a : Addr) (c : Nat) (cs : List UInt8) (hnews : ∀ j u, (bcells cs)[j]? = some u → w.cell? (a.add j) = some u)
    (hb : bs.length + cs.length ≤ 4398046511104) (hbase : B ≤ w.heap.size) :
    ∃ v' w', (Builtin.append_ #[22, 22] ty #[v, .slice (some a) cs.length c]).run Tryd.prog w = .ok v' w' ∧ OwnX w' B v' (bs ++ cs) ∧ Onto w w' v v' := by
  obtain ⟨i0, hi, hz0, hz1, hz2⟩ := info_parts info8a
  have hm : maxLen = 9223372036854775807 := rfl
  have hl : (bcells cs).length = cs.length := by simp [bcells]
  have e : bcells (bs ++ cs) = bcells bs ++ bcells cs := by simp [bcells]
  obtain ⟨T, h⟩ := hown
  rcases h.2 with ⟨rfl, hn⟩ | ⟨g, cap, cur, rfl, hbg, hg, hnc, hcm, hcs, ht⟩
  · obtain rfl : bs = [] := List.length_eq_zero_iff.1 hn
    obtain ⟨v', w', h1, h2, h3, _⟩ := run_append_own (P := Tryd.prog) w w.heap.size 22 ty 5 i0 (.int .u8 0) 1 1 Tryd.underlying22 hi hz0 hz1 hz2 rfl (by decide) (.slice none 0 0) 0 [] (World.ownsRow_nil _ _ _ _) a cs.length c (bcells cs) (by simp [hl]) hnews (cells_one _) (by omega) (by simp only [List.length_nil] at hb; omega) (Nat.le_refl _)
    exact ⟨v', w', h1, (OwnX.of_row (B := w.heap.size) (by simpa using h2)).mono hbase, h3, fun k hk => .inr (h2.lt k hk).1⟩
  · by_cases hroom : bs.length + cs.length ≤ cap
    · have hf := run_firstCells_some (P := Tryd.prog) w i0.size cs.length a cs.length c (bcells cs) (by rw [hl, hz1]; omega) hnews
      have hst := run_storeCells_at Tryd.prog g bs.length T (bcells cs) 0 cur w hg (by rw [hl]; omega) (cells_one _)
      simp only [Nat.add_zero, hl] at hst
      rw [hz1] at hf
      obtain ⟨k1, k2⟩ := OwnX.roomed (cs := cs) rfl hbg hg hcm hcs ht hroom
      refine ⟨_, _, ?_, k1, k2, fun k hk => .inl hk⟩
      simp [Builtin.append_, run_underlying Tryd.underlying22, sizeOf, typeInfo, hi, hz1, Builtin.lenOf, hroom, hf, Addr.add_lit, hst]
    · have hr := run_append_grow (P := Tryd.prog) w 22 ty 5 i0 (.int .u8 0) Tryd.underlying22 hi hz0 ⟨g, 0, none⟩ bs.length cap (bcells bs) (by simp [bcells, hz1]) (h.cells rfl) a cs.length c (bcells cs) (by rw [hl, hz1]; omega) hnews (by omega) (by omega) (by rw [hz2]; exact growslice_fits (by omega) (by omega))
      obtain ⟨k1, k2⟩ := OwnX.grew (w := w) (B := B) (old := cap) (T := 5) (bs := bs) (cs := cs) rfl (by omega) hbase (Value.ownBlock (.slice (some ⟨g, 0, none⟩) bs.length cap))
      exact ⟨_, _, hr, k1, k2, fun k hk => .inr (by simp only [Value.ownBlock, Option.some.injEq] at hk; omega)⟩
/-- append of a text. -/
theorem run_appXs (w : World) (B : Nat) (ty : TypeId) (v : Value) (bs : List UInt8) (hown : OwnX w B v bs) (s : ByteArray) (hb : bs.length + s.size ≤ 4398046511104) (hbase : B ≤ w.heap.size) :
    ∃ v' w', (Builtin.append_ #[22, 9] ty #[v, .string s]).run Tryd.prog w = .ok v' w' ∧ OwnX w' B v' (bs ++ s.data.toList) ∧ Onto w w' v v' := by
  obtain ⟨i0, hi, hz0, hz1, hz2⟩ := info_parts info8a
  have hm : maxLen = 9223372036854775807 := rfl
  have hsl : s.data.toList.length = s.size := by rw [← Lib.size_eq]
  have hsc : Lib.strCells s = bcells s.data.toList := rfl
  have e : bcells (bs ++ s.data.toList) = bcells bs ++ bcells s.data.toList := by simp [bcells]
  obtain ⟨T, h⟩ := hown
  rcases h.2 with ⟨rfl, hn⟩ | ⟨g, cap, cur, rfl, hbg, hg, hnc, hcm, hcs, ht⟩
  · obtain rfl : bs = [] := List.length_eq_zero_iff.1 hn
    obtain ⟨v', w', h1, h2, h3, _⟩ := Lib.run_append_own_string (P := Tryd.prog) w w.heap.size 22 9 ty 5 i0 Tryd.underlying22 Tryd.underlying9 hi hz0 hz1 hz2 (.slice none 0 0) 0 [] (World.ownsRow_nil _ _ _ _) s (by simp only [List.length_nil] at hb; omega) (by simp only [List.length_nil] at hb; omega) (Nat.le_refl _)
    exact ⟨v', w', h1, (OwnX.of_row (B := w.heap.size) (T := 5) (n := 0 + s.size) (by simpa [hsc] using h2)).mono hbase, h3, fun k hk => .inr (h2.lt k hk).1⟩
  · by_cases hroom : bs.length + s.size ≤ cap
    · have hf := Lib.run_firstCells_string (P := Tryd.prog) w 1 s
      have hst := run_storeCells_at Tryd.prog g bs.length T (Lib.strCells s) 0 cur w hg (by rw [Lib.strCells_length]; omega) (Lib.strCells_oneCell s)
      simp only [Nat.add_zero, Lib.strCells_length] at hst
      rw [← hsl] at hroom
      obtain ⟨k1, k2⟩ := OwnX.roomed (cs := s.data.toList) rfl hbg hg hcm hcs ht hroom
      rw [hsl] at hroom k1 k2
      refine ⟨_, _, ?_, k1, k2, fun k hk => .inl hk⟩
      rw [← hsc]
      simp [Builtin.append_, run_underlying Tryd.underlying22, run_underlying Tryd.underlying9, sizeOf, typeInfo, hi, hz1, Builtin.lenOf, hroom, hf, Addr.add_lit, hst]
    · have hr := Lib.run_append_grow_string (P := Tryd.prog) w 22 9 ty 5 i0 (.int .u8 0) Tryd.underlying22 Tryd.underlying9 hi hz0 ⟨g, 0, none⟩ bs.length cap (bcells bs) (by simp [bcells, hz1]) (h.cells rfl) s (by omega) (by omega) (by rw [hz2]; exact growslice_fits (by omega) (by omega))
      obtain ⟨k1, k2⟩ := OwnX.grew (w := w) (B := B) (old := cap) (T := 5) (bs := bs) (cs := s.data.toList) rfl (by omega) hbase (Value.ownBlock (.slice (some ⟨g, 0, none⟩) bs.length cap))
      rw [hsl] at k1 k2
      rw [hsc] at hr
      exact ⟨_, _, hr, k1, k2, fun k hk => .inr (by simp only [Value.ownBlock, Option.some.injEq] at hk; omega)⟩
/-- append of bytes, as the walk meets it. -/
theorem appX {ops : Array Oper} {rest : List Oper} {o : Oper} {a : Act} {Q : Exit → Act → World → Prop} (w : World) (hgd : o.guard = none) (s x : Operand)
    (ho : o.op = .call { callee := .builtin .append, args := #[s, x], argTypes := #[22, 22] })
    (B : Nat) (v : Value) (bs : List UInt8) (hs : a.eval s = v) (hown : OwnX w B v bs)
    (ad : Addr) (c : Nat) (cs : List UInt8) (hx : a.eval x = .slice (some ad) cs.length c) (hnews : ∀ j u, (bcells cs)[j]? = some u → w.cell? (ad.add j) = some u)
    (rs : List UInt8) (he : bs ++ cs = rs)
    (hb : bs.length + cs.length ≤ 4398046511104) (hbase : B ≤ w.heap.size)
    (h : ∀ v' w', OwnX w' B v' rs → Onto w w' v v' → wpList Tryd.prog ops Q rest (a.put o.dst v') w') : wpList Tryd.prog ops Q (o :: rest) a w := by
  subst he
  refine wpList_plain hgd fun K hK => ?_
  obtain ⟨v', w', hr, h2, h3⟩ := run_appX w B o.type v bs hown ad c cs hnews hb hbase
  unfold Oper.wp execOp
  simp only [ho, resolve, invoke, builtin, Sem.run_bind, Sem.run_pure, Result.andThen_ok, List.map_toArray, List.map_cons, List.map_nil, hs, hx, hr]
  exact hK _ _ (h v' w' h2 h3)
/-- append of a text, as the walk meets it. -/
theorem appXs {ops : Array Oper} {rest : List Oper} {o : Oper} {a : Act} {Q : Exit → Act → World → Prop} (w : World) (hgd : o.guard = none) (sl x : Operand)
    (ho : o.op = .call { callee := .builtin .append, args := #[sl, x], argTypes := #[22, 9] })
    (B : Nat) (v : Value) (bs : List UInt8) (hs : a.eval sl = v) (hown : OwnX w B v bs) (s : ByteArray) (hx : a.eval x = .string s) (rs : List UInt8) (he : bs ++ s.data.toList = rs)
    (hb : bs.length + s.size ≤ 4398046511104) (hbase : B ≤ w.heap.size)
    (h : ∀ v' w', OwnX w' B v' rs → Onto w w' v v' → wpList Tryd.prog ops Q rest (a.put o.dst v') w') : wpList Tryd.prog ops Q (o :: rest) a w := by
  subst he
  refine wpList_plain hgd fun K hK => ?_
  obtain ⟨v', w', hr, h2, h3⟩ := run_appXs w B o.type v bs hown s hb hbase
  unfold Oper.wp execOp
  simp only [ho, resolve, invoke, builtin, Sem.run_bind, Sem.run_pure, Result.andThen_ok, List.map_toArray, List.map_cons, List.map_nil, hs, hx, hr]
  exact hK _ _ (h v' w' h2 h3)
end Go.Proofs.YthndkkjgjhgdnaaDoor
namespace Go.Proofs.YthndkkjgjhgdnaaDoor
open Go.ChangeShapes Go.WideShapes Go.ChangeAt Go.RowKit
set_option linter.unusedVariables false

set_option maxHeartbeats 1000000 in
theorem addNum_x (B : Nat) (b : Value) (bs : List UInt8) (x : Nat) (h : x ≤ 9223372036854775807) (w : World) (hown0 : OwnX w B b bs) (hl0 : bs.length ≤ 2199023255552) (hB : B ≤ w.heap.size) :
    Calls Tryd.prog 65 #[b, .int .i64 (x : Int)] w fun e w' => ∃ v, e = .returned v ∧ OwnX w' B v (bs ++ numB x) ∧ Onto w w' b v := by
  have hx : ¬ ((x : Int) < 0) := by omega
  go_enter Tryd.func65, Tryd.ntmps65
  go_wp2
  go_loopw [0, 1] (fun o xv wr => ∃ (m : Nat) (l : List UInt8), xv = .int .i64 (m : Int) ∧ OwnX wr B o (bs ++ l) ∧ m ≤ x ∧ Hid (NumInv x m l) ∧ Onto w wr b o) (fun _ xv _ => (intOf xv).toNat)
  case atStart => exact ⟨x, [], rfl, by simpa using hown0, Nat.le_refl _, NumInv.start h, Onto.refl _ _⟩
  case round =>
    obtain ⟨m, l, rfl, hown, hmx, hinv, hb⟩ := hrel
    have hl8 := (dUnhide hinv).2.1
    have hla : (bs ++ l).length ≤ 2199023255552 + 8 := by simp; omega
    by_cases hm : (m : Int) < 128
    · have hfin := NumInv.done hinv (by omega)
      have hmod : ((UInt8.ofNat m).toNat : Int) = (m : Int) := by simp; omega
      have HE : Hid ((bs ++ l) ++ [UInt8.ofNat m] = bs ++ numB x) := by rw [Hid, List.append_assoc, hfin]
      have hm' : ¬ ((128 : Int) ≤ (m : Int)) := by omega
      clear hfin
      go_wp2_with (at_builtin; refine appX _ rfl _ _ rfl B _ (bs ++ l) rfl (hown.alloc _) ⟨wr.heap.size, 0, none⟩ 1 [UInt8.ofNat m] rfl (one_byte _ _ _ _ hmod) _ (dUnhide HE) ?c3 ?c5 ?_)
      case c3 => omega
      case c5 => have := hb.1.size; simp; omega
      intro v' w1 hown' hgrow
      have hb1 := (hb.alloc _).trans hgrow
      have hown2 := hown'
      clear hown hown' hgrow hb hmod hinv HE
      go_wp2
      go_ret
      exact ⟨_, rfl, hown2, hb1⟩
    · have hmod : ((UInt8.ofNat (m % 128 + 128)).toNat : Int) = (m : Int) % 128 + 128 := by simp; omega
      have hm' : (128 : Int) ≤ (m : Int) := by omega
      obtain ⟨l', HL'⟩ : ∃ l', l ++ [UInt8.ofNat (m % 128 + 128)] = l' := ⟨_, rfl⟩
      have HE : Hid ((bs ++ l) ++ [UInt8.ofNat (m % 128 + 128)] = bs ++ l') := by rw [Hid, List.append_assoc, HL']
      have hst : Hid (NumInv x (m / 128) l') := by rw [← HL']; exact NumInv.step hinv (by omega)
      clear HL'
      go_wp2_with (at_builtin; refine appX _ rfl _ _ rfl B _ (bs ++ l) rfl (hown.alloc _) ⟨wr.heap.size, 0, none⟩ 1 [UInt8.ofNat (m % 128 + 128)] rfl (one_byte _ _ _ _ hmod) _ (dUnhide HE) ?c3 ?c5 ?_)
      case c3 => omega
      case c5 => have := hb.1.size; simp; omega
      intro v' w1 hown' hgrow
      have hb1 := (hb.alloc _).trans hgrow
      have hown2 := hown'
      clear hown hown' hgrow hb hmod hinv hla hl8
      go_wp2
      go_roundw
      case rel => exact ⟨m / 128, l', by go_num, hown2, by omega, hst, hb1⟩
      case measure => simp [intOf]; omega
theorem Onto.it {w wr : World} {b v : Value} (h : Onto w wr b v) {k : Nat} (hk : w.heap.size ≤ k) (s : ByteArray) (p : Nat) : Onto w (wr.iterAt k s p) b v :=
  ⟨⟨h.1.os, h.1.tape, h.1.output, by rw [Lib.iterAt_size]; exact h.1.size, fun j hj hn => (Lib.iterAt_other _ _ _ _ _ (by omega)).trans (h.1.block j hj hn)⟩, h.2⟩
theorem OwnX.it {w : World} {B : Nat} {v : Value} {bs : List UInt8} {k : Nat} {s : ByteArray} {pos : Nat} (h : OwnX w B v bs) (hk : w.heap[k]? = some (.stringIter s pos)) (pos' : Nat) : OwnX (w.iterAt k s pos') B v bs := by
  obtain ⟨T, h⟩ := h
  exact ⟨T, own_it h hk pos'⟩
theorem OwnX.it_ne {w : World} {B : Nat} {v : Value} {bs : List UInt8} {k : Nat} {s : ByteArray} {pos : Nat} (h : OwnX w B v bs) (hk : w.heap[k]? = some (.stringIter s pos)) : some k ≠ v.ownBlock := by
  obtain ⟨T, h⟩ := h
  exact own_it_ne h hk
theorem cut_bytes (hd : List UInt8) (s : ByteArray) (f p : Nat) (h : f ≤ p) : (hd ++ s.data.toList.take f) ++ (s.extract f p).data.toList = hd ++ s.data.toList.take p := by
  have e : (s.extract f p).data.toList = (s.data.toList.drop f).take (p - f) := by
    rw [ByteArray.data_extract, Array.toList_extract]
  rw [e, List.append_assoc, ← List.take_add, show f + (p - f) = p by omega]
set_option maxHeartbeats 1000000 in
theorem addText_x (B : Nat) (b : Value) (bs : List UInt8) (s : ByteArray) (h : s.size ≤ 1099511627776) (hl0 : bs.length ≤ 1099511627776) (w : World) (hown0 : OwnX w B b bs) (hB : B ≤ w.heap.size) :
    Calls Tryd.prog 85 #[b, .string s] w fun e w' => ∃ v, e = .returned v ∧ OwnX w' B v (bs ++ textB s.data.toList) ∧ Onto w w' b v := by
  have hsz : s.data.toList.length = s.size := by rw [← Lib.size_eq]
  have C := dHide (addNum_x B b bs s.size (by omega) w hown0 (by omega) hB)
  have htb : bs ++ textB s.data.toList = (bs ++ numB s.size) ++ s.data.toList.take s.size := by rw [textB, hsz, List.take_of_length_le (by omega), List.append_assoc]
  have hn9 := numB_len s.size
  rw [htb]
  have hhd : (bs ++ numB s.size).length ≤ 1099511627776 + 9 := by rw [List.length_append]; omega
  generalize bs ++ numB s.size = hd at *
  have hcl := dHide (cut_len hd s)
  have hcc := dHide (cut_bytes hd s)
  have hlen : ∀ f, (hd ++ s.data.toList.take f).length ≤ 1099511627776 + 9 + s.size := fun f => by simp only [List.length_append, List.length_take, hsz]; omega
  have HL := dHide hlen
  clear htb hsz hlen hn9 hhd
  go_enter Tryd.func85, Tryd.ntmps85
  go_wp2_with fail
  refine (dUnhide C).mono ?_
  rintro e w1 ⟨v, rfl, hown1, hb1⟩
  clear C hown0
  go_wp2
  go_loopw [0, 5] (fun o fv wr => ∃ (f p : Nat), fv = .int .i64 (f : Int) ∧ OwnX wr B o (hd ++ s.data.toList.take f) ∧ wr.heap[w1.heap.size]? = some (.stringIter s p) ∧ f ≤ p ∧ f ≤ s.size ∧ Onto w wr b o) (fun _ _ wr => s.size - wr.iterPos w1.heap.size)
  case atStart => exact ⟨0, 0, rfl, by rw [World.iter]; simpa using hown1.alloc _, World.iter_heap w1 s 0, Nat.le_refl _, Nat.zero_le _, by rw [World.iter]; exact hb1.alloc _⟩
  case round =>
    obtain ⟨f, p, rfl, hown, hit, hfp, hfs, hb⟩ := hrel
    have hB1 := hb1.1.size
    by_cases hlt : p < s.size
    · have hnx : ∀ ty, (Instr.next (.pointer (some ⟨w1.heap.size, 0, none⟩)) true ty).run Tryd.prog wr = _ := fun ty => Lib.run_next_any_at wr w1.heap.size s p ty hit hlt
      have hwd := wide_pos s p hlt
      obtain ⟨R, hR⟩ : ∃ R, (Utf8.decode s p).1 = R := ⟨_, rfl⟩
      obtain ⟨K, hK⟩ : ∃ K, (Utf8.decode s p).2 = K := ⟨_, rfl⟩
      rw [hR, hK] at hnx
      rw [hK] at hwd
      have hit2 := Lib.iterAt_heap wr w1.heap.size s p (p + K) hit
      have hb2 := hb.it (k := w1.heap.size) (by omega) s (p + K)
      have hown2 := hown.it hit (p + K)
      have hsz2 := Lib.iterAt_size wr w1.heap.size s (p + K)
      have hmea : wr.iterPos w1.heap.size = p := by simp [World.iterPos, hit]
      obtain ⟨W, hWd⟩ : ∃ W, wr.iterAt w1.heap.size s (p + K) = W := ⟨_, rfl⟩
      rw [hWd] at hnx hit2 hb2 hown2 hsz2
      clear hown hit hb hWd
      have hsl : (Instr.slice 9 (.string s) (some (.int .i64 (f : Int))) (some (.int .i64 (p : Int))) none).run Tryd.prog W = .ok (.string (s.extract f p)) W := by
        have := run_slice_string_if (P := Tryd.prog) W 9 s .i64 .i64 f p Tryd.underlying9
        rw [if_pos (by omega), if_pos (by omega)] at this
        simpa using this
      have hcl' := dUnhide hcl f p hfp (by omega)
      have hcc' := dHide (dUnhide hcc f p hfp)
      have hlp := dUnhide HL p
      go_wp2_with (at_builtin; refine appXs _ rfl _ _ rfl B _ (hd ++ s.data.toList.take f) rfl hown2 (s.extract f p) rfl (hd ++ s.data.toList.take p) (dUnhide hcc') ?c4 ?c5 ?_)
      case c4 => rw [hcl']; omega
      case c5 => have := hb2.1.size; omega
      intro v' w3 hown3 hgrow
      have hb3 := hb2.trans hgrow
      have hit3 : w3.heap[w1.heap.size]? = some (.stringIter s (p + K)) := (hgrow.1.block w1.heap.size (Array.getElem?_eq_some_iff.1 hit2).1 (hown2.it_ne hit2)).trans hit2
      clear hcl' hcc' hgrow hown2 hit2 hb2 hnx hsl
      go_wp2
      go_roundw
      case rel => exact ⟨p, p + K, rfl, hown3, hit3, by omega, by omega, hb3⟩
      case measure => rw [hmea]; simp [World.iterPos, hit3]; omega
    · have hnx : ∀ ty, (Instr.next (.pointer (some ⟨w1.heap.size, 0, none⟩)) true ty).run Tryd.prog wr = _ := fun ty => Lib.run_next_end_at wr w1.heap.size s p ty hit hlt
      have hsl : (Instr.slice 9 (.string s) (some (.int .i64 (f : Int))) none none).run Tryd.prog wr = .ok (.string (s.extract f s.size)) wr := by
        have := run_slice_string_from_if (P := Tryd.prog) wr 9 s .i64 f Tryd.underlying9
        rw [if_pos (by omega)] at this
        simpa using this
      have hcl' := dUnhide hcl f s.size hfs (Nat.le_refl _)
      have hcc' := dHide (dUnhide hcc f s.size hfs)
      have hlp := dUnhide HL s.size
      go_wp2_with (at_builtin; refine appXs _ rfl _ _ rfl B _ (hd ++ s.data.toList.take f) rfl hown (s.extract f s.size) rfl (hd ++ s.data.toList.take s.size) (dUnhide hcc') ?c4 ?c5 ?_)
      case c4 => rw [hcl']; omega
      case c5 => have := hb.1.size; omega
      intro v' w3 hown3 hgrow
      have hb3 := hb.trans hgrow
      clear hcl' hcc' hgrow hown hit hb hnx hsl
      go_wp2
      go_ret
      exact ⟨_, rfl, hown3, hb3⟩
end Go.Proofs.YthndkkjgjhgdnaaDoor
namespace Go.Proofs.YthndkkjgjhgdnaaDoor
open Go.ChangeShapes Go.WideShapes Go.ChangeAt Go.RowKit
set_option linter.unusedVariables false
set_option linter.unusedSimpArgs false
set_option maxRecDepth 100000

/-- What an adder leaves, seen from a world w0 below whose B nothing turns. -/
theorem Onto.at {w0 w w' : World} {B : Nat} {b v : Value} {bs : List UInt8} (h : Onto w w' b v) (hO : OwnX w B b bs) (h0 : Below B w0 w) (hB : B ≤ w.heap.size) : Below B w0 w' ∧ B ≤ w'.heap.size :=
  ⟨h.below (fun k hk => (hO.lt k hk).1) h0 hB, Nat.le_trans hB h.1.size⟩
set_option maxHeartbeats 2000000 in
theorem addListI_x (B : Nat) (w0 : World) (b : Value) (bs : List UInt8) (lv : Value) (xs : List Int) (h0 : natI xs) (hl : xs.length ≤ 1048576) (hbs : bs.length ≤ 1099511627776) (HV : ∀ W, Below B w0 W → Ns W lv xs) (w : World) (hb0 : Below B w0 w) (hown0 : OwnX w B b bs) (hB : B ≤ w.heap.size) :
    Calls Tryd.prog 64 #[b, lv, .func (.func 65) #[] #[]] w fun e w' => ∃ v, e = .returned v ∧ OwnX w' B v (bs ++ lstB xs) ∧ Onto w w' b v := by
  have HV := dHide HV
  obtain ⟨-, a, cap, rfl, -, -⟩ := dUnhide HV w hb0
  have C := dHide (addNum_x B b bs xs.length (by omega) w hown0 (by omega) hB)
  have n9 := numB_len xs.length
  have ES : Hid (bs ++ lstB xs = (bs ++ numB xs.length) ++ numsB xs) := by rw [Hid, lstB, List.append_assoc]
  have hhd : (bs ++ numB xs.length).length ≤ 1099511627776 + 9 := by rw [List.length_append]; omega
  generalize bs ++ numB xs.length = hd at *
  go_enter Tryd.func64, Tryd.ntmps64
  go_wp2_with fail
  refine (dUnhide C).mono ?_
  rintro e w1 ⟨v1, rfl, O1, T1⟩
  have B1 := T1.at hown0 hb0 hB
  clear C n9 hown0 hb0
  go_wp2
  go_loopw [0, 15] (fun o xv wr => ∃ k : Nat, xv = .int .i64 (k : Int) ∧ k ≤ xs.length ∧ OwnX wr B o (hd ++ numsB (xs.take k)) ∧ Onto w wr b o ∧ Below B w0 wr ∧ B ≤ wr.heap.size) (fun _ xv _ => xs.length - (intOf xv).toNat)
  case atStart => exact ⟨0, rfl, Nat.zero_le _, by simpa [numsB] using O1, T1, B1.1, B1.2⟩
  case round =>
    clear O1 T1 B1
    obtain ⟨k, rfl, hk, ho, ht, hb, hbz⟩ := hrel
    by_cases hlt : (k : Int) < (xs.length : Int)
    · have hkl : k < xs.length := by omega
      obtain ⟨bk, off, rfl, hc⟩ := (dUnhide HV wr hb).at17 hkl
      have c0 := hc k hkl
      have hS := dHide (numsB_take xs k hkl)
      have hx0 := h0 _ (List.getElem_mem hkl)
      have hfl := numsB_len (xs.take k)
      rw [List.length_take] at hfl
      generalize xs[k] = y at *
      generalize numsB (xs.take k) = FK at *
      obtain ⟨n, rfl⟩ := Int.eq_ofNat_of_zero_le hx0.1
      rw [Int.toNat_natCast] at hS
      have CP := dHide (addNum_x B u0 (hd ++ FK) n (by omega) wr ho (by rw [List.length_append]; omega) hbz)
      have FIN : Hid (∀ v5 w5, OwnX w5 B v5 ((hd ++ FK) ++ numB n) → Onto wr w5 u0 v5 → OwnX w5 B v5 (hd ++ numsB (xs.take (k + 1))) ∧ Onto w w5 b v5 ∧ Below B w0 w5 ∧ B ≤ w5.heap.size) := fun v5 w5 h1 h2 =>
        ⟨by rw [dUnhide hS, ← List.append_assoc]; exact h1, ht.trans h2, h2.at ho hb hbz⟩
      clear hc ho ht hS hb
      go_wp2_with fail
      refine (dUnhide CP).mono ?_
      rintro e w5 ⟨v5, rfl, O5, T5⟩
      have F := dHide (dUnhide FIN v5 w5 O5 T5)
      clear O5 T5 FIN CP c0
      go_wp2
      go_roundw
      case rel => exact ⟨k + 1, by go_num, by omega, (dUnhide F).1, (dUnhide F).2.1, (dUnhide F).2.2.1, (dUnhide F).2.2.2⟩
      case measure => simp [intOf]; omega
    · have e1 : xs.take k = xs := List.take_of_length_le (by omega)
      rw [e1] at ho
      have Q := dHide (And.intro ho ht)
      clear e1 ho ht hb
      go_wp2
      go_ret
      refine ⟨_, rfl, ?_⟩
      rw [dUnhide ES]
      exact dUnhide Q
theorem textB_len (d : ByteArray) : (textB d.data.toList).length ≤ 9 + d.size := by
  have h3 := numB_len d.data.toList.length
  have h4 : d.data.toList.length = d.size := by rw [← Lib.size_eq]
  unfold textB
  rw [List.length_append]
  omega
/-- A flag's byte. -/
def flgB (f : Bool) : List UInt8 := numB (if f then 1 else 0)
theorem flgB_len (f : Bool) : (flgB f).length ≤ 9 := numB_len _
set_option maxHeartbeats 2000000 in
theorem addConfig_x (B : Nat) (w0 : World) (b : Value) (bs : List UInt8) (sv : Value) (ds : List Int) (cop : Nat) (hc : cop ≤ 9223372036854775807) (h0 : natI ds) (hl : ds.length ≤ 1048576) (hbs : bs.length ≤ 1048576) (HV : ∀ W, Below B w0 W → Ns W sv ds) (w : World) (hb0 : Below B w0 w) (hown0 : OwnX w B b bs) (hB : B ≤ w.heap.size) :
    Calls Tryd.prog 45 #[b, .agg #[sv, .int .i64 (cop : Int)]] w fun e w' => ∃ v, e = .returned v ∧ OwnX w' B v (bs ++ cfgB ds (cop : Int)) ∧ Onto w w' b v := by
  have HV := dHide HV
  have ba : ∀ (w : World) o, Below w.heap.size w (w.alloc o) := fun w o => (Below.refl _ _).alloc (Nat.le_refl _) o
  obtain ⟨-, a, cap, rfl, -, -⟩ := dUnhide HV w hb0
  have X0 := Bx.new w [.slice a ds.length cap, .int .i64 (cop : Int)] 26
  have B0 := ba w (.cells #[.slice a ds.length cap, .int .i64 (cop : Int)] 26)
  have O0 := hown0.alloc (.cells #[.slice a ds.length cap, .int .i64 (cop : Int)] 26)
  have T0 := (Onto.refl w b).alloc (.cells #[.slice a ds.length cap, .int .i64 (cop : Int)] 26)
  have Z0 := T0.at hown0 hb0 hB
  have ES : Hid (bs ++ cfgB ds (cop : Int) = (bs ++ lstB ds) ++ numB cop) := by rw [Hid, cfgB, Int.toNat_natCast, List.append_assoc]
  have NB : ∀ k, b.ownBlock = some k → k ≠ w.heap.size := fun k hk => by have := (hown0.lt k hk).2; omega
  clear ba hown0 hb0
  go_enter Tryd.func45, Tryd.ntmps45
  go_wp2_with fail
  generalize w.alloc (.cells #[.slice a ds.length cap, .int .i64 (cop : Int)] 26) = wb at *
  have C := addListI_x B w0 b bs (.slice a ds.length cap) ds h0 hl (by omega) (dUnhide HV) wb Z0.1 O0 Z0.2
  refine C.mono ?_
  rintro e w1 ⟨v1, rfl, O1, T1⟩
  have X1 := X0.grown T1.1 (by intro e; exact NB _ e rfl)
  have Z1 := T1.at O0 Z0.1 Z0.2
  have T01 := T0.trans T1
  have h2 := lstB_len ds
  have C2 := dHide (addNum_x B v1 (bs ++ lstB ds) cop hc w1 O1 (by rw [List.length_append]; omega) Z1.2)
  have k0 := X1 0 _ rfl
  have k1 := X1 1 _ rfl
  clear C X0 X1 B0 O0 T0 Z0 T1 O1 Z1
  go_wp2_with fail
  refine (dUnhide C2).mono ?_
  rintro e w2 ⟨v2, rfl, O2, T2⟩
  have F := dHide (And.intro O2 (T01.trans T2))
  clear C2 O2 T2 T01 k0 k1
  go_wp2
  go_ret
  refine ⟨_, rfl, ?_⟩
  rw [dUnhide ES]
  exact dUnhide F
end Go.Proofs.YthndkkjgjhgdnaaDoor
namespace Go.Proofs.YthndkkjgjhgdnaaDoor
open Go.ChangeShapes Go.WideShapes Go.ChangeAt Go.RowKit
set_option linter.unusedVariables false
set_option linter.unusedSimpArgs false
set_option maxRecDepth 100000

set_option maxHeartbeats 4000000 in
theorem addEvent_x (B : Nat) (w0 : World) (b : Value) (bs : List UInt8) (n0 n1 : Nat) (d : ByteArray) (h0 : n0 ≤ 9223372036854775807) (h1 : n1 ≤ 9223372036854775807) (hd : d.size ≤ 1048576) (hbs : bs.length ≤ 1000000000) (w : World) (hb0 : Below B w0 w) (hown0 : OwnX w B b bs) (hB : B ≤ w.heap.size) :
    Calls Tryd.prog 77 #[b, .agg #[.int .i64 (n0 : Int), .int .i64 (n1 : Int), .string d]] w fun e w' => ∃ v, e = .returned v ∧ OwnX w' B v (bs ++ ((numB n0 ++ numB n1) ++ textB d.data.toList)) ∧ Onto w w' b v := by
  have l0 := numB_len n0
  have l1 := numB_len n1
  have X0 := Bx.new w [.int .i64 (n0 : Int), .int .i64 (n1 : Int), .string d] 68
  have O0 := hown0.alloc (.cells #[.int .i64 (n0 : Int), .int .i64 (n1 : Int), .string d] 68)
  have T0 := (Onto.refl w b).alloc (.cells #[.int .i64 (n0 : Int), .int .i64 (n1 : Int), .string d] 68)
  have HZ := dHide fun (W : World) (v : Value) (h : Onto w W b v) => h.at hown0 hb0 hB
  have Z0 := dUnhide HZ _ _ T0
  have ES : Hid (bs ++ ((numB n0 ++ numB n1) ++ textB d.data.toList) = (((bs ++ numB n0) ++ numB n1) ++ textB d.data.toList)) := by simp only [Hid, List.append_assoc]
  have NB : b.ownBlock ≠ some w.heap.size := fun e => by have := (hown0.lt _ e).2; omega
  have NB := dHide NB
  clear hown0 hb0
  go_enter Tryd.func77, Tryd.ntmps77
  have k0 := X0 0 _ rfl
  go_wp2_with fail
  generalize w.alloc (.cells #[.int .i64 (n0 : Int), .int .i64 (n1 : Int), .string d] 68) = wb at *
  have U0 := Onto.refl wb b
  have C := addNum_x B b bs n0 (by omega) wb O0 (by first | omega | (simp only [List.length_append]; omega)) Z0.2
  refine C.mono ?_
  rintro e w1 ⟨v1, rfl, O1, t1⟩
  have U1 := U0.trans t1
  have Z1 := dUnhide HZ _ _ (T0.trans U1)
  clear C Z0 O0 t1 U0 k0
  have k1 := (X0.grown U1.1 (dUnhide NB)) 1 _ rfl
  have C := addNum_x B v1 (bs ++ numB n0) n1 (by omega) w1 O1 (by first | omega | (simp only [List.length_append]; omega)) Z1.2
  go_wp2_with fail
  refine C.mono ?_
  rintro e w2 ⟨v2, rfl, O2, t2⟩
  have U2 := U1.trans t2
  have Z2 := dUnhide HZ _ _ (T0.trans U2)
  clear C Z1 O1 t2 U1 k1
  have k2 := (X0.grown U2.1 (dUnhide NB)) 2 _ rfl
  have C := addText_x B v2 ((bs ++ numB n0) ++ numB n1) d (by omega) (by first | omega | (simp only [List.length_append]; omega)) w2 O2 Z2.2
  go_wp2_with fail
  refine C.mono ?_
  rintro e w3 ⟨v3, rfl, O3, t3⟩
  have U3 := U2.trans t3
  have Z3 := dUnhide HZ _ _ (T0.trans U3)
  clear C Z2 O2 t3 U2 k2
  have F := dHide (And.intro O3 (T0.trans U3))
  clear O3 U3 T0 X0 HZ NB Z3
  go_wp2
  go_ret
  refine ⟨_, rfl, ?_⟩
  rw [dUnhide ES]
  exact dUnhide F
set_option maxHeartbeats 4000000 in
theorem addListEvent_x (B : Nat) (w0 : World) (b : Value) (bs : List UInt8) (a : Option Addr) (cap : Nat) (rs : List Ev) (hl : rs.length ≤ 1048576) (hfl : ∀ k, ((rs.take k).flatMap evB).length ≤ 100000000) (hbs : bs.length ≤ 800000000) (HR : ∀ W, Below B w0 W → Rw 3 Ev.cl W (.slice a rs.length cap) rs)
    (HE : ∀ k (hk : k < rs.length) u xs W, Below B w0 W → OwnX W B u xs → xs.length ≤ 1000000000 → B ≤ W.heap.size → Calls Tryd.prog 77 #[u, .agg #[.int .i64 rs[k].kind, .int .i64 rs[k].pl, .string rs[k].data]] W fun e w' => ∃ v, e = .returned v ∧ OwnX w' B v (xs ++ evB rs[k]) ∧ Onto W w' u v)
    (w : World) (hb0 : Below B w0 w) (hown0 : OwnX w B b bs) (hB : B ≤ w.heap.size) :
    Calls Tryd.prog 76 #[b, .slice a rs.length cap, .func (.func 77) #[] #[]] w fun e w' => ∃ v, e = .returned v ∧ OwnX w' B v (bs ++ (numB rs.length ++ rs.flatMap evB)) ∧ Onto w w' b v := by
  have HR := dHide HR
  have HE := dHide HE
  have HF := dHide hfl
  have C := dHide (addNum_x B b bs rs.length (by omega) w hown0 (by omega) hB)
  have n9 := numB_len rs.length
  have ES : Hid (bs ++ (numB rs.length ++ rs.flatMap evB) = (bs ++ numB rs.length) ++ rs.flatMap evB) := by simp only [Hid, List.append_assoc]
  have hhd : (bs ++ numB rs.length).length ≤ 800000009 := by rw [List.length_append]; omega
  generalize bs ++ numB rs.length = hd at *
  clear hfl
  go_enter Tryd.func76, Tryd.ntmps76
  go_wp2_with fail
  refine (dUnhide C).mono ?_
  rintro e w1 ⟨v1, rfl, O1, T1⟩
  have B1 := T1.at hown0 hb0 hB
  clear C n9 hown0 hb0
  go_wp2
  go_loopw [0, 15] (fun o xv wr => ∃ k : Nat, xv = .int .i64 (k : Int) ∧ k ≤ rs.length ∧ OwnX wr B o (hd ++ (rs.take k).flatMap evB) ∧ Onto w wr b o ∧ Below B w0 wr ∧ B ≤ wr.heap.size) (fun _ xv _ => rs.length - (intOf xv).toNat)
  case atStart => exact ⟨0, rfl, Nat.zero_le _, by simpa using O1, T1, B1.1, B1.2⟩
  case round =>
    clear O1 T1 B1
    obtain ⟨k, rfl, hk, ho, ht, hb, hbz⟩ := hrel
    by_cases hlt : (k : Int) < (rs.length : Int)
    · have hkl : k < rs.length := by omega
      obtain ⟨bk, off, rfl, hc⟩ := (dUnhide HR wr hb).atEv hkl
      obtain ⟨c0, c1, c2⟩ := hc k hkl
      have hS : (rs.take (k + 1)).flatMap evB = (rs.take k).flatMap evB ++ evB rs[k] := by
        have hkm : k < rs.length := hkl
        rw [List.take_succ_eq_append_getElem hkm, List.flatMap_append, List.flatMap_cons, List.flatMap_nil, List.append_nil]
      have hfk := dUnhide HF k
      have AE := dHide (dUnhide HE k hkl)
      generalize rs[k] = y at *
      generalize (rs.take k).flatMap evB = FK at *
      obtain ⟨y1, y2, y3⟩ := y
      simp only at c0 c1 c2 hS AE
      have bA : Below wr.heap.size wr (wr.alloc (.cells #[.int .i64 y1, .int .i64 y2, .string y3] 68)) := (Below.refl _ _).alloc (Nat.le_refl _) _
      have FIN : Hid (∀ v5 w5, OwnX w5 B v5 ((hd ++ FK) ++ evB ⟨y1, y2, y3⟩) → Onto (wr.alloc (.cells #[.int .i64 y1, .int .i64 y2, .string y3] 68)) w5 u0 v5 → OwnX w5 B v5 (hd ++ (rs.take (k + 1)).flatMap evB) ∧ Onto w w5 b v5 ∧ Below B w0 w5 ∧ B ≤ w5.heap.size) := fun v5 w5 h1 h2 => by
        have q1 := ht.trans (((Onto.refl wr u0).alloc (.cells #[.int .i64 y1, .int .i64 y2, .string y3] 68)).trans h2)
        have q2 := ((Onto.refl wr u0).alloc (.cells #[.int .i64 y1, .int .i64 y2, .string y3] 68)).trans h2
        exact ⟨by rw [hS, ← List.append_assoc]; exact h1, q1, q2.at ho hb hbz⟩
      have AE := dHide (dUnhide AE u0 (hd ++ FK) (wr.alloc (.cells #[.int .i64 y1, .int .i64 y2, .string y3] 68)) (hb.trans (bA.mono hbz)) (ho.alloc _) (by rw [List.length_append]; omega) (Nat.le_trans hbz bA.size))
      clear hc ho ht hS hb bA hfk
      go_wp2_with fail
      refine (dUnhide AE).mono ?_
      rintro e w5 ⟨v5, rfl, O5, T5⟩
      have F := dHide (dUnhide FIN v5 w5 O5 T5)
      clear O5 T5 FIN AE c0 c1 c2
      go_wp2
      go_roundw
      case rel => exact ⟨k + 1, by go_num, by omega, (dUnhide F).1, (dUnhide F).2.1, (dUnhide F).2.2.1, (dUnhide F).2.2.2⟩
      case measure => simp [intOf]; omega
    · have e1 : rs.take k = rs := List.take_of_length_le (by omega)
      rw [e1] at ho
      have Q := dHide (And.intro ho ht)
      clear e1 ho ht hb
      go_wp2
      go_ret
      refine ⟨_, rfl, ?_⟩
      rw [dUnhide ES]
      exact dUnhide Q
set_option maxHeartbeats 4000000 in
theorem addReader_x (B : Nat) (w0 : World) (b : Value) (bs : List UInt8) (n0 n1 : Nat) (h0 : n0 ≤ 9223372036854775807) (h1 : n1 ≤ 9223372036854775807) (a : Option Addr) (cap : Nat) (rs : List Ev) (hl : rs.length ≤ 1048576) (hfl : ∀ k, ((rs.take k).flatMap evB).length ≤ 100000000) (HR : ∀ W, Below B w0 W → Rw 3 Ev.cl W (.slice a rs.length cap) rs) (HE : ∀ k (hk : k < rs.length) u xs W, Below B w0 W → OwnX W B u xs → xs.length ≤ 1000000000 → B ≤ W.heap.size → Calls Tryd.prog 77 #[u, .agg #[.int .i64 rs[k].kind, .int .i64 rs[k].pl, .string rs[k].data]] W fun e w' => ∃ v, e = .returned v ∧ OwnX w' B v (xs ++ evB rs[k]) ∧ Onto W w' u v) (hbs : bs.length ≤ 700000000) (w : World) (hb0 : Below B w0 w) (hown0 : OwnX w B b bs) (hB : B ≤ w.heap.size) :
    Calls Tryd.prog 57 #[b, .agg #[.int .i64 (n0 : Int), .int .i64 (n1 : Int), .slice a rs.length cap]] w fun e w' => ∃ v, e = .returned v ∧ OwnX w' B v (bs ++ ((numB n0 ++ numB n1) ++ (numB rs.length ++ rs.flatMap evB))) ∧ Onto w w' b v := by
  have HF := dHide hfl
  have HR := dHide HR
  have HE := dHide HE
  clear hfl
  have l0 := numB_len n0
  have l1 := numB_len n1
  have X0 := Bx.new w [.int .i64 (n0 : Int), .int .i64 (n1 : Int), .slice a rs.length cap] 36
  have O0 := hown0.alloc (.cells #[.int .i64 (n0 : Int), .int .i64 (n1 : Int), .slice a rs.length cap] 36)
  have T0 := (Onto.refl w b).alloc (.cells #[.int .i64 (n0 : Int), .int .i64 (n1 : Int), .slice a rs.length cap] 36)
  have HZ := dHide fun (W : World) (v : Value) (h : Onto w W b v) => h.at hown0 hb0 hB
  have Z0 := dUnhide HZ _ _ T0
  have ES : Hid (bs ++ ((numB n0 ++ numB n1) ++ (numB rs.length ++ rs.flatMap evB)) = (((bs ++ numB n0) ++ numB n1) ++ (numB rs.length ++ rs.flatMap evB))) := by simp only [Hid, List.append_assoc]
  have NB : b.ownBlock ≠ some w.heap.size := fun e => by have := (hown0.lt _ e).2; omega
  have NB := dHide NB
  clear hown0 hb0
  go_enter Tryd.func57, Tryd.ntmps57
  have k0 := X0 0 _ rfl
  go_wp2_with fail
  generalize w.alloc (.cells #[.int .i64 (n0 : Int), .int .i64 (n1 : Int), .slice a rs.length cap] 36) = wb at *
  have U0 := Onto.refl wb b
  have C := addNum_x B b bs n0 (by omega) wb O0 (by first | omega | (simp only [List.length_append]; omega)) Z0.2
  refine C.mono ?_
  rintro e w1 ⟨v1, rfl, O1, t1⟩
  have U1 := U0.trans t1
  have Z1 := dUnhide HZ _ _ (T0.trans U1)
  clear C Z0 O0 t1 U0 k0
  have k1 := (X0.grown U1.1 (dUnhide NB)) 1 _ rfl
  have C := addNum_x B v1 (bs ++ numB n0) n1 (by omega) w1 O1 (by first | omega | (simp only [List.length_append]; omega)) Z1.2
  go_wp2_with fail
  refine C.mono ?_
  rintro e w2 ⟨v2, rfl, O2, t2⟩
  have U2 := U1.trans t2
  have Z2 := dUnhide HZ _ _ (T0.trans U2)
  clear C Z1 O1 t2 U1 k1
  have k2 := (X0.grown U2.1 (dUnhide NB)) 2 _ rfl
  have C := addListEvent_x B w0 v2 ((bs ++ numB n0) ++ numB n1) a cap rs hl (dUnhide HF) (by first | omega | (simp only [List.length_append]; omega)) (dUnhide HR) (dUnhide HE) w2 Z2.1 O2 Z2.2
  go_wp2_with fail
  refine C.mono ?_
  rintro e w3 ⟨v3, rfl, O3, t3⟩
  have U3 := U2.trans t3
  have Z3 := dUnhide HZ _ _ (T0.trans U3)
  clear C Z2 O2 t3 U2 k2
  have F := dHide (And.intro O3 (T0.trans U3))
  clear O3 U3 T0 X0 HZ NB Z3
  go_wp2
  go_ret
  refine ⟨_, rfl, ?_⟩
  rw [dUnhide ES]
  exact dUnhide F
end Go.Proofs.YthndkkjgjhgdnaaDoor
namespace Go.Proofs.YthndkkjgjhgdnaaDoor
open Go.ChangeShapes Go.WideShapes Go.ChangeAt Go.RowKit
set_option linter.unusedVariables false
set_option linter.unusedSimpArgs false
set_option maxRecDepth 100000

/-- How a reader lasts: three functions. -/
def readerFormL : List Value := [.func (.func 53) #[] #[], .func (.func 57) #[] #[], .func (.func 58) #[] #[]]
set_option maxHeartbeats 4000000 in
theorem packReader_any (x0 x1 : Int) (a : Option Addr) (n cap : Nat) (P : Prop) (M : List UInt8 × Bool) (bs : List UInt8) (hy : P → M = (bs, true)) (hn : ¬ P → M = ([], false)) (w : World)
    (CR : ∀ W, Below w.heap.size w W → Calls Tryd.prog 53 #[.agg #[.int .i64 x0, .int .i64 x1, .slice a n cap]] W fun e w' => RetB P e ∧ Below W.heap.size W w')
    (CW : P → ∀ W, Below w.heap.size w W → Calls Tryd.prog 57 #[.slice none 0 0, .agg #[.int .i64 x0, .int .i64 x1, .slice a n cap]] W fun e w' => ∃ u, e = .returned u ∧ OwnX w' W.heap.size u bs ∧ Below W.heap.size W w') :
    Calls Tryd.prog 35 #[.agg (readerFormL).toArray, .agg #[.int .i64 x0, .int .i64 x1, .slice a n cap]] w fun e w' => (∃ u, e = .returned (.tuple #[u, .bool M.2]) ∧ OwnX w' w.heap.size u M.1) ∧ Below w.heap.size w w' := by
  have CR := dHide CR
  have CW := dHide CW
  have HY := dHide hy
  have HN := dHide hn
  have ba : ∀ (w : World) o, Below w.heap.size w (w.alloc o) := fun w o => (Below.refl _ _).alloc (Nat.le_refl _) o
  clear hy hn
  unfold readerFormL
  have X0 := Bx.new w [.func (.func 53) #[] #[], .func (.func 57) #[] #[], .func (.func 58) #[] #[]] 65
  have B0 := ba w (.cells #[.func (.func 53) #[] #[], .func (.func 57) #[] #[], .func (.func 58) #[] #[]] 65)
  have X1 := Bx.new (w.alloc (.cells #[.func (.func 53) #[] #[], .func (.func 57) #[] #[], .func (.func 58) #[] #[]] 65)) [.int .i64 x0, .int .i64 x1, .slice a n cap] 36
  have b1 := ba (w.alloc (.cells #[.func (.func 53) #[] #[], .func (.func 57) #[] #[], .func (.func 58) #[] #[]] 65)) (.cells #[.int .i64 x0, .int .i64 x1, .slice a n cap] 36)
  replace X0 := X0.below b1
  have B1 := belowThen B0 b1
  have hs : (w.alloc (.cells #[.func (.func 53) #[] #[], .func (.func 57) #[] #[], .func (.func 58) #[] #[]] 65)).heap.size = w.heap.size + 1 := by simp
  rw [hs] at X1
  clear hs B0 b1 ba
  go_enter Tryd.func35, Tryd.ntmps35
  go_upto_region 1 with fail
  generalize (w.alloc (.cells #[.func (.func 53) #[] #[], .func (.func 57) #[] #[], .func (.func 58) #[] #[]] 65)).alloc (.cells #[.int .i64 x0, .int .i64 x1, .slice a n cap] 36) = w1 at *
  have k0 := X0 0 _ rfl
  have k1 := X0 1 _ rfl
  have q0 := X1 0 _ rfl
  have q1 := X1 1 _ rfl
  have q2 := X1 2 _ rfl
  go_wp2_with fail
  refine (dUnhide CR _ B1).mono ?_
  rintro e w2 ⟨hr, b2⟩
  have B2 := belowThen B1 b2
  replace X0 := X0.below b2
  replace X1 := X1.below b2
  have k0 := X0 0 _ rfl
  have k1 := X0 1 _ rfl
  have q0 := X1 0 _ rfl
  have q1 := X1 1 _ rfl
  have q2 := X1 2 _ rfl
  have hsz := B2.size
  clear CR b2 B1 X0 X1
  by_cases hP : P
  · obtain rfl := hr.of_yes hP
    have HM := dHide (dUnhide HY hP)
    have C2 := dHide (dUnhide CW hP _ B2)
    clear hr HY HN CW hP
    go_wp2_with fail
    refine (dUnhide C2).mono ?_
    rintro e w3 ⟨u, rfl, O3, b3⟩
    have F := dHide (And.intro (O3.mono hsz) (belowThen B2 b3))
    clear C2 O3 b3 B2 hsz k0 k1 q0 q1 q2
    have e2 := dUnhide HM
    clear HM
    subst e2
    go_wp2
    go_ret2
    exact ⟨⟨_, rfl, (dUnhide F).1⟩, (dUnhide F).2⟩
  · obtain rfl := hr.of_no hP
    have e2 := dUnhide HN hP
    clear hr HY HN CW hP
    subst e2
    go_wp2
    go_ret2
    exact ⟨⟨_, rfl, OwnX.nil _ _⟩, B2⟩
set_option maxHeartbeats 2000000 in
theorem readerForm_any (w : World) :
    Calls Tryd.prog 34 #[] w fun e w' => e = .returned (.agg readerFormL.toArray) ∧ Below w.heap.size w w' := by
  have Y0 := BxZ.new w [.nilFunc, .nilFunc, .nilFunc] 65 (B := w.heap.size) (Nat.le_refl _)
  have B0 : Below w.heap.size w (w.alloc (.cells #[.nilFunc, .nilFunc, .nilFunc] 65)) := (Below.refl _ _).alloc (Nat.le_refl _) _
  go_enter Tryd.func34, Tryd.ntmps34
  go_wp2_with (refine wp_putW rfl _ _ _ rfl rfl readerFormL rfl rfl Y0 rfl (by kernel_rfl) (by kernel_rfl) ?_; intro w2 Y2 s2 g2 b2)
  refine bodyPost_ret (results_box Tryd.results34 _ _ _ readerFormL _ rfl Y2.bx Tryd.underlying65 rfl (by kernel_rfl)) rfl ⟨rfl, B0.trans b2⟩
set_option maxHeartbeats 4000000 in
theorem implReaderPack_face (m : Rr) (a : Option Addr) (cap : Nat) (w : World)
    (CP : ∀ W, Below w.heap.size w W → Calls Tryd.prog 35 #[.agg readerFormL.toArray, .agg #[.int .i64 m.epoch, .int .i64 m.off, .slice a m.out.length cap]] W fun e w' => (∃ u, e = .returned (.tuple #[u, .bool (rdM m).2]) ∧ OwnX w' W.heap.size u (rdM m).1) ∧ Below W.heap.size W w') :
    Calls Tryd.prog 14 #[.agg #[.int .i64 m.epoch, .int .i64 m.off, .slice a m.out.length cap]] w fun e w' => (∃ u, e = .returned (.tuple #[u, .bool (rdM m).2]) ∧ OwnX w' w.heap.size u (rdM m).1) ∧ Below w.heap.size w w' := by
  have ba : ∀ (w : World) o, Below w.heap.size w (w.alloc o) := fun w o => (Below.refl _ _).alloc (Nat.le_refl _) o
  have CF := dHide fun W => readerForm_any W
  have CP := dHide CP
  generalize rdM m = M at *
  have X0 := Bx.new w [.int .i64 m.epoch, .int .i64 m.off, .slice a m.out.length cap] 36
  have B0 := ba w (.cells #[.int .i64 m.epoch, .int .i64 m.off, .slice a m.out.length cap] 36)
  have KX : Hid (∀ W, Below (w.heap.size + 1) (w.alloc (.cells #[.int .i64 m.epoch, .int .i64 m.off, .slice a m.out.length cap] 36)) W → (W.cell? ⟨w.heap.size, 0, none⟩ = some (.int .i64 m.epoch) ∧ W.cell? ⟨w.heap.size, 1, none⟩ = some (.int .i64 m.off) ∧ W.cell? ⟨w.heap.size, 2, none⟩ = some (.slice a m.out.length cap)) ∧ Below w.heap.size w W) := fun W hb => by
    have hs : (w.alloc (.cells #[.int .i64 m.epoch, .int .i64 m.off, .slice a m.out.length cap] 36)).heap.size = w.heap.size + 1 := by simp
    rw [← hs] at hb
    have X := X0.below hb
    exact ⟨⟨X 0 _ rfl, X 1 _ rfl, X 2 _ rfl⟩, belowThen B0 hb⟩
  have hsz : (w.alloc (.cells #[.int .i64 m.epoch, .int .i64 m.off, .slice a m.out.length cap] 36)).heap.size = w.heap.size + 1 := by simp
  clear X0 B0 ba
  go_enter Tryd.func14, Tryd.ntmps14
  go_upto_region 1 with fail
  generalize w.alloc (.cells #[.int .i64 m.epoch, .int .i64 m.off, .slice a m.out.length cap] 36) = w0 at *
  have hbr : Below (w.heap.size + 1) w0 w0 := Below.refl _ _
  have HS := dHide hsz
  obtain ⟨p0, p1, p2⟩ := (dUnhide KX _ hbr).1
  clear hsz
  go_region_held3 (fun W => W.cell? ⟨w.heap.size, 0, none⟩ = some (.int .i64 m.epoch) ∧ W.cell? ⟨w.heap.size, 1, none⟩ = some (.int .i64 m.off) ∧ W.cell? ⟨w.heap.size, 2, none⟩ = some (.slice a m.out.length cap)) (go_keep)
    (first
      | (go_at_call 34; refine (dUnhide CF _).mono ?_; rintro e w2 ⟨rfl, b2⟩; have B2 : Below (w.heap.size + 1) w0 w2 := hbr.drew.trans (b2.mono (by first | exact hbr.drew.size | (have := dUnhide HS; simp; omega))); obtain ⟨r0, r1, r2⟩ := (dUnhide KX _ B2).1; have R2 := dHide (dUnhide KX _ B2).2; clear b2)
      | (go_at_call 35; refine (dUnhide CP _ (dUnhide R2)).mono ?_; rintro e w3 ⟨⟨u, rfl, O3⟩, b3⟩; have B3 : Below (w.heap.size + 1) w0 w3 := B2.trans (b3.mono (by have := dUnhide HS; have := B2.size; omega)); obtain ⟨t0, t1, t2⟩ := (dUnhide KX _ B3).1; have F := dHide (And.intro (O3.mono (dUnhide R2).size) (belowThen (dUnhide R2) b3)); clear O3 b3)
      | fail)
  all_goals (try go_wp2)
  all_goals (go_ret2; exact ⟨⟨_, rfl, (dUnhide F).1⟩, (dUnhide F).2⟩)
end Go.Proofs.YthndkkjgjhgdnaaDoor
namespace Go.Proofs.YthndkkjgjhgdnaaDoor
open Go.ChangeShapes Go.WideShapes Go.ChangeAt Go.RowKit
set_option linter.unusedVariables false
set_option linter.unusedSimpArgs false
set_option maxRecDepth 100000

set_option maxHeartbeats 2000000 in
theorem hasForm_any (e : Ev) (w : World) :
    Calls Tryd.prog 56 #[e.val] w fun r w' => RetB (evPk e) r ∧ Below w.heap.size w w' := by
  have ba : ∀ (w : World) o, Below w.heap.size w (w.alloc o) := fun w o => (Below.refl _ _).alloc (Nat.le_refl _) o
  have PD : Hid (evPk e ↔ (1 ≤ e.kind ∧ e.kind ≤ 5) ∧ 0 ≤ e.pl ∧ e.data.size ≤ 40) := Iff.rfl
  generalize evPk e = P at *
  obtain ⟨k, p, d⟩ := e
  unfold Ev.val
  simp only at *
  by_cases h1 : 1 ≤ k
  · by_cases h2 : k ≤ 5
    · by_cases h3 : 0 ≤ p
      · by_cases h4 : (d.size : Int) ≤ 40
        · have R : RetB P (.returned (.bool true)) := RetB.yes ((dUnhide PD).2 ⟨⟨h1, h2⟩, h3, by omega⟩)
          clear PD
          go_enter Tryd.func56, Tryd.ntmps56
          go_wp2
          go_ret
          exact ⟨by simpa [h1, h2, h3, h4] using R, ba _ _⟩
        · have R : RetB P (.returned (.bool false)) := RetB.no fun h => by have := ((dUnhide PD).1 h).2.2; omega
          clear PD
          go_enter Tryd.func56, Tryd.ntmps56
          go_wp2
          go_ret
          refine ⟨?_, ba _ _⟩
          first
            | exact R
            | (show RetB P (.returned (.bool (decide ((d.size : Int) ≤ 40)))); rw [decide_eq_false (by omega)]; exact R)
      · have R : RetB P (.returned (.bool false)) := RetB.no fun h => by have := ((dUnhide PD).1 h).2.1; omega
        clear PD
        go_enter Tryd.func56, Tryd.ntmps56
        go_wp2
        go_ret
        exact ⟨by simpa [h1, h2, h3] using R, ba _ _⟩
    · have R : RetB P (.returned (.bool false)) := RetB.no fun h => by have := ((dUnhide PD).1 h).1.2; omega
      clear PD
      go_enter Tryd.func56, Tryd.ntmps56
      go_wp2
      go_ret
      exact ⟨by simpa [h1, h2] using R, ba _ _⟩
  · have R : RetB P (.returned (.bool false)) := RetB.no fun h => by have := ((dUnhide PD).1 h).1.1; omega
    clear PD
    go_enter Tryd.func56, Tryd.ntmps56
    go_wp2
    go_ret
    exact ⟨by simpa [h1] using R, ba _ _⟩
set_option maxHeartbeats 2000000 in
theorem readerForm1_any (m : Rr) (a : Option Addr) (cap : Nat) (w : World) (hv : Rw 3 Ev.cl w (.slice a m.out.length cap) m.out) :
    Calls Tryd.prog 53 #[.agg #[.int .i64 m.epoch, .int .i64 m.off, .slice a m.out.length cap]] w fun r w' => RetB (rdPk m) r ∧ Below w.heap.size w w' := by
  have ba : ∀ (w : World) o, Below w.heap.size w (w.alloc o) := fun w o => (Below.refl _ _).alloc (Nat.le_refl _) o
  have PD : Hid (rdPk m ↔ (∀ e ∈ m.out, evPk e) ∧ rrP m) := Iff.rfl
  have CO := dHide fun W (hb : Below w.heap.size w W) => implReaderOk_any _ m W ⟨_, rfl, hv.below hb⟩
  have CE := dHide fun W (hb : Below w.heap.size w W) => everyEvent_any (.slice a m.out.length cap) m.out 56 #[] evPk W (by intro args w; rfl) (hv.below hb) fun W' hb' x hx => by simpa using hasForm_any x W'
  generalize rdPk m = P at *
  generalize rrP m = P1 at *
  generalize (∀ e ∈ m.out, evPk e) = P2 at *
  have X0 := Bx.new w [.int .i64 m.epoch, .int .i64 m.off, .slice a m.out.length cap] 36
  have B0 := ba w (.cells #[.int .i64 m.epoch, .int .i64 m.off, .slice a m.out.length cap] 36)
  clear hv ba
  go_enter Tryd.func53, Tryd.ntmps53
  go_wp2_with fail
  generalize w.alloc (.cells #[.int .i64 m.epoch, .int .i64 m.off, .slice a m.out.length cap] 36) = w0 at *
  refine (dUnhide CO _ B0).mono ?_
  rintro e w1 ⟨⟨b1, rfl, h1⟩, hb1⟩
  have B1 := belowThen B0 hb1
  have X1 := X0.below hb1
  have k2 := X1 2 _ rfl
  clear CO X0 X1 hb1 B0
  cases b1
  · have R : RetB P (.returned (.bool false)) := RetB.no fun h => by have := h1.2 ((dUnhide PD).1 h).2; cases this
    clear h1 PD CE
    go_wp2
    go_ret
    exact ⟨R, B1⟩
  · have H1 := dHide (h1.1 rfl)
    clear h1
    go_wp2_with fail
    refine (dUnhide CE _ B1).mono ?_
    rintro e w2 ⟨⟨b2, rfl, h2⟩, hb2⟩
    have R : RetB P (.returned (.bool b2)) := ⟨b2, rfl, h2.trans ⟨fun h => (dUnhide PD).2 ⟨h, dUnhide H1⟩, fun h => ((dUnhide PD).1 h).1⟩⟩
    have B2 := belowThen B1 hb2
    clear h2 PD CE H1 hb2 k2
    go_wp2
    go_ret
    exact ⟨R, B2⟩
theorem ev_take_len (es : List Ev) (h : ∀ e ∈ es, evPk e) (hl : es.length ≤ 1048576) (k : Nat) : ((es.take k).flatMap evB).length ≤ 100000000 := by
  have h1 := evsB_len (es.take k) fun e he => h e (List.mem_of_mem_take he)
  have h2 : (es.take k).length ≤ es.length := by rw [List.length_take]; omega
  omega
set_option maxHeartbeats 4000000 in
theorem implReaderPack_any (v : Value) (m : Rr) (w : World) (hv : RdReader v m w) (hfit : ∀ e ∈ m.out, e.pl ≤ 9223372036854775807) (hsz : m.out.length ≤ 1048576) :
    Calls Tryd.prog 14 #[v] w fun e w' => (∃ u, e = .returned (.tuple #[u, .bool (rdM m).2]) ∧ OwnX w' w.heap.size u (rdM m).1) ∧ Below w.heap.size w w' := by
  obtain ⟨sv, rfl, hs⟩ := hv
  obtain ⟨a, cap, rfl, hle⟩ := formEventS hs
  have HV := fun W (hb : Below w.heap.size w W) => RdEventS.below hs hb
  refine implReaderPack_face m a cap w fun W hW => ?_
  refine packReader_any m.epoch m.off a m.out.length cap (rdPk m) (rdM m) (rdB m) rdM_yes rdM_no W (fun W' hb' => readerForm1_any m a cap W' (HV W' (belowThen hW hb'))) fun hP W' hb' => ?_
  obtain ⟨hev, ⟨e0, e1⟩, ⟨f0, f1⟩, -⟩ := hP
  obtain ⟨n0, hn0⟩ := Int.eq_ofNat_of_zero_le (show 0 ≤ m.epoch by omega)
  obtain ⟨n1, hn1⟩ := Int.eq_ofNat_of_zero_le (show 0 ≤ m.off by omega)
  rw [hn0, hn1]
  have C := addReader_x W'.heap.size W' (.slice none 0 0) [] n0 n1 (by omega) (by omega) a cap m.out hsz (ev_take_len m.out hev hsz) (fun W2 hb2 => HV W2 (belowThen (belowThen hW hb') hb2)) (fun k hk u xs W2 hb2 ho hx hB => by
    obtain ⟨⟨⟨g0, g1⟩, g2, g3⟩⟩ := And.intro (hev _ (List.getElem_mem hk)) trivial
    have g4 := hfit _ (List.getElem_mem hk)
    generalize m.out[k] = y at *
    obtain ⟨y0, y1, y2⟩ := y
    simp only at g0 g1 g2 g3 g4 ⊢
    obtain ⟨p0, rfl⟩ := Int.eq_ofNat_of_zero_le (show 0 ≤ y0 by omega)
    obtain ⟨p1, rfl⟩ := Int.eq_ofNat_of_zero_le g2
    simpa [evB] using addEvent_x W'.heap.size W' u xs p0 p1 y2 (by omega) (by omega) (by omega) hx W2 hb2 ho hB) (by simp) W' (Below.refl _ _) (OwnX.nil _ _) (Nat.le_refl _)
  refine C.mono ?_
  rintro e w' ⟨v, rfl, O, T⟩
  refine ⟨v, rfl, ?_, T.below (by intro k hk; cases hk) (Below.refl _ _) (Nat.le_refl _)⟩
  simpa [rdB, hn0, hn1] using O
end Go.Proofs.YthndkkjgjhgdnaaDoor
