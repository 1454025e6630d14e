/- Several texts in one: AddX, AddY, PiA, PiC, PiF, PiI. -/
import Derived.Test.YtioocibgfhgkhaaGreatDoorAppB
import Derived.Test.YtioocibgfhgkhaaGreatDoorGaT
import Derived.Lib.AppendStr
import Derived.Lib.Strings
import Derived.Test.YtioocibgfhgkhaaGreatDoorAddB
import Derived.Test.YtioocibgfhgkhaaGreatDoorHp1
import Derived.Deep.RegionHeld3
import Derived.Deep.DeepCutAuto
import Derived.Test.YtioocibgfhgkhaaGreatDoorPkH
import Derived.Test.YtioocibgfhgkhaaGreatDoorPutW
import Derived.Test.YtioocibgfhgkhaaGreatDoorGaA
import Derived.Test.YtioocibgfhgkhaaGreatDoorHx1
namespace Go.Proofs.YtioocibgfhgkhaaGreatDoor
open Go.ChangeShapes Go.WideShapes Go.ChangeAt Go.RowKit
set_option linter.unusedVariables false

/-- The value is a slice of the bytes bs, of a block from B on that may be written whole. -/
def OwnX (w : World) (B : Nat) (v : Value) (bs : List UInt8) : Prop := ∃ T, w.ownsRow B T 1 v bs.length (bcells bs)
theorem OwnX.of_row {w : World} {B T n : Nat} {v : Value} {bs : List UInt8} (h : w.ownsRow B T 1 v n (bcells bs)) : OwnX w B v bs := by
  have e : bs.length = n := by have := h.1; simpa [bcells] using this
  exact ⟨T, by rw [e]; exact h⟩
theorem OwnX.lt {w : World} {B : Nat} {v : Value} {bs : List UInt8} (h : OwnX w B v bs) : ∀ k, v.ownBlock = some k → B ≤ k ∧ k < w.heap.size := by
  obtain ⟨T, h⟩ := h; exact h.lt
theorem OwnX.alloc {w : World} {B : Nat} {v : Value} {bs : List UInt8} (h : OwnX w B v bs) (o : Obj) : OwnX (w.alloc o) B v bs := by
  obtain ⟨T, h⟩ := h; exact ⟨T, h.alloc o⟩
theorem OwnX.kept {w w' : World} {B : Nat} {v : Value} {bs : List UInt8} (h : OwnX w B v bs) (hb : Below w.heap.size w w') : OwnX w' B v bs := by
  obtain ⟨T, h⟩ := h
  exact ⟨T, h.kept (row := none) ⟨hb.os, hb.tape, hb.output, hb.size, fun k hk _ => hb.block k hk⟩ (by cases v.ownBlock <;> simp)⟩
theorem OwnX.mono {w : World} {B B' : Nat} {v : Value} {bs : List UInt8} (h : OwnX w B v bs) (hB : B' ≤ B) : OwnX w B' v bs := by
  obtain ⟨T, h⟩ := h
  refine ⟨T, h.1, ?_⟩
  rcases h.2 with h0 | ⟨g, cap, cur, h1, h2, h3⟩
  · exact .inl h0
  · exact .inr ⟨g, cap, cur, h1, by omega, h3⟩
theorem OwnX.nil (w : World) (B : Nat) : OwnX w B (.slice none 0 0) [] := ⟨0, World.ownsRow_nil w B 0 1⟩
theorem OwnX.own {w : World} {B : Nat} {v : Value} {bs : List UInt8} (h : OwnX w B v bs) : OwnB w B v bs := by
  obtain ⟨T, h⟩ := h
  rcases h.2 with ⟨rfl, hn⟩ | ⟨g, cap, cur, rfl, hb, hg, hnc, hcm, hsz, ht⟩
  · have : bs = [] := List.length_eq_zero_iff.1 hn
    subst this
    exact ⟨by simp, none, 0, rfl, by simp, .inl rfl⟩
  · have hm : maxLen = 9223372036854775807 := rfl
    refine ⟨by omega, some ⟨g, 0, none⟩, cap, rfl, by omega, .inr ⟨g, 0, rfl, hb, fun i hi => ?_⟩⟩
    have hcur : cur.toList[i]? = some (Value.int .u8 (bs[i].toNat : Int)) := by
      have e : (cur.toList.take (bs.length * 1))[i]? = (bcells bs)[i]? := by rw [ht]
      rw [List.getElem?_take] at e
      rw [if_pos (by omega)] at e
      rw [e]
      simp [bcells, hi]
    refine ⟨?_, ?_⟩
    · simp only [World.cell?, hg]
      simpa using hcur
    · simp [World.frozen?, hg]
/-- The row with room, written on. -/
theorem OwnX.roomed {w : World} {B g cap n T : Nat} {cur : Array Value} {bs cs : List UInt8} (hn : bs.length = n) (hbg : B ≤ g) (hg : w.heap[g]? = some (.cells cur T (0, 0))) (hcm : cap ≤ maxLen) (hcs : cur.size = cap * 1) (ht : cur.toList.take (n * 1) = bcells bs) (hr : n + cs.length ≤ cap) :
    OwnX (w.setRow g (cur.toList.take n ++ bcells cs ++ cur.toList.drop (n + cs.length)).toArray) B (.slice (some ⟨g, 0, none⟩) (n + cs.length) cap) (bs ++ cs) ∧ w.grownBy (w.setRow g (cur.toList.take n ++ bcells cs ++ cur.toList.drop (n + cs.length)).toArray) (some g) := by
  have hl : (bcells cs).length = cs.length := by simp [bcells]
  have hlb : (bcells bs).length = n := by simp [bcells, hn]
  have e : bcells (bs ++ cs) = bcells bs ++ bcells cs := by simp [bcells]
  rw [Nat.mul_one] at ht
  refine ⟨⟨T, by simp [bcells], .inr ⟨g, cap, _, by rw [List.length_append, hn], hbg, setRow_heap w g cur _ T _ hg, by rw [List.length_append, hn]; exact hr, hcm, ?_, ?_⟩⟩, ⟨rfl, rfl, rfl, by simp, fun k _ hk => setRow_other w g k _ (fun e => hk (by rw [e]))⟩⟩
  · simp only [List.size_toArray, List.length_append, List.length_take, List.length_drop, Array.length_toList, hl]
    omega
  · rw [e, ht, List.length_append, hn, Nat.mul_one]
    rw [show n + cs.length = (bcells bs ++ bcells cs).length by simp [hl, hlb]]
    exact List.take_left
/-- The row that was grown. -/
theorem OwnX.grew {w : World} {B old n T : Nat} {bs cs : List UInt8} (hn : bs.length = n) (hm : n + cs.length ≤ maxLen) (hb : B ≤ w.heap.size) (row : Option Nat) :
    OwnX (w.drew.alloc (.cells ((bcells bs).toArray ++ (bcells cs).toArray ++ Builtin.zeroCells (Value.int .u8 0).cells (grownCap w (n + cs.length) old T - (n + cs.length))) T)) B (.slice (some ⟨w.heap.size, 0, none⟩) (n + cs.length) (grownCap w (n + cs.length) old T)) (bs ++ cs) ∧
      w.grownBy (w.drew.alloc (.cells ((bcells bs).toArray ++ (bcells cs).toArray ++ Builtin.zeroCells (Value.int .u8 0).cells (grownCap w (n + cs.length) old T - (n + cs.length))) T)) row := by
  have hge := grownCap_ge w (n + cs.length) old T
  have hle := grownCap_le_maxLen w (n + cs.length) old T hm
  have hl : (bcells cs).length = cs.length := by simp [bcells]
  have hlb : (bcells bs).length = n := by simp [bcells, hn]
  have e : bcells (bs ++ cs) = bcells bs ++ bcells cs := by simp [bcells]
  have z1 : (Value.int IntKind.u8 0).cells.size = 1 := rfl
  refine ⟨⟨T, by simp [bcells], .inr ⟨w.heap.size, _, _, by rw [List.length_append, hn], hb, heap_alloc_new w.drew _, by rw [List.length_append, hn]; exact hge, hle, ?_, ?_⟩⟩, ⟨rfl, rfl, rfl, by simp, fun k hk _ => by first | exact heap_alloc_old w.drew _ k hk | exact heap_alloc_old w.drew _ hk⟩⟩
  · simp only [Array.size_append, List.size_toArray, size_zeroCells, z1, hl, hlb]
    omega
  · rw [e, List.length_append, hn, Nat.mul_one]
    simp only [Array.toList_append]
    rw [show n + cs.length = (bcells bs ++ bcells cs).length by simp [hl, hlb]]
    exact List.take_left
/-- Only the block of b is turned, and v lies in it or in a new one. -/
def Onto (w w' : World) (b v : Value) : Prop := w.grownBy w' b.ownBlock ∧ ∀ k, v.ownBlock = some k → b.ownBlock = some k ∨ w.heap.size ≤ k
theorem Onto.refl (w : World) (b : Value) : Onto w w b b := ⟨⟨rfl, rfl, rfl, Nat.le_refl _, fun _ _ _ => rfl⟩, fun k h => .inl h⟩
theorem Onto.trans {w w1 w2 : World} {b v u : Value} (h : Onto w w1 b v) (k : Onto w1 w2 v u) : Onto w w2 b u := by
  refine ⟨⟨k.1.os.trans h.1.os, k.1.tape.trans h.1.tape, k.1.output.trans h.1.output, Nat.le_trans h.1.size k.1.size, fun j hj hn => ?_⟩, fun j hj => ?_⟩
  · refine (k.1.block j (Nat.lt_of_lt_of_le hj h.1.size) fun he => ?_).trans (h.1.block j hj hn)
    rcases h.2 j he.symm with h1 | h1
    · exact hn h1.symm
    · omega
  · rcases k.2 j hj with h1 | h1
    · exact h.2 j h1
    · exact .inr (Nat.le_trans h.1.size h1)
theorem Onto.alloc {w w1 : World} {b v : Value} (h : Onto w w1 b v) (o : Obj) : Onto w (w1.alloc o) b v := h.trans ⟨World.grownBy_alloc w1 o _, fun _ h => .inl h⟩
theorem Onto.then_below {w w1 w2 : World} {b v : Value} (h : Onto w w1 b v) (k : Below w1.heap.size w1 w2) : Onto w w2 b v :=
  h.trans ⟨⟨k.os, k.tape, k.output, k.size, fun j hj _ => k.block j hj⟩, fun _ h => .inl h⟩
theorem Onto.below {w0 w w' : World} {b v : Value} {B : Nat} (h : Onto w w' b v) (hb : ∀ k, b.ownBlock = some k → B ≤ k) (h0 : Below B w0 w) (hB : B ≤ w.heap.size) : Below B w0 w' := h0.grown h.1 hB hb
/-- append of bytes. -/
theorem run_appX (w : World) (B : Nat) (ty : TypeId) (v : Value) (bs : List UInt8) (hown : OwnX w B v bs) (a : Addr) (c : Nat) (cs : List UInt8) (hnews : ∀ j u, (bcells cs)[j]? = some u → w.cell? (a.add j) = some u)
    (hb : bs.length + cs.length ≤ 4398046511104) (hbase : B ≤ w.heap.size) :
    ∃ v' w', (Builtin.append_ #[25, 25] ty #[v, .slice (some a) cs.length c]).run Tryz.prog w = .ok v' w' ∧ OwnX w' B v' (bs ++ cs) ∧ Onto w w' v v' := by
  obtain ⟨i0, hi, hz0, hz1, hz2⟩ := info_parts info8a
  have hm : maxLen = 9223372036854775807 := rfl
  have hl : (bcells cs).length = cs.length := by simp [bcells]
  have e : bcells (bs ++ cs) = bcells bs ++ bcells cs := by simp [bcells]
  obtain ⟨T, h⟩ := hown
  rcases h.2 with ⟨rfl, hn⟩ | ⟨g, cap, cur, rfl, hbg, hg, hnc, hcm, hcs, ht⟩
  · obtain rfl : bs = [] := List.length_eq_zero_iff.1 hn
    obtain ⟨v', w', h1, h2, h3, _⟩ := run_append_own (P := Tryz.prog) w w.heap.size 25 ty 5 i0 (.int .u8 0) 1 1 Tryz.underlying25 hi hz0 hz1 hz2 rfl (by decide) (.slice none 0 0) 0 [] (World.ownsRow_nil _ _ _ _) a cs.length c (bcells cs) (by simp [hl]) hnews (cells_one _) (by omega) (by simp only [List.length_nil] at hb; omega) (Nat.le_refl _)
    exact ⟨v', w', h1, (OwnX.of_row (B := w.heap.size) (by simpa using h2)).mono hbase, h3, fun k hk => .inr (h2.lt k hk).1⟩
  · by_cases hroom : bs.length + cs.length ≤ cap
    · have hf := run_firstCells_some (P := Tryz.prog) w i0.size cs.length a cs.length c (bcells cs) (by rw [hl, hz1]; omega) hnews
      have hst := run_storeCells_at Tryz.prog g bs.length T (bcells cs) 0 cur w hg (by rw [hl]; omega) (cells_one _)
      simp only [Nat.add_zero, hl] at hst
      rw [hz1] at hf
      obtain ⟨k1, k2⟩ := OwnX.roomed (cs := cs) rfl hbg hg hcm hcs ht hroom
      refine ⟨_, _, ?_, k1, k2, fun k hk => .inl hk⟩
      simp [Builtin.append_, run_underlying Tryz.underlying25, sizeOf, typeInfo, hi, hz1, Builtin.lenOf, hroom, hf, Addr.add_lit, hst]
    · have hr := run_append_grow (P := Tryz.prog) w 25 ty 5 i0 (.int .u8 0) Tryz.underlying25 hi hz0 ⟨g, 0, none⟩ bs.length cap (bcells bs) (by simp [bcells, hz1]) (h.cells rfl) a cs.length c (bcells cs) (by rw [hl, hz1]; omega) hnews (by omega) (by omega) (by rw [hz2]; exact growslice_fits (by omega) (by omega))
      obtain ⟨k1, k2⟩ := OwnX.grew (w := w) (B := B) (old := cap) (T := 5) (bs := bs) (cs := cs) rfl (by omega) hbase (Value.ownBlock (.slice (some ⟨g, 0, none⟩) bs.length cap))
      exact ⟨_, _, hr, k1, k2, fun k hk => .inr (by simp only [Value.ownBlock, Option.some.injEq] at hk; omega)⟩
/-- append of a text. -/
theorem run_appXs (w : World) (B : Nat) (ty : TypeId) (v : Value) (bs : List UInt8) (hown : OwnX w B v bs) (s : ByteArray) (hb : bs.length + s.size ≤ 4398046511104) (hbase : B ≤ w.heap.size) :
    ∃ v' w', (Builtin.append_ #[25, 9] ty #[v, .string s]).run Tryz.prog w = .ok v' w' ∧ OwnX w' B v' (bs ++ s.data.toList) ∧ Onto w w' v v' := by
  obtain ⟨i0, hi, hz0, hz1, hz2⟩ := info_parts info8a
  have hm : maxLen = 9223372036854775807 := rfl
  have hsl : s.data.toList.length = s.size := by rw [← Lib.size_eq]
  have hsc : Lib.strCells s = bcells s.data.toList := rfl
  have e : bcells (bs ++ s.data.toList) = bcells bs ++ bcells s.data.toList := by simp [bcells]
  obtain ⟨T, h⟩ := hown
  rcases h.2 with ⟨rfl, hn⟩ | ⟨g, cap, cur, rfl, hbg, hg, hnc, hcm, hcs, ht⟩
  · obtain rfl : bs = [] := List.length_eq_zero_iff.1 hn
    obtain ⟨v', w', h1, h2, h3, _⟩ := Lib.run_append_own_string (P := Tryz.prog) w w.heap.size 25 9 ty 5 i0 Tryz.underlying25 Tryz.underlying9 hi hz0 hz1 hz2 (.slice none 0 0) 0 [] (World.ownsRow_nil _ _ _ _) s (by simp only [List.length_nil] at hb; omega) (by simp only [List.length_nil] at hb; omega) (Nat.le_refl _)
    exact ⟨v', w', h1, (OwnX.of_row (B := w.heap.size) (T := 5) (n := 0 + s.size) (by simpa [hsc] using h2)).mono hbase, h3, fun k hk => .inr (h2.lt k hk).1⟩
  · by_cases hroom : bs.length + s.size ≤ cap
    · have hf := Lib.run_firstCells_string (P := Tryz.prog) w 1 s
      have hst := run_storeCells_at Tryz.prog g bs.length T (Lib.strCells s) 0 cur w hg (by rw [Lib.strCells_length]; omega) (Lib.strCells_oneCell s)
      simp only [Nat.add_zero, Lib.strCells_length] at hst
      rw [← hsl] at hroom
      obtain ⟨k1, k2⟩ := OwnX.roomed (cs := s.data.toList) rfl hbg hg hcm hcs ht hroom
      rw [hsl] at hroom k1 k2
      refine ⟨_, _, ?_, k1, k2, fun k hk => .inl hk⟩
      rw [← hsc]
      simp [Builtin.append_, run_underlying Tryz.underlying25, run_underlying Tryz.underlying9, sizeOf, typeInfo, hi, hz1, Builtin.lenOf, hroom, hf, Addr.add_lit, hst]
    · have hr := Lib.run_append_grow_string (P := Tryz.prog) w 25 9 ty 5 i0 (.int .u8 0) Tryz.underlying25 Tryz.underlying9 hi hz0 ⟨g, 0, none⟩ bs.length cap (bcells bs) (by simp [bcells, hz1]) (h.cells rfl) s (by omega) (by omega) (by rw [hz2]; exact growslice_fits (by omega) (by omega))
      obtain ⟨k1, k2⟩ := OwnX.grew (w := w) (B := B) (old := cap) (T := 5) (bs := bs) (cs := s.data.toList) rfl (by omega) hbase (Value.ownBlock (.slice (some ⟨g, 0, none⟩) bs.length cap))
      rw [hsl] at k1 k2
      rw [hsc] at hr
      exact ⟨_, _, hr, k1, k2, fun k hk => .inr (by simp only [Value.ownBlock, Option.some.injEq] at hk; omega)⟩
/-- append of bytes, as the walk meets it. -/
theorem appX {ops : Array Oper} {rest : List Oper} {o : Oper} {a : Act} {Q : Exit → Act → World → Prop} (w : World) (hgd : o.guard = none) (s x : Operand)
    (ho : o.op = .call { callee := .builtin .append, args := #[s, x], argTypes := #[25, 25] })
    (B : Nat) (v : Value) (bs : List UInt8) (hs : a.eval s = v) (hown : OwnX w B v bs)
    (ad : Addr) (c : Nat) (cs : List UInt8) (hx : a.eval x = .slice (some ad) cs.length c) (hnews : ∀ j u, (bcells cs)[j]? = some u → w.cell? (ad.add j) = some u)
    (rs : List UInt8) (he : bs ++ cs = rs)
    (hb : bs.length + cs.length ≤ 4398046511104) (hbase : B ≤ w.heap.size)
    (h : ∀ v' w', OwnX w' B v' rs → Onto w w' v v' → wpList Tryz.prog ops Q rest (a.put o.dst v') w') : wpList Tryz.prog ops Q (o :: rest) a w := by
  subst he
  refine wpList_plain hgd fun K hK => ?_
  obtain ⟨v', w', hr, h2, h3⟩ := run_appX w B o.type v bs hown ad c cs hnews hb hbase
  unfold Oper.wp execOp
  simp only [ho, resolve, invoke, builtin, Sem.run_bind, Sem.run_pure, Result.andThen_ok, List.map_toArray, List.map_cons, List.map_nil, hs, hx, hr]
  exact hK _ _ (h v' w' h2 h3)
/-- append of a text, as the walk meets it. -/
theorem appXs {ops : Array Oper} {rest : List Oper} {o : Oper} {a : Act} {Q : Exit → Act → World → Prop} (w : World) (hgd : o.guard = none) (sl x : Operand)
    (ho : o.op = .call { callee := .builtin .append, args := #[sl, x], argTypes := #[25, 9] })
    (B : Nat) (v : Value) (bs : List UInt8) (hs : a.eval sl = v) (hown : OwnX w B v bs) (s : ByteArray) (hx : a.eval x = .string s) (rs : List UInt8) (he : bs ++ s.data.toList = rs)
    (hb : bs.length + s.size ≤ 4398046511104) (hbase : B ≤ w.heap.size)
    (h : ∀ v' w', OwnX w' B v' rs → Onto w w' v v' → wpList Tryz.prog ops Q rest (a.put o.dst v') w') : wpList Tryz.prog ops Q (o :: rest) a w := by
  subst he
  refine wpList_plain hgd fun K hK => ?_
  obtain ⟨v', w', hr, h2, h3⟩ := run_appXs w B o.type v bs hown s hb hbase
  unfold Oper.wp execOp
  simp only [ho, resolve, invoke, builtin, Sem.run_bind, Sem.run_pure, Result.andThen_ok, List.map_toArray, List.map_cons, List.map_nil, hs, hx, hr]
  exact hK _ _ (h v' w' h2 h3)
end Go.Proofs.YtioocibgfhgkhaaGreatDoor
namespace Go.Proofs.YtioocibgfhgkhaaGreatDoor
open Go.ChangeShapes Go.WideShapes Go.ChangeAt Go.RowKit
set_option linter.unusedVariables false

set_option maxHeartbeats 1000000 in
theorem addNum_x (B : Nat) (b : Value) (bs : List UInt8) (x : Nat) (h : x ≤ 9223372036854775807) (w : World) (hown0 : OwnX w B b bs) (hl0 : bs.length ≤ 2199023255552) (hB : B ≤ w.heap.size) :
    Calls Tryz.prog 73 #[b, .int .i64 (x : Int)] w fun e w' => ∃ v, e = .returned v ∧ OwnX w' B v (bs ++ numB x) ∧ Onto w w' b v := by
  have hx : ¬ ((x : Int) < 0) := by omega
  go_enter Tryz.func73, Tryz.ntmps73
  go_wp2
  go_loopw [0, 1] (fun o xv wr => ∃ (m : Nat) (l : List UInt8), xv = .int .i64 (m : Int) ∧ OwnX wr B o (bs ++ l) ∧ m ≤ x ∧ Hid (NumInv x m l) ∧ Onto w wr b o) (fun _ xv _ => (intOf xv).toNat)
  case atStart => exact ⟨x, [], rfl, by simpa using hown0, Nat.le_refl _, NumInv.start h, Onto.refl _ _⟩
  case round =>
    obtain ⟨m, l, rfl, hown, hmx, hinv, hb⟩ := hrel
    have hl8 := (dUnhide hinv).2.1
    have hla : (bs ++ l).length ≤ 2199023255552 + 8 := by simp; omega
    by_cases hm : (m : Int) < 128
    · have hfin := NumInv.done hinv (by omega)
      have hmod : ((UInt8.ofNat m).toNat : Int) = (m : Int) := by simp; omega
      have HE : Hid ((bs ++ l) ++ [UInt8.ofNat m] = bs ++ numB x) := by rw [Hid, List.append_assoc, hfin]
      have hm' : ¬ ((128 : Int) ≤ (m : Int)) := by omega
      clear hfin
      go_wp2_with (at_builtin; refine appX _ rfl _ _ rfl B _ (bs ++ l) rfl (hown.alloc _) ⟨wr.heap.size, 0, none⟩ 1 [UInt8.ofNat m] rfl (one_byte _ _ _ _ hmod) _ (dUnhide HE) ?c3 ?c5 ?_)
      case c3 => omega
      case c5 => have := hb.1.size; simp; omega
      intro v' w1 hown' hgrow
      have hb1 := (hb.alloc _).trans hgrow
      have hown2 := hown'
      clear hown hown' hgrow hb hmod hinv HE
      go_wp2
      go_ret
      exact ⟨_, rfl, hown2, hb1⟩
    · have hmod : ((UInt8.ofNat (m % 128 + 128)).toNat : Int) = (m : Int) % 128 + 128 := by simp; omega
      have hm' : (128 : Int) ≤ (m : Int) := by omega
      obtain ⟨l', HL'⟩ : ∃ l', l ++ [UInt8.ofNat (m % 128 + 128)] = l' := ⟨_, rfl⟩
      have HE : Hid ((bs ++ l) ++ [UInt8.ofNat (m % 128 + 128)] = bs ++ l') := by rw [Hid, List.append_assoc, HL']
      have hst : Hid (NumInv x (m / 128) l') := by rw [← HL']; exact NumInv.step hinv (by omega)
      clear HL'
      go_wp2_with (at_builtin; refine appX _ rfl _ _ rfl B _ (bs ++ l) rfl (hown.alloc _) ⟨wr.heap.size, 0, none⟩ 1 [UInt8.ofNat (m % 128 + 128)] rfl (one_byte _ _ _ _ hmod) _ (dUnhide HE) ?c3 ?c5 ?_)
      case c3 => omega
      case c5 => have := hb.1.size; simp; omega
      intro v' w1 hown' hgrow
      have hb1 := (hb.alloc _).trans hgrow
      have hown2 := hown'
      clear hown hown' hgrow hb hmod hinv hla hl8
      go_wp2
      go_roundw
      case rel => exact ⟨m / 128, l', by go_num, hown2, by omega, hst, hb1⟩
      case measure => simp [intOf]; omega
theorem Onto.it {w wr : World} {b v : Value} (h : Onto w wr b v) {k : Nat} (hk : w.heap.size ≤ k) (s : ByteArray) (p : Nat) : Onto w (wr.iterAt k s p) b v :=
  ⟨⟨h.1.os, h.1.tape, h.1.output, by rw [Lib.iterAt_size]; exact h.1.size, fun j hj hn => (Lib.iterAt_other _ _ _ _ _ (by omega)).trans (h.1.block j hj hn)⟩, h.2⟩
theorem OwnX.it {w : World} {B : Nat} {v : Value} {bs : List UInt8} {k : Nat} {s : ByteArray} {pos : Nat} (h : OwnX w B v bs) (hk : w.heap[k]? = some (.stringIter s pos)) (pos' : Nat) : OwnX (w.iterAt k s pos') B v bs := by
  obtain ⟨T, h⟩ := h
  exact ⟨T, own_it h hk pos'⟩
theorem OwnX.it_ne {w : World} {B : Nat} {v : Value} {bs : List UInt8} {k : Nat} {s : ByteArray} {pos : Nat} (h : OwnX w B v bs) (hk : w.heap[k]? = some (.stringIter s pos)) : some k ≠ v.ownBlock := by
  obtain ⟨T, h⟩ := h
  exact own_it_ne h hk
theorem cut_bytes (hd : List UInt8) (s : ByteArray) (f p : Nat) (h : f ≤ p) : (hd ++ s.data.toList.take f) ++ (s.extract f p).data.toList = hd ++ s.data.toList.take p := by
  have e : (s.extract f p).data.toList = (s.data.toList.drop f).take (p - f) := by
    rw [ByteArray.data_extract, Array.toList_extract]
  rw [e, List.append_assoc, ← List.take_add, show f + (p - f) = p by omega]
set_option maxHeartbeats 1000000 in
theorem addText_x (B : Nat) (b : Value) (bs : List UInt8) (s : ByteArray) (h : s.size ≤ 1099511627776) (hl0 : bs.length ≤ 1099511627776) (w : World) (hown0 : OwnX w B b bs) (hB : B ≤ w.heap.size) :
    Calls Tryz.prog 109 #[b, .string s] w fun e w' => ∃ v, e = .returned v ∧ OwnX w' B v (bs ++ textB s.data.toList) ∧ Onto w w' b v := by
  have hsz : s.data.toList.length = s.size := by rw [← Lib.size_eq]
  have C := dHide (addNum_x B b bs s.size (by omega) w hown0 (by omega) hB)
  have htb : bs ++ textB s.data.toList = (bs ++ numB s.size) ++ s.data.toList.take s.size := by rw [textB, hsz, List.take_of_length_le (by omega), List.append_assoc]
  have hn9 := numB_len s.size
  rw [htb]
  have hhd : (bs ++ numB s.size).length ≤ 1099511627776 + 9 := by rw [List.length_append]; omega
  generalize bs ++ numB s.size = hd at *
  have hcl := dHide (cut_len hd s)
  have hcc := dHide (cut_bytes hd s)
  have hlen : ∀ f, (hd ++ s.data.toList.take f).length ≤ 1099511627776 + 9 + s.size := fun f => by simp only [List.length_append, List.length_take, hsz]; omega
  have HL := dHide hlen
  clear htb hsz hlen hn9 hhd
  go_enter Tryz.func109, Tryz.ntmps109
  go_wp2_with fail
  refine (dUnhide C).mono ?_
  rintro e w1 ⟨v, rfl, hown1, hb1⟩
  clear C hown0
  go_wp2
  go_loopw [0, 5] (fun o fv wr => ∃ (f p : Nat), fv = .int .i64 (f : Int) ∧ OwnX wr B o (hd ++ s.data.toList.take f) ∧ wr.heap[w1.heap.size]? = some (.stringIter s p) ∧ f ≤ p ∧ f ≤ s.size ∧ Onto w wr b o) (fun _ _ wr => s.size - wr.iterPos w1.heap.size)
  case atStart => exact ⟨0, 0, rfl, by rw [World.iter]; simpa using hown1.alloc _, World.iter_heap w1 s 0, Nat.le_refl _, Nat.zero_le _, by rw [World.iter]; exact hb1.alloc _⟩
  case round =>
    obtain ⟨f, p, rfl, hown, hit, hfp, hfs, hb⟩ := hrel
    have hB1 := hb1.1.size
    by_cases hlt : p < s.size
    · have hnx : ∀ ty, (Instr.next (.pointer (some ⟨w1.heap.size, 0, none⟩)) true ty).run Tryz.prog wr = _ := fun ty => Lib.run_next_any_at wr w1.heap.size s p ty hit hlt
      have hwd := wide_pos s p hlt
      obtain ⟨R, hR⟩ : ∃ R, (Utf8.decode s p).1 = R := ⟨_, rfl⟩
      obtain ⟨K, hK⟩ : ∃ K, (Utf8.decode s p).2 = K := ⟨_, rfl⟩
      rw [hR, hK] at hnx
      rw [hK] at hwd
      have hit2 := Lib.iterAt_heap wr w1.heap.size s p (p + K) hit
      have hb2 := hb.it (k := w1.heap.size) (by omega) s (p + K)
      have hown2 := hown.it hit (p + K)
      have hsz2 := Lib.iterAt_size wr w1.heap.size s (p + K)
      have hmea : wr.iterPos w1.heap.size = p := by simp [World.iterPos, hit]
      obtain ⟨W, hWd⟩ : ∃ W, wr.iterAt w1.heap.size s (p + K) = W := ⟨_, rfl⟩
      rw [hWd] at hnx hit2 hb2 hown2 hsz2
      clear hown hit hb hWd
      have hsl : (Instr.slice 9 (.string s) (some (.int .i64 (f : Int))) (some (.int .i64 (p : Int))) none).run Tryz.prog W = .ok (.string (s.extract f p)) W := by
        have := run_slice_string_if (P := Tryz.prog) W 9 s .i64 .i64 f p Tryz.underlying9
        rw [if_pos (by omega), if_pos (by omega)] at this
        simpa using this
      have hcl' := dUnhide hcl f p hfp (by omega)
      have hcc' := dHide (dUnhide hcc f p hfp)
      have hlp := dUnhide HL p
      go_wp2_with (at_builtin; refine appXs _ rfl _ _ rfl B _ (hd ++ s.data.toList.take f) rfl hown2 (s.extract f p) rfl (hd ++ s.data.toList.take p) (dUnhide hcc') ?c4 ?c5 ?_)
      case c4 => rw [hcl']; omega
      case c5 => have := hb2.1.size; omega
      intro v' w3 hown3 hgrow
      have hb3 := hb2.trans hgrow
      have hit3 : w3.heap[w1.heap.size]? = some (.stringIter s (p + K)) := (hgrow.1.block w1.heap.size (Array.getElem?_eq_some_iff.1 hit2).1 (hown2.it_ne hit2)).trans hit2
      clear hcl' hcc' hgrow hown2 hit2 hb2 hnx hsl
      go_wp2
      go_roundw
      case rel => exact ⟨p, p + K, rfl, hown3, hit3, by omega, by omega, hb3⟩
      case measure => rw [hmea]; simp [World.iterPos, hit3]; omega
    · have hnx : ∀ ty, (Instr.next (.pointer (some ⟨w1.heap.size, 0, none⟩)) true ty).run Tryz.prog wr = _ := fun ty => Lib.run_next_end_at wr w1.heap.size s p ty hit hlt
      have hsl : (Instr.slice 9 (.string s) (some (.int .i64 (f : Int))) none none).run Tryz.prog wr = .ok (.string (s.extract f s.size)) wr := by
        have := run_slice_string_from_if (P := Tryz.prog) wr 9 s .i64 f Tryz.underlying9
        rw [if_pos (by omega)] at this
        simpa using this
      have hcl' := dUnhide hcl f s.size hfs (Nat.le_refl _)
      have hcc' := dHide (dUnhide hcc f s.size hfs)
      have hlp := dUnhide HL s.size
      go_wp2_with (at_builtin; refine appXs _ rfl _ _ rfl B _ (hd ++ s.data.toList.take f) rfl hown (s.extract f s.size) rfl (hd ++ s.data.toList.take s.size) (dUnhide hcc') ?c4 ?c5 ?_)
      case c4 => rw [hcl']; omega
      case c5 => have := hb.1.size; omega
      intro v' w3 hown3 hgrow
      have hb3 := hb.trans hgrow
      clear hcl' hcc' hgrow hown hit hb hnx hsl
      go_wp2
      go_ret
      exact ⟨_, rfl, hown3, hb3⟩
end Go.Proofs.YtioocibgfhgkhaaGreatDoor
namespace Go.Proofs.YtioocibgfhgkhaaGreatDoor
open Go.ChangeShapes Go.WideShapes Go.ChangeAt Go.RowKit
set_option linter.unusedVariables false
set_option linter.unusedSimpArgs false
set_option maxRecDepth 100000

/-- What an adder leaves, seen from a world w0 below whose B nothing turns. -/
theorem Onto.at {w0 w w' : World} {B : Nat} {b v : Value} {bs : List UInt8} (h : Onto w w' b v) (hO : OwnX w B b bs) (h0 : Below B w0 w) (hB : B ≤ w.heap.size) : Below B w0 w' ∧ B ≤ w'.heap.size :=
  ⟨h.below (fun k hk => (hO.lt k hk).1) h0 hB, Nat.le_trans hB h.1.size⟩
set_option maxHeartbeats 2000000 in
theorem addListI_x (B : Nat) (w0 : World) (b : Value) (bs : List UInt8) (lv : Value) (xs : List Int) (h0 : natI xs) (hl : xs.length ≤ 1048576) (hbs : bs.length ≤ 1099511627776) (HV : ∀ W, Below B w0 W → Ns W lv xs) (w : World) (hb0 : Below B w0 w) (hown0 : OwnX w B b bs) (hB : B ≤ w.heap.size) :
    Calls Tryz.prog 100 #[b, lv, .func (.func 73) #[] #[]] w fun e w' => ∃ v, e = .returned v ∧ OwnX w' B v (bs ++ lstB xs) ∧ Onto w w' b v := by
  have HV := dHide HV
  obtain ⟨-, a, cap, rfl, -, -⟩ := dUnhide HV w hb0
  have C := dHide (addNum_x B b bs xs.length (by omega) w hown0 (by omega) hB)
  have n9 := numB_len xs.length
  have ES : Hid (bs ++ lstB xs = (bs ++ numB xs.length) ++ numsB xs) := by rw [Hid, lstB, List.append_assoc]
  have hhd : (bs ++ numB xs.length).length ≤ 1099511627776 + 9 := by rw [List.length_append]; omega
  generalize bs ++ numB xs.length = hd at *
  go_enter Tryz.func100, Tryz.ntmps100
  go_wp2_with fail
  refine (dUnhide C).mono ?_
  rintro e w1 ⟨v1, rfl, O1, T1⟩
  have B1 := T1.at hown0 hb0 hB
  clear C n9 hown0 hb0
  go_wp2
  go_loopw [0, 15] (fun o xv wr => ∃ k : Nat, xv = .int .i64 (k : Int) ∧ k ≤ xs.length ∧ OwnX wr B o (hd ++ numsB (xs.take k)) ∧ Onto w wr b o ∧ Below B w0 wr ∧ B ≤ wr.heap.size) (fun _ xv _ => xs.length - (intOf xv).toNat)
  case atStart => exact ⟨0, rfl, Nat.zero_le _, by simpa [numsB] using O1, T1, B1.1, B1.2⟩
  case round =>
    clear O1 T1 B1
    obtain ⟨k, rfl, hk, ho, ht, hb, hbz⟩ := hrel
    by_cases hlt : (k : Int) < (xs.length : Int)
    · have hkl : k < xs.length := by omega
      obtain ⟨bk, off, rfl, hc⟩ := (dUnhide HV wr hb).at17 hkl
      have c0 := hc k hkl
      have hS := dHide (numsB_take xs k hkl)
      have hx0 := h0 _ (List.getElem_mem hkl)
      have hfl := numsB_len (xs.take k)
      rw [List.length_take] at hfl
      generalize xs[k] = y at *
      generalize numsB (xs.take k) = FK at *
      obtain ⟨n, rfl⟩ := Int.eq_ofNat_of_zero_le hx0.1
      rw [Int.toNat_natCast] at hS
      have CP := dHide (addNum_x B u0 (hd ++ FK) n (by omega) wr ho (by rw [List.length_append]; omega) hbz)
      have FIN : Hid (∀ v5 w5, OwnX w5 B v5 ((hd ++ FK) ++ numB n) → Onto wr w5 u0 v5 → OwnX w5 B v5 (hd ++ numsB (xs.take (k + 1))) ∧ Onto w w5 b v5 ∧ Below B w0 w5 ∧ B ≤ w5.heap.size) := fun v5 w5 h1 h2 =>
        ⟨by rw [dUnhide hS, ← List.append_assoc]; exact h1, ht.trans h2, h2.at ho hb hbz⟩
      clear hc ho ht hS hb
      go_wp2_with fail
      refine (dUnhide CP).mono ?_
      rintro e w5 ⟨v5, rfl, O5, T5⟩
      have F := dHide (dUnhide FIN v5 w5 O5 T5)
      clear O5 T5 FIN CP c0
      go_wp2
      go_roundw
      case rel => exact ⟨k + 1, by go_num, by omega, (dUnhide F).1, (dUnhide F).2.1, (dUnhide F).2.2.1, (dUnhide F).2.2.2⟩
      case measure => simp [intOf]; omega
    · have e1 : xs.take k = xs := List.take_of_length_le (by omega)
      rw [e1] at ho
      have Q := dHide (And.intro ho ht)
      clear e1 ho ht hb
      go_wp2
      go_ret
      refine ⟨_, rfl, ?_⟩
      rw [dUnhide ES]
      exact dUnhide Q
theorem textB_len (d : ByteArray) : (textB d.data.toList).length ≤ 9 + d.size := by
  have h3 := numB_len d.data.toList.length
  have h4 : d.data.toList.length = d.size := by rw [← Lib.size_eq]
  unfold textB
  rw [List.length_append]
  omega
/-- A flag's byte. -/
def flgB (f : Bool) : List UInt8 := numB (if f then 1 else 0)
theorem flgB_len (f : Bool) : (flgB f).length ≤ 9 := numB_len _
set_option maxHeartbeats 1000000 in
theorem addFlag_x (B : Nat) (b : Value) (bs : List UInt8) (f : Bool) (w : World) (hown0 : OwnX w B b bs) (hl0 : bs.length ≤ 2199023255552) (hB : B ≤ w.heap.size) :
    Calls Tryz.prog 101 #[b, .bool f] w fun e w' => ∃ v, e = .returned v ∧ OwnX w' B v (bs ++ flgB f) ∧ Onto w w' b v := by
  have C := dHide fun n : Nat => fun (h : n ≤ 1) => addNum_x B b bs n (by omega) w hown0 hl0 hB
  cases f
  · go_enter Tryz.func101, Tryz.ntmps101
    go_wp2_with fail
    refine (dUnhide C 0 (by omega)).mono ?_
    rintro e w1 ⟨v, rfl, F1, F2⟩
    have F := dHide (And.intro F1 F2)
    clear C F1 F2 hown0
    go_wp2
    go_ret
    exact ⟨_, rfl, dUnhide F⟩
  · go_enter Tryz.func101, Tryz.ntmps101
    go_wp2_with fail
    refine (dUnhide C 1 (by omega)).mono ?_
    rintro e w1 ⟨v, rfl, F1, F2⟩
    have F := dHide (And.intro F1 F2)
    clear C F1 F2 hown0
    go_wp2
    go_ret
    exact ⟨_, rfl, dUnhide F⟩
end Go.Proofs.YtioocibgfhgkhaaGreatDoor
namespace Go.Proofs.YtioocibgfhgkhaaGreatDoor
open Go.ChangeShapes Go.WideShapes Go.ChangeAt Go.RowKit
set_option linter.unusedVariables false
set_option linter.unusedSimpArgs false
set_option maxRecDepth 100000

end Go.Proofs.YtioocibgfhgkhaaGreatDoor
namespace Go.Proofs.YtioocibgfhgkhaaGreatDoor
open Go.ChangeShapes Go.WideShapes Go.ChangeAt Go.RowKit
set_option linter.unusedVariables false
set_option linter.unusedSimpArgs false
set_option maxRecDepth 100000

end Go.Proofs.YtioocibgfhgkhaaGreatDoor
namespace Go.Proofs.YtioocibgfhgkhaaGreatDoor
open Go.ChangeShapes Go.WideShapes Go.ChangeAt Go.RowKit
set_option linter.unusedVariables false
set_option linter.unusedSimpArgs false
set_option maxRecDepth 100000

theorem ev_take_len (es : List Ev) (h : ∀ e ∈ es, evPk e) (hl : es.length ≤ 1048576) (k : Nat) : ((es.take k).flatMap evB).length ≤ 100000000 := by
  have h1 := evsB_len (es.take k) fun e he => h e (List.mem_of_mem_take he)
  have h2 : (es.take k).length ≤ es.length := by rw [List.length_take]; omega
  omega
end Go.Proofs.YtioocibgfhgkhaaGreatDoor
