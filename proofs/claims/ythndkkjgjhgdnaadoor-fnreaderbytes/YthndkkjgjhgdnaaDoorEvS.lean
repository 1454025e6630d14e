/- Events: their rows, and the laws' helpers on them (printed by tools/mkev.py). -/
import Derived.Test.YthndkkjgjhgdnaaDoorEvP
import Derived.Test.YthndkkjgjhgdnaaDoorGaA
import Derived.Test.YthndkkjgjhgdnaaDoorGaT
import Derived.Test.YthndkkjgjhgdnaaDoorGk11
import Derived.Deep.RegionHeld3
namespace Go.Proofs.YthndkkjgjhgdnaaDoor
open Go.ChangeShapes Go.WideShapes Go.ChangeAt Go.RowKit
set_option linter.unusedVariables false
set_option linter.unusedSimpArgs false
set_option maxRecDepth 100000

/-- One of them. -/
structure Ev where
  kind : Int
  pl : Int
  data : ByteArray
def Ev.cl (e : Ev) : List Value := [.int .i64 e.kind, .int .i64 e.pl, .string e.data]
def Ev.val (e : Ev) : Value := .agg #[.int .i64 e.kind, .int .i64 e.pl, .string e.data]
theorem Ev.cl_len (e : Ev) : e.cl.length = 3 := rfl
def zeroEv : Ev := ⟨0, 0, ⟨#[]⟩⟩
theorem elemEvent : Elem (α := Ev) 68 34 (.agg #[.int .i64 0, .int .i64 0, .string ⟨#[]⟩]) 3 32 Ev.cl where
  under := Tryd.underlying34
  info := by kernel_rfl
  zcells := by kernel_rfl
  pos := by decide
  len := fun _ => rfl
  one := fun a u hu => by
    simp only [Ev.cl, List.mem_cons, List.not_mem_nil, or_false] at hu
    rcases hu with rfl | rfl | rfl <;> rfl
/-- The cells of one of a slice. -/
def EvAt (w : World) (b o : Nat) (e : Ev) : Prop := w.cell? ⟨b, o, none⟩ = some (.int .i64 e.kind) ∧ w.cell? ⟨b, o + 1, none⟩ = some (.int .i64 e.pl) ∧ w.cell? ⟨b, o + 2, none⟩ = some (.string e.data)
theorem EvAt.below {w w' : World} {b o : Nat} {e : Ev} (h : EvAt w b o e) (hb : Below w.heap.size w w') : EvAt w' b o e := by
  obtain ⟨h0, h1, h2⟩ := h
  exact ⟨(hb.cell (p := ⟨b, o, none⟩) (dCell_lt h0)).trans h0, (hb.cell (p := ⟨b, o + 1, none⟩) (dCell_lt h1)).trans h1, (hb.cell (p := ⟨b, o + 2, none⟩) (dCell_lt h2)).trans h2⟩
theorem Rw.atEv {w : World} {a : Option Addr} {n cap : Nat} {es : List Ev} (h : Rw 3 Ev.cl w (.slice a n cap) es) {k : Nat} (hk : k < es.length) : ∃ b off, a = some ⟨b, off, none⟩ ∧ ∀ i (hi : i < es.length), EvAt w b (off + i * 3) es[i] := by
  obtain ⟨b, off, e, hc⟩ := h.elG hk
  exact ⟨b, off, e, fun i hi => ⟨hc i hi 0 _ rfl, hc i hi 1 _ rfl, hc i hi 2 _ rfl⟩⟩
theorem makeEvent (n : Nat) (h : n ≤ 1073741824) (w : World) : (Instr.makeSlice 34 (.int .i64 (n : Int)) (.int .i64 (n : Int))).run Tryd.prog w = .ok (.slice (some ⟨w.heap.size, 0, none⟩) n n) (w.alloc (.cells (madeCells (Value.agg #[.int .i64 0, .int .i64 0, .string ⟨#[]⟩]).cells (n * 3)) 68)) := by
  obtain ⟨i0, hi, hz0, hz1, hz2⟩ := info_parts (elemEvent).info
  have := run_make (P := Tryd.prog) w 34 68 i0 _ Tryd.underlying34 hi hz0 .i64 .i64 (n : Int) (n : Int) (by omega) (by omega) (by rw [hz2]; omega) (by omega)
  rw [hz1] at this
  simpa using this
theorem madeEvent (w : World) (n : Nat) : RwZ 3 Ev.cl (w.alloc (.cells (madeCells (Value.agg #[.int .i64 0, .int .i64 0, .string ⟨#[]⟩]).cells (n * 3)) 68)) w.heap.size 0 n (fun _ => zeroEv) := RwZ.made _ zeroEv rfl Ev.cl_len w n
/-- The bytes of the texts. -/
def sumEv (es : List Ev) : Nat := (es.map fun e => e.data.size).sum
theorem sumEv_take (es : List Ev) (k : Nat) (h : k < es.length) : sumEv (es.take (k + 1)) = sumEv (es.take k) + es[k].data.size := by
  unfold sumEv
  rw [List.take_succ_eq_append_getElem h, List.map_append, List.sum_append, List.map_cons, List.map_nil, List.sum_cons, List.sum_nil, Nat.add_zero]
theorem sumEv_le (es : List Ev) (k : Nat) : sumEv (es.take k) ≤ sumEv es := by
  unfold sumEv
  conv => rhs; rw [← List.take_append_drop k es, List.map_append, List.sum_append]
  exact Nat.le_add_right _ _
/-- Texts that are no longer than an int. -/
def txtEv (es : List Ev) : Prop := ∀ e ∈ es, e.data.size ≤ 9223372036854775807
def RdEventS (v : Value) (m : List Ev) (W : World) : Prop := Rw 3 Ev.cl W v m
def OwEventS (lo hi : Nat) (v : Value) (m : List Ev) (W : World) : Prop := OwG 3 Ev.cl lo hi v m W
def sizEventS (m : List Ev) : Nat := m.length + sumEv m
def cntEventS (m : List Ev) : Nat := 3 * m.length
def mkEv (k : Nat) : Ev := ⟨((k + 0 : Nat) : Int), ((k + 1 : Nat) : Int), markT (k + 2)⟩
def mkEventS (k : Nat) (m : List Ev) : List Ev := (List.range m.length).map fun i => mkEv (k + 3 * i)
theorem mkEventS_len (k : Nat) (m : List Ev) : (mkEventS k m).length = m.length := by simp [mkEventS]
theorem mkEventS_at (k : Nat) (m : List Ev) (i : Nat) (h : i < (mkEventS k m).length) : (mkEventS k m)[i] = mkEv (k + 3 * i) := by simp [mkEventS]
theorem OwEventS.rd {lo hi : Nat} {v : Value} {m : List Ev} {W : World} (h : OwEventS lo hi v m W) : RdEventS v m W := OwnRw.rw h.1
theorem RdEventS.below {v : Value} {m : List Ev} {W W' : World} (h : RdEventS v m W) (b : Below W.heap.size W W') : RdEventS v m W' := Rw.below h b
theorem formEventS {v : Value} {m : List Ev} {W : World} (h : RdEventS v m W) : ∃ a cap, v = .slice a m.length cap ∧ m.length ≤ 9223372036854775807 := by
  obtain ⟨h0, a, cap, rfl, -, -⟩ := h
  exact ⟨a, cap, rfl, h0⟩
theorem sitsEventS {w : World} {base : Nat} {v : Value} {m : List Ev} (h : OwnRw 3 Ev.cl w base v m) : Sits (OwEventS base w.heap.size v m) base w.heap.size w := OwG.sits ⟨h, h.ltZ Ev.cl_len (by decide)⟩ (Nat.le_refl _)
theorem cntEventS_le {m : List Ev} (h : sizEventS m ≤ 1048576) : cntEventS m ≤ 3145728 := by unfold sizEventS at h; unfold cntEventS; omega
theorem zallEv {w : World} {b off n k : Nat} {f : Nat → Ev} (h : RwZ 3 Ev.cl w b off n f) (hk : k < n) (e : Ev) :
    RwZ 3 Ev.cl (((w.setCell ⟨b, off + k * 3, none⟩ (.int .i64 e.kind)).setCell ⟨b, off + k * 3 + 1, none⟩ (.int .i64 e.pl)).setCell ⟨b, off + k * 3 + 2, none⟩ (.string e.data)) b off n (putZ f k e) := by
  have h1 := h.cell Ev.cl_len hk 0 (by decide) (.int .i64 e.kind) ⟨e.kind, (f k).pl, (f k).data⟩ (by rfl)
  have h2 := h1.cell Ev.cl_len hk 1 (by decide) (.int .i64 e.pl) ⟨e.kind, e.pl, (f k).data⟩ (by simp only [putZ_same]; rfl)
  rw [putZ_twice] at h2
  have h3 := h2.cell Ev.cl_len hk 2 (by decide) (.string e.data) ⟨e.kind, e.pl, e.data⟩ (by simp only [putZ_same]; rfl)
  rw [putZ_twice] at h3
  exact h3
theorem Wr.setEv {lo hi b o : Nat} {w wr : World} (h : Wr lo hi w wr) (h1 : lo ≤ b) (h2 : b < hi) (u : Value) : Wr lo hi w (wr.setCell ⟨b, o, none⟩ u) :=
  h.trans ⟨rfl, rfl, rfl, by simp, fun k hk hn => Below.heap_setCell _ _ _ k (fun e => by simp at e; omega)⟩
theorem mkEv_at (K : Nat) : mkEv K = ⟨(K : Int), (K : Int) + 1, markT (K + 2)⟩ := by
  unfold mkEv
  have e0 : ((K + 0 : Nat) : Int) = (K : Int) := by omega
  have e1 : ((K + 1 : Nat) : Int) = (K : Int) + 1 := by omega
  rw [e0, e1]
end Go.Proofs.YthndkkjgjhgdnaaDoor
