/- Several texts in one: WrA, WrSa, CpN. -/
import Derived.Test.YthndkkjgjhgdnaaDoorGaB
import Derived.Test.YthndkkjgjhgdnaaDoorGaD
import Derived.Test.YthndkkjgjhgdnaaDoorGaT
import Derived.Test.YthndkkjgjhgdnaaDoorGaA
import Derived.Deep.RegionHeld3
import Derived.Deep.DeepCutAuto
namespace Go.Proofs.YthndkkjgjhgdnaaDoor
open Go.ChangeShapes Go.WideShapes Go.ChangeAt Go.RowKit
set_option linter.unusedVariables false
set_option linter.unusedSimpArgs false

/-- The text of any number. -/
def markU (k : Nat) : ByteArray := if k = 0 then ⟨#[109, 48]⟩ else markT k
/-- A word. -/
structure Wd where
  data : ByteArray
  acks : List Int
  done : Bool
/-- A writer. -/
structure Wt where
  epoch : Int
  words : List Wd
/-- The cells of a word. -/
def wdCl (p : Nst Wd) : List Value := [.string p.m.data, Sv Wd.acks p, .bool p.m.done]
/-- A word as a value. -/
def wdVal (p : Nst Wd) : Value := .agg #[.string p.m.data, Sv Wd.acks p, .bool p.m.done]
theorem wdCl_len (p : Nst Wd) : (wdCl p).length = 3 := rfl
/-- The three cells of a word in a row. -/
def WdAt (w : World) (b o : Nat) (p : Nst Wd) : Prop := w.cell? ⟨b, o, none⟩ = some (.string p.m.data) ∧ w.cell? ⟨b, o + 1, none⟩ = some (.slice p.a p.m.acks.length p.c) ∧ w.cell? ⟨b, o + 2, none⟩ = some (.bool p.m.done)
theorem WdAt.below {w w' : World} {b o : Nat} {p : Nst Wd} (h : WdAt w b o p) (hb : Below w.heap.size w w') : WdAt w' b o p :=
  ⟨(hb.cell (p := ⟨b, o, none⟩) (dCell_lt h.1)).trans h.1, (hb.cell (p := ⟨b, o + 1, none⟩) (dCell_lt h.2.1)).trans h.2.1, (hb.cell (p := ⟨b, o + 2, none⟩) (dCell_lt h.2.2)).trans h.2.2⟩
theorem Rw.word {w : World} {a : Option Addr} {n cap : Nat} {rs : List (Nst Wd)} (h : Rw 3 wdCl w (.slice a n cap) rs) {k : Nat} (hk : k < rs.length) : ∃ b off, a = some ⟨b, off, none⟩ ∧ ∀ i (hi : i < rs.length), WdAt w b (off + i * 3) rs[i] := by
  obtain ⟨b, off, e, hc⟩ := h.el hk
  exact ⟨b, off, e, fun i hi => ⟨hc i hi 0 _ rfl, hc i hi 1 _ rfl, hc i hi 2 _ rfl⟩⟩
/-- A new block of one word. -/
theorem rwW_one (w : World) (p : Nst Wd) (T : TypeId) (c : Nat) (hc : 1 ≤ c ∧ c ≤ 9223372036854775807) : Rw 3 wdCl (w.alloc (.cells #[.string p.m.data, .slice p.a p.m.acks.length p.c, .bool p.m.done] T)) (.slice (some ⟨w.heap.size, 0, none⟩) 1 c) [p] := by
  refine ⟨by simp, _, _, rfl, by simpa using hc, .inr ⟨w.heap.size, 0, rfl, fun i hi j u hu => ?_⟩⟩
  obtain rfl : i = 0 := by simp at hi; omega
  simp only [List.getElem_cons_zero, wdCl, Sv] at hu
  simpa using hu
/-- How many nodes words have. -/
def sumW (ms : List Wd) : Nat := (ms.map fun e => e.acks.length).sum
theorem sumW_take (ms : List Wd) (k : Nat) (h : k < ms.length) : sumW (ms.take (k + 1)) = sumW (ms.take k) + ms[k].acks.length := by
  unfold sumW
  rw [List.take_succ_eq_append_getElem h, List.map_append, List.sum_append, List.map_cons, List.map_nil, List.sum_cons, List.sum_nil, Nat.add_zero]
theorem sumW_le (ms : List Wd) (k : Nat) : sumW (ms.take k) ≤ sumW ms := by
  unfold sumW
  conv => rhs; rw [← List.take_append_drop k ms, List.map_append, List.sum_append]
  exact Nat.le_add_right _ _
theorem sumW_mem {ms : List Wd} {k : Nat} (h : k < ms.length) : ms[k].acks.length ≤ sumW ms := by
  have h1 := sumW_take ms k h
  have h2 := sumW_le ms (k + 1)
  omega
/-- How many bytes words have. -/
def sumX (ms : List Wd) : Nat := (ms.map fun e => e.data.size).sum
theorem sumX_take (ms : List Wd) (k : Nat) (h : k < ms.length) : sumX (ms.take (k + 1)) = sumX (ms.take k) + ms[k].data.size := by
  unfold sumX
  rw [List.take_succ_eq_append_getElem h, List.map_append, List.sum_append, List.map_cons, List.map_nil, List.sum_cons, List.sum_nil, Nat.add_zero]
theorem sumX_le (ms : List Wd) (k : Nat) : sumX (ms.take k) ≤ sumX ms := by
  unfold sumX
  conv => rhs; rw [← List.take_append_drop k ms, List.map_append, List.sum_append]
  exact Nat.le_add_right _ _
theorem sumX_mem {ms : List Wd} {k : Nat} (h : k < ms.length) : ms[k].data.size ≤ sumX ms := by
  have h1 := sumX_take ms k h
  have h2 := sumX_le ms (k + 1)
  omega
def RdWordS (v : Value) (ms : List Wd) (W : World) : Prop := RdK 3 Wd.acks wdCl v ms W
def OwWordS (lo hi : Nat) (v : Value) (ms : List Wd) (W : World) : Prop := OwK 3 Wd.acks wdCl lo hi v ms W
def RdWriter (v : Value) (m : Wt) (W : World) : Prop := ∃ sv, v = .agg #[.int .i64 m.epoch, sv] ∧ RdWordS sv m.words W
def OwWriter (lo hi : Nat) (v : Value) (m : Wt) (W : World) : Prop := ∃ sv, v = .agg #[.int .i64 m.epoch, sv] ∧ OwWordS lo hi sv m.words W
def sizWordS (m : List Wd) : Nat := m.length + sumX m + sumW m
def sizWriter (m : Wt) : Nat := sizWordS m.words
/-- How many marks a word takes. -/
def cntWordS (m : List Wd) : Nat := sumW m + 2 * m.length
def cntWriter (m : Wt) : Nat := cntWordS m.words
/-- A marked word. -/
def mkWd (k : Nat) (e : Wd) : Wd := ⟨markU k, marksN (k + 1) e.acks.length, ((k + 1 + e.acks.length) % 3 == 0)⟩
def mkWordS : Nat → List Wd → List Wd
  | _, [] => []
  | k, e :: l => mkWd k e :: mkWordS (k + e.acks.length + 2) l
def mkWriter (k : Nat) (m : Wt) : Wt := ⟨m.epoch, mkWordS k m.words⟩
theorem mkWordS_len : ∀ (k : Nat) (m : List Wd), (mkWordS k m).length = m.length
  | _, [] => rfl
  | k, e :: l => by rw [mkWordS, List.length_cons, List.length_cons, mkWordS_len]
theorem cntWordS_cons (e : Wd) (l : List Wd) : cntWordS (e :: l) = e.acks.length + 2 + cntWordS l := by
  simp only [cntWordS, sumW, List.map_cons, List.sum_cons, List.length_cons]
  omega
theorem mkWordS_at : ∀ (k : Nat) (m : List Wd) (i : Nat) (h : i < m.length) (h' : i < (mkWordS k m).length), (mkWordS k m)[i] = mkWd (k + cntWordS (m.take i)) m[i]
  | _, [], i, h, _ => by simp at h
  | k, e :: l, 0, h, _ => by simp [mkWordS, cntWordS, sumW]
  | k, e :: l, i + 1, h, h' => by
    have ih := mkWordS_at (k + e.acks.length + 2) l i (by simpa using h) (by rw [mkWordS_len]; simpa using h)
    simp only [mkWordS, List.getElem_cons_succ, List.take_succ_cons, cntWordS_cons]
    rw [ih]
    congr 1
    omega
theorem cntWordS_take (m : List Wd) (k : Nat) (h : k < m.length) : cntWordS (m.take (k + 1)) = cntWordS (m.take k) + m[k].acks.length + 2 := by
  have h1 := sumW_take m k h
  unfold cntWordS
  rw [h1, List.length_take, List.length_take]
  omega
theorem cntWordS_le' (m : List Wd) (k : Nat) : cntWordS (m.take k) ≤ cntWordS m := by
  have h1 := sumW_le m k
  unfold cntWordS
  rw [List.length_take]
  omega
theorem OwWriter.rd {lo hi : Nat} {v : Value} {m : Wt} {W : World} (h : OwWriter lo hi v m W) : RdWriter v m W := by
  obtain ⟨sv, h1, h2⟩ := h
  exact ⟨sv, h1, OwK.rd h2⟩
theorem RdWriter.below {v : Value} {m : Wt} {W W' : World} (h : RdWriter v m W) (b : Below W.heap.size W W') : RdWriter v m W' := by
  obtain ⟨sv, h1, h2⟩ := h
  exact ⟨sv, h1, RdK.below h2 b⟩
theorem formWriter {v : Value} {m : Wt} {W : World} (h : RdWriter v m W) : ∃ a cap, v = .agg #[.int .i64 m.epoch, .slice a m.words.length cap] ∧ m.words.length ≤ 9223372036854775807 := by
  obtain ⟨sv, rfl, h⟩ := h
  obtain ⟨a, cap, rfl, h0⟩ := formK h
  exact ⟨a, cap, rfl, h0⟩
theorem OwWriter.sits {lo hi : Nat} {w : World} {v : Value} {m : Wt} (h : OwWriter lo hi v m w) (hf : hi ≤ w.heap.size) : Sits (OwWriter lo hi v m) lo hi w := by
  obtain ⟨sv, h1, h2⟩ := h
  have s2 := OwK.sits h2 hf
  exact ⟨hf, fun W hW => ⟨sv, h1, s2.all W hW⟩⟩
theorem cntWordS_le {m : List Wd} (h : sizWordS m ≤ 1048576) : cntWordS m ≤ 2097152 := by unfold sizWordS at h; unfold cntWordS; omega
theorem cntWriter_le {m : Wt} (h : sizWriter m ≤ 1048576) : cntWriter m ≤ 2097152 := cntWordS_le h
end Go.Proofs.YthndkkjgjhgdnaaDoor
namespace Go.Proofs.YthndkkjgjhgdnaaDoor
open Go.ChangeShapes Go.WideShapes Go.ChangeAt Go.RowKit
set_option linter.unusedVariables false
set_option linter.unusedSimpArgs false
set_option maxRecDepth 100000

/-- Each text can be measured. -/
def txtW (ms : List Wd) : Prop := ∀ e ∈ ms, e.data.size ≤ 9223372036854775807
/-- Bytes and nodes of the first ones. -/
def sumB (ms : List Wd) (k : Nat) : Nat := sumX (ms.take k) + sumW (ms.take k)
theorem sumB_step (ms : List Wd) (k : Nat) (h : k < ms.length) : sumB ms (k + 1) = sumB ms k + (ms[k].data.size + ms[k].acks.length) := by
  unfold sumB
  rw [sumX_take ms k h, sumW_take ms k h]
  omega
theorem sumB_le (ms : List Wd) (k : Nat) : sumB ms k ≤ sumX ms + sumW ms := by
  have h1 := sumX_le ms k
  have h2 := sumW_le ms k
  unfold sumB
  omega
end Go.Proofs.YthndkkjgjhgdnaaDoor
namespace Go.Proofs.YthndkkjgjhgdnaaDoor
open Go.ChangeShapes Go.WideShapes Go.ChangeAt Go.RowKit
set_option linter.unnecessarySimpa false
set_option linter.unusedVariables false
set_option linter.unusedSimpArgs false
set_option maxRecDepth 100000

theorem elemN : Elem (α := Int) 3 24 (.int .i64 0) 1 8 (fun x => [.int .i64 x]) where
  under := Tryd.underlying24
  info := by kernel_rfl
  zcells := by kernel_rfl
  pos := by decide
  len := fun _ => rfl
  one := fun a u hu => by simp at hu; subst hu; rfl
theorem Ns.rw1 {w : World} {v : Value} {xs : List Int} (h : Ns w v xs) : Rw 1 (fun x => [.int .i64 x]) w v xs := by
  obtain ⟨h0, a, cap, rfl, hcap, h⟩ := h
  refine ⟨h0, a, cap, rfl, hcap, ?_⟩
  rcases h with h | ⟨b, off, rfl, hc⟩
  · exact .inl h
  · refine .inr ⟨b, off, rfl, fun i hi j u hu => ?_⟩
    cases j with
    | zero => simp at hu; subst hu; simpa using hc i hi
    | succ j => simp at hu
theorem OwnRw.n1 {w : World} {base : Nat} {v : Value} {xs : List Int} (h : OwnRw 1 (fun x => [.int .i64 x]) w base v xs) : OwnN w base v xs := by
  obtain ⟨h0, a, cap, rfl, hcap, h⟩ := h
  refine ⟨h0, a, cap, rfl, hcap, ?_⟩
  rcases h with h | ⟨b, off, rfl, hb, hc⟩
  · exact .inl h
  · exact .inr ⟨b, off, rfl, hb, fun i hi => by simpa using hc i hi 0 _ rfl⟩
/-- A copy of ints by append. -/
theorem run_cpN {w : World} (ty : TypeId) (a0 : Option Addr) (sv : Value) (xs : List Int) (hsrc : Ns w sv xs) (hb : xs.length ≤ 1099511627776) :
    ∃ v' w', (Builtin.append_ #[24, 24] ty #[.slice a0 0 0, sv]).run Tryd.prog w = .ok v' w' ∧ OwnN w' w.heap.size v' xs ∧ Below w.heap.size w w' := by
  obtain ⟨v', w', h1, h2, h3⟩ := run_cpR elemN ty a0 sv hsrc.rw1 (by omega)
  exact ⟨v', w', h1, (ApR.own elemN h2).n1, h3⟩
theorem wp_cpN {w : World} {ops : Array Oper} {rest : List Oper} {o : Oper} {a : Act} {Q : Exit → Act → World → Prop} (hgd : o.guard = none) (s x : Operand) (ho : o.op = .call { callee := .builtin .append, args := #[s, x], argTypes := #[24, 24] })
    (a0 : Option Addr) (hs : a.eval s = .slice a0 0 0) (sv : Value) (xs : List Int) (hx : a.eval x = sv) (hsrc : Ns w sv xs) (hb : xs.length ≤ 1099511627776)
    (h : ∀ v' w', OwnN w' w.heap.size v' xs → Below w.heap.size w w' → wpList Tryd.prog ops Q rest (a.put o.dst v') w') : wpList Tryd.prog ops Q (o :: rest) a w := by
  refine wpList_plain hgd fun K' hK' => ?_
  obtain ⟨v', w', hrun, h1, h2⟩ := run_cpN o.type a0 sv xs hsrc hb
  unfold Oper.wp
  simp [execOp, ho, resolve, invoke, builtin, hs, hx, hrun, Result.andThen]
  exact hK' _ _ (h v' w' h1 h2)
theorem step_cpN {w : World} {ops : Array Oper} {o : Oper} {a : Act} {Q : Exit → Act → World → Prop} {K : Act → World → Prop} {F : Prop} (hg : o.guard = none) (s x : Operand) (hop : o.op = .call { callee := .builtin .append, args := #[s, x], argTypes := #[24, 24] })
    (a0 : Option Addr) (hs : a.eval s = .slice a0 0 0) (sv : Value) (xs : List Int) (hx : a.eval x = sv) (hsrc : Ns w sv xs) (hb : xs.length ≤ 1099511627776)
    (h : ∀ v' w', OwnN w' w.heap.size v' xs → Below w.heap.size w w' → K (a.put o.dst v') w') :
    if Region.wanted o (yielded ops a.tmps) = true then Oper.wp Tryd.prog o a w K Q else F :=
  step_cpR elemN hg s x hop a0 hs sv xs hx hsrc.rw1 (by omega) fun v' w' h1 h2 => h v' w' (ApR.own elemN h1).n1 h2
theorem OwnN.grown {w w' : World} {base : Nat} {v : Value} {xs : List Int} {row : Option Nat} (h : OwnN w base v xs) (g : w.grownBy w' row) (hn : xs = [] ∨ row ≠ some (blockOf v)) : OwnN w' base v xs := by
  have hlt := h.bs.lt
  obtain ⟨h0, a, cap, rfl, hcap, h⟩ := h
  refine ⟨h0, a, cap, rfl, hcap, ?_⟩
  rcases hn with hn | hn
  · exact .inl hn
  · rcases h with h | ⟨b, off, rfl, hb, hc⟩
    · exact .inl h
    · rcases hlt with hlt | hlt
      · exact .inl hlt
      · have e := g.block b hlt (fun e => hn e.symm)
        exact .inr ⟨b, off, rfl, hb, fun i hi => ⟨(World.cell?_of_block (a := ⟨b, off + i, none⟩) e).trans (hc i hi).1, (World.frozen?_of_block (a := ⟨b, off + i, none⟩) e).trans (hc i hi).2⟩⟩
end Go.Proofs.YthndkkjgjhgdnaaDoor
