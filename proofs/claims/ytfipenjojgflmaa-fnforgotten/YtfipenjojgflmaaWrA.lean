/- Words and writers as models; their rows. -/
import Derived.Test.YtfipenjojgflmaaGaB
import Derived.Test.YtfipenjojgflmaaGaD
import Derived.Test.YtfipenjojgflmaaGaT
namespace Go.Proofs.Ytfipenjojgflmaa
open Go.ChangeShapes Go.WideShapes Go.ChangeAt Go.RowKit
set_option linter.unusedVariables false
set_option linter.unusedSimpArgs false

/-- The text of any number. -/
def markU (k : Nat) : ByteArray := if k = 0 then ⟨#[109, 48]⟩ else markT k
theorem markText_all (k : Nat) (hk : k ≤ 4294967296) (w : World) :
    Calls Try.prog 95 #[.int .i64 (k : Int)] w fun e w' => e = .returned (.string (markU k)) ∧ Below w.heap.size w w' := by
  by_cases h : k = 0
  · subst h
    rw [show markU 0 = ⟨#[109, 48]⟩ from rfl]
    go_enter Try.func95, Try.ntmps95
    go_wp2
    go_ret
    exact ⟨rfl, Below.refl _ _⟩
  · rw [show markU k = markT k from if_neg h]
    exact markText_any k hk (by omega) w
/-- A word. -/
structure Wd where
  data : ByteArray
  acks : List Int
  done : Bool
/-- A writer. -/
structure Wt where
  epoch : Int
  words : List Wd
/-- The cells of a word. -/
def wdCl (p : Nst Wd) : List Value := [.string p.m.data, Sv Wd.acks p, .bool p.m.done]
/-- A word as a value. -/
def wdVal (p : Nst Wd) : Value := .agg #[.string p.m.data, Sv Wd.acks p, .bool p.m.done]
theorem wdCl_len (p : Nst Wd) : (wdCl p).length = 3 := rfl
theorem elemW : Elem (α := Nst Wd) 35 27 (.agg #[.string ⟨#[]⟩, .slice none 0 0, .bool false]) 3 48 wdCl where
  under := Try.underlying27
  info := by kernel_rfl
  zcells := by kernel_rfl
  pos := by decide
  len := wdCl_len
  one := fun a u hu => by
    simp only [wdCl, List.mem_cons, List.not_mem_nil, or_false] at hu
    rcases hu with rfl | rfl | rfl <;> rfl
/-- The three cells of a word in a row. -/
def WdAt (w : World) (b o : Nat) (p : Nst Wd) : Prop := w.cell? ⟨b, o, none⟩ = some (.string p.m.data) ∧ w.cell? ⟨b, o + 1, none⟩ = some (.slice p.a p.m.acks.length p.c) ∧ w.cell? ⟨b, o + 2, none⟩ = some (.bool p.m.done)
theorem WdAt.below {w w' : World} {b o : Nat} {p : Nst Wd} (h : WdAt w b o p) (hb : Below w.heap.size w w') : WdAt w' b o p :=
  ⟨(hb.cell (p := ⟨b, o, none⟩) (dCell_lt h.1)).trans h.1, (hb.cell (p := ⟨b, o + 1, none⟩) (dCell_lt h.2.1)).trans h.2.1, (hb.cell (p := ⟨b, o + 2, none⟩) (dCell_lt h.2.2)).trans h.2.2⟩
theorem Rw.word {w : World} {a : Option Addr} {n cap : Nat} {rs : List (Nst Wd)} (h : Rw 3 wdCl w (.slice a n cap) rs) {k : Nat} (hk : k < rs.length) : ∃ b off, a = some ⟨b, off, none⟩ ∧ ∀ i (hi : i < rs.length), WdAt w b (off + i * 3) rs[i] := by
  obtain ⟨b, off, e, hc⟩ := h.el hk
  exact ⟨b, off, e, fun i hi => ⟨hc i hi 0 _ rfl, hc i hi 1 _ rfl, hc i hi 2 _ rfl⟩⟩
/-- A new block of one word. -/
theorem rwW_one (w : World) (p : Nst Wd) (T : TypeId) (c : Nat) (hc : 1 ≤ c ∧ c ≤ 9223372036854775807) : Rw 3 wdCl (w.alloc (.cells #[.string p.m.data, .slice p.a p.m.acks.length p.c, .bool p.m.done] T)) (.slice (some ⟨w.heap.size, 0, none⟩) 1 c) [p] := by
  refine ⟨by simp, _, _, rfl, by simpa using hc, .inr ⟨w.heap.size, 0, rfl, fun i hi j u hu => ?_⟩⟩
  obtain rfl : i = 0 := by simp at hi; omega
  simp only [List.getElem_cons_zero, wdCl, Sv] at hu
  simpa using hu
/-- How many nodes words have. -/
def sumW (ms : List Wd) : Nat := (ms.map fun e => e.acks.length).sum
theorem sumW_take (ms : List Wd) (k : Nat) (h : k < ms.length) : sumW (ms.take (k + 1)) = sumW (ms.take k) + ms[k].acks.length := by
  unfold sumW
  rw [List.take_succ_eq_append_getElem h, List.map_append, List.sum_append, List.map_cons, List.map_nil, List.sum_cons, List.sum_nil, Nat.add_zero]
theorem sumW_le (ms : List Wd) (k : Nat) : sumW (ms.take k) ≤ sumW ms := by
  unfold sumW
  conv => rhs; rw [← List.take_append_drop k ms, List.map_append, List.sum_append]
  exact Nat.le_add_right _ _
theorem sumW_mem {ms : List Wd} {k : Nat} (h : k < ms.length) : ms[k].acks.length ≤ sumW ms := by
  have h1 := sumW_take ms k h
  have h2 := sumW_le ms (k + 1)
  omega
/-- How many bytes words have. -/
def sumX (ms : List Wd) : Nat := (ms.map fun e => e.data.size).sum
theorem sumX_take (ms : List Wd) (k : Nat) (h : k < ms.length) : sumX (ms.take (k + 1)) = sumX (ms.take k) + ms[k].data.size := by
  unfold sumX
  rw [List.take_succ_eq_append_getElem h, List.map_append, List.sum_append, List.map_cons, List.map_nil, List.sum_cons, List.sum_nil, Nat.add_zero]
theorem sumX_le (ms : List Wd) (k : Nat) : sumX (ms.take k) ≤ sumX ms := by
  unfold sumX
  conv => rhs; rw [← List.take_append_drop k ms, List.map_append, List.sum_append]
  exact Nat.le_add_right _ _
theorem sumX_mem {ms : List Wd} {k : Nat} (h : k < ms.length) : ms[k].data.size ≤ sumX ms := by
  have h1 := sumX_take ms k h
  have h2 := sumX_le ms (k + 1)
  omega
def RdWordS (v : Value) (ms : List Wd) (W : World) : Prop := RdK 3 Wd.acks wdCl v ms W
def OwWordS (lo hi : Nat) (v : Value) (ms : List Wd) (W : World) : Prop := OwK 3 Wd.acks wdCl lo hi v ms W
def RdWriter (v : Value) (m : Wt) (W : World) : Prop := ∃ sv, v = .agg #[.int .i64 m.epoch, sv] ∧ RdWordS sv m.words W
def OwWriter (lo hi : Nat) (v : Value) (m : Wt) (W : World) : Prop := ∃ sv, v = .agg #[.int .i64 m.epoch, sv] ∧ OwWordS lo hi sv m.words W
def sizWordS (m : List Wd) : Nat := m.length + sumX m + sumW m
def sizWriter (m : Wt) : Nat := sizWordS m.words
/-- How many marks a word takes. -/
def cntWordS (m : List Wd) : Nat := sumW m + 2 * m.length
def cntWriter (m : Wt) : Nat := cntWordS m.words
/-- A marked word. -/
def mkWd (k : Nat) (e : Wd) : Wd := ⟨markU k, marksN (k + 1) e.acks.length, ((k + 1 + e.acks.length) % 3 == 0)⟩
def mkWordS : Nat → List Wd → List Wd
  | _, [] => []
  | k, e :: l => mkWd k e :: mkWordS (k + e.acks.length + 2) l
def mkWriter (k : Nat) (m : Wt) : Wt := ⟨m.epoch, mkWordS k m.words⟩
theorem mkWordS_len : ∀ (k : Nat) (m : List Wd), (mkWordS k m).length = m.length
  | _, [] => rfl
  | k, e :: l => by rw [mkWordS, List.length_cons, List.length_cons, mkWordS_len]
theorem cntWordS_cons (e : Wd) (l : List Wd) : cntWordS (e :: l) = e.acks.length + 2 + cntWordS l := by
  simp only [cntWordS, sumW, List.map_cons, List.sum_cons, List.length_cons]
  omega
theorem mkWordS_at : ∀ (k : Nat) (m : List Wd) (i : Nat) (h : i < m.length) (h' : i < (mkWordS k m).length), (mkWordS k m)[i] = mkWd (k + cntWordS (m.take i)) m[i]
  | _, [], i, h, _ => by simp at h
  | k, e :: l, 0, h, _ => by simp [mkWordS, cntWordS, sumW]
  | k, e :: l, i + 1, h, h' => by
    have ih := mkWordS_at (k + e.acks.length + 2) l i (by simpa using h) (by rw [mkWordS_len]; simpa using h)
    simp only [mkWordS, List.getElem_cons_succ, List.take_succ_cons, cntWordS_cons]
    rw [ih]
    congr 1
    omega
theorem cntWordS_take (m : List Wd) (k : Nat) (h : k < m.length) : cntWordS (m.take (k + 1)) = cntWordS (m.take k) + m[k].acks.length + 2 := by
  have h1 := sumW_take m k h
  unfold cntWordS
  rw [h1, List.length_take, List.length_take]
  omega
theorem cntWordS_le' (m : List Wd) (k : Nat) : cntWordS (m.take k) ≤ cntWordS m := by
  have h1 := sumW_le m k
  unfold cntWordS
  rw [List.length_take]
  omega
theorem OwWriter.rd {lo hi : Nat} {v : Value} {m : Wt} {W : World} (h : OwWriter lo hi v m W) : RdWriter v m W := by
  obtain ⟨sv, h1, h2⟩ := h
  exact ⟨sv, h1, OwK.rd h2⟩
theorem RdWriter.below {v : Value} {m : Wt} {W W' : World} (h : RdWriter v m W) (b : Below W.heap.size W W') : RdWriter v m W' := by
  obtain ⟨sv, h1, h2⟩ := h
  exact ⟨sv, h1, RdK.below h2 b⟩
theorem formWriter {v : Value} {m : Wt} {W : World} (h : RdWriter v m W) : ∃ a cap, v = .agg #[.int .i64 m.epoch, .slice a m.words.length cap] ∧ m.words.length ≤ 9223372036854775807 := by
  obtain ⟨sv, rfl, h⟩ := h
  obtain ⟨a, cap, rfl, h0⟩ := formK h
  exact ⟨a, cap, rfl, h0⟩
theorem OwWriter.sits {lo hi : Nat} {w : World} {v : Value} {m : Wt} (h : OwWriter lo hi v m w) (hf : hi ≤ w.heap.size) : Sits (OwWriter lo hi v m) lo hi w := by
  obtain ⟨sv, h1, h2⟩ := h
  have s2 := OwK.sits h2 hf
  exact ⟨hf, fun W hW => ⟨sv, h1, s2.all W hW⟩⟩
theorem cntWordS_le {m : List Wd} (h : sizWordS m ≤ 1048576) : cntWordS m ≤ 2097152 := by unfold sizWordS at h; unfold cntWordS; omega
theorem cntWriter_le {m : Wt} (h : sizWriter m ≤ 1048576) : cntWriter m ≤ 2097152 := cntWordS_le h
end Go.Proofs.Ytfipenjojgflmaa
