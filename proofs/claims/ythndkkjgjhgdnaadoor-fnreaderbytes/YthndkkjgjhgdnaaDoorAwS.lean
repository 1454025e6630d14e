/- Answers: their rows, and the laws' helpers on them (printed by tools/mkev.py). -/
import Derived.Test.YthndkkjgjhgdnaaDoorEvP
import Derived.Test.YthndkkjgjhgdnaaDoorGaA
import Derived.Test.YthndkkjgjhgdnaaDoorGaT
import Derived.Test.YthndkkjgjhgdnaaDoorGbE
import Derived.Test.YthndkkjgjhgdnaaDoorGk11
import Derived.Deep.RegionHeld3
namespace Go.Proofs.YthndkkjgjhgdnaaDoor
open Go.ChangeShapes Go.WideShapes Go.ChangeAt Go.RowKit
set_option linter.unusedVariables false
set_option linter.unusedSimpArgs false
set_option maxRecDepth 100000

/-- One of them. -/
structure Aw where
  node : Int
  has : Bool
  ent : Ent
def Aw.cl (e : Aw) : List Value := [.int .i64 e.node, .bool e.has, .int .i64 e.ent.pl, .int .i64 e.ent.wave, .bool e.ent.hole, .string e.ent.data]
def Aw.val (e : Aw) : Value := .agg #[.int .i64 e.node, .bool e.has, .int .i64 e.ent.pl, .int .i64 e.ent.wave, .bool e.ent.hole, .string e.ent.data]
theorem Aw.cl_len (e : Aw) : e.cl.length = 6 := rfl
def zeroAw : Aw := ⟨0, false, ⟨0, 0, false, ⟨#[]⟩⟩⟩
/-- The cells of one of a slice. -/
def AwAt (w : World) (b o : Nat) (e : Aw) : Prop := w.cell? ⟨b, o, none⟩ = some (.int .i64 e.node) ∧ w.cell? ⟨b, o + 1, none⟩ = some (.bool e.has) ∧ w.cell? ⟨b, o + 2, none⟩ = some (.int .i64 e.ent.pl) ∧ w.cell? ⟨b, o + 3, none⟩ = some (.int .i64 e.ent.wave) ∧ w.cell? ⟨b, o + 4, none⟩ = some (.bool e.ent.hole) ∧ w.cell? ⟨b, o + 5, none⟩ = some (.string e.ent.data)
theorem AwAt.below {w w' : World} {b o : Nat} {e : Aw} (h : AwAt w b o e) (hb : Below w.heap.size w w') : AwAt w' b o e := by
  obtain ⟨h0, h1, h2, h3, h4, h5⟩ := h
  exact ⟨(hb.cell (p := ⟨b, o, none⟩) (dCell_lt h0)).trans h0, (hb.cell (p := ⟨b, o + 1, none⟩) (dCell_lt h1)).trans h1, (hb.cell (p := ⟨b, o + 2, none⟩) (dCell_lt h2)).trans h2, (hb.cell (p := ⟨b, o + 3, none⟩) (dCell_lt h3)).trans h3, (hb.cell (p := ⟨b, o + 4, none⟩) (dCell_lt h4)).trans h4, (hb.cell (p := ⟨b, o + 5, none⟩) (dCell_lt h5)).trans h5⟩
theorem Rw.atAw {w : World} {a : Option Addr} {n cap : Nat} {es : List Aw} (h : Rw 6 Aw.cl w (.slice a n cap) es) {k : Nat} (hk : k < es.length) : ∃ b off, a = some ⟨b, off, none⟩ ∧ ∀ i (hi : i < es.length), AwAt w b (off + i * 6) es[i] := by
  obtain ⟨b, off, e, hc⟩ := h.elG hk
  exact ⟨b, off, e, fun i hi => ⟨hc i hi 0 _ rfl, hc i hi 1 _ rfl, hc i hi 2 _ rfl, hc i hi 3 _ rfl, hc i hi 4 _ rfl, hc i hi 5 _ rfl⟩⟩
/-- The bytes of the texts. -/
def sumAw (es : List Aw) : Nat := (es.map fun e => e.ent.data.size).sum
theorem sumAw_take (es : List Aw) (k : Nat) (h : k < es.length) : sumAw (es.take (k + 1)) = sumAw (es.take k) + es[k].ent.data.size := by
  unfold sumAw
  rw [List.take_succ_eq_append_getElem h, List.map_append, List.sum_append, List.map_cons, List.map_nil, List.sum_cons, List.sum_nil, Nat.add_zero]
theorem sumAw_le (es : List Aw) (k : Nat) : sumAw (es.take k) ≤ sumAw es := by
  unfold sumAw
  conv => rhs; rw [← List.take_append_drop k es, List.map_append, List.sum_append]
  exact Nat.le_add_right _ _
/-- Texts that are no longer than an int. -/
def txtAw (es : List Aw) : Prop := ∀ e ∈ es, e.ent.data.size ≤ 9223372036854775807
def RdAnswerS (v : Value) (m : List Aw) (W : World) : Prop := Rw 6 Aw.cl W v m
def OwAnswerS (lo hi : Nat) (v : Value) (m : List Aw) (W : World) : Prop := OwG 6 Aw.cl lo hi v m W
def sizAnswerS (m : List Aw) : Nat := m.length + sumAw m
def cntAnswerS (m : List Aw) : Nat := 6 * m.length
def mkAw (k : Nat) : Aw := ⟨((k + 0 : Nat) : Int), ((k + 1) % 3 == 0), ⟨((k + 2 : Nat) : Int), ((k + 3 : Nat) : Int), ((k + 4) % 3 == 0), markT (k + 5)⟩⟩
def mkAnswerS (k : Nat) (m : List Aw) : List Aw := (List.range m.length).map fun i => mkAw (k + 6 * i)
theorem mkAnswerS_len (k : Nat) (m : List Aw) : (mkAnswerS k m).length = m.length := by simp [mkAnswerS]
theorem mkAnswerS_at (k : Nat) (m : List Aw) (i : Nat) (h : i < (mkAnswerS k m).length) : (mkAnswerS k m)[i] = mkAw (k + 6 * i) := by simp [mkAnswerS]
theorem OwAnswerS.rd {lo hi : Nat} {v : Value} {m : List Aw} {W : World} (h : OwAnswerS lo hi v m W) : RdAnswerS v m W := OwnRw.rw h.1
theorem RdAnswerS.below {v : Value} {m : List Aw} {W W' : World} (h : RdAnswerS v m W) (b : Below W.heap.size W W') : RdAnswerS v m W' := Rw.below h b
theorem formAnswerS {v : Value} {m : List Aw} {W : World} (h : RdAnswerS v m W) : ∃ a cap, v = .slice a m.length cap ∧ m.length ≤ 9223372036854775807 := by
  obtain ⟨h0, a, cap, rfl, -, -⟩ := h
  exact ⟨a, cap, rfl, h0⟩
theorem sitsAnswerS {w : World} {base : Nat} {v : Value} {m : List Aw} (h : OwnRw 6 Aw.cl w base v m) : Sits (OwAnswerS base w.heap.size v m) base w.heap.size w := OwG.sits ⟨h, h.ltZ Aw.cl_len (by decide)⟩ (Nat.le_refl _)
theorem cntAnswerS_le {m : List Aw} (h : sizAnswerS m ≤ 1048576) : cntAnswerS m ≤ 6291456 := by unfold sizAnswerS at h; unfold cntAnswerS; omega
theorem zallAw {w : World} {b off n k : Nat} {f : Nat → Aw} (h : RwZ 6 Aw.cl w b off n f) (hk : k < n) (e : Aw) :
    RwZ 6 Aw.cl ((((((w.setCell ⟨b, off + k * 6, none⟩ (.int .i64 e.node)).setCell ⟨b, off + k * 6 + 1, none⟩ (.bool e.has)).setCell ⟨b, off + k * 6 + 2, none⟩ (.int .i64 e.ent.pl)).setCell ⟨b, off + k * 6 + 3, none⟩ (.int .i64 e.ent.wave)).setCell ⟨b, off + k * 6 + 4, none⟩ (.bool e.ent.hole)).setCell ⟨b, off + k * 6 + 5, none⟩ (.string e.ent.data)) b off n (putZ f k e) := by
  have h1 := h.cell Aw.cl_len hk 0 (by decide) (.int .i64 e.node) ⟨e.node, (f k).has, ⟨(f k).ent.pl, (f k).ent.wave, (f k).ent.hole, (f k).ent.data⟩⟩ (by rfl)
  have h2 := h1.cell Aw.cl_len hk 1 (by decide) (.bool e.has) ⟨e.node, e.has, ⟨(f k).ent.pl, (f k).ent.wave, (f k).ent.hole, (f k).ent.data⟩⟩ (by simp only [putZ_same]; rfl)
  rw [putZ_twice] at h2
  have h3 := h2.cell Aw.cl_len hk 2 (by decide) (.int .i64 e.ent.pl) ⟨e.node, e.has, ⟨e.ent.pl, (f k).ent.wave, (f k).ent.hole, (f k).ent.data⟩⟩ (by simp only [putZ_same]; rfl)
  rw [putZ_twice] at h3
  have h4 := h3.cell Aw.cl_len hk 3 (by decide) (.int .i64 e.ent.wave) ⟨e.node, e.has, ⟨e.ent.pl, e.ent.wave, (f k).ent.hole, (f k).ent.data⟩⟩ (by simp only [putZ_same]; rfl)
  rw [putZ_twice] at h4
  have h5 := h4.cell Aw.cl_len hk 4 (by decide) (.bool e.ent.hole) ⟨e.node, e.has, ⟨e.ent.pl, e.ent.wave, e.ent.hole, (f k).ent.data⟩⟩ (by simp only [putZ_same]; rfl)
  rw [putZ_twice] at h5
  have h6 := h5.cell Aw.cl_len hk 5 (by decide) (.string e.ent.data) ⟨e.node, e.has, ⟨e.ent.pl, e.ent.wave, e.ent.hole, e.ent.data⟩⟩ (by simp only [putZ_same]; rfl)
  rw [putZ_twice] at h6
  exact h6
theorem Wr.setAw {lo hi b o : Nat} {w wr : World} (h : Wr lo hi w wr) (h1 : lo ≤ b) (h2 : b < hi) (u : Value) : Wr lo hi w (wr.setCell ⟨b, o, none⟩ u) :=
  h.trans ⟨rfl, rfl, rfl, by simp, fun k hk hn => Below.heap_setCell _ _ _ k (fun e => by simp at e; omega)⟩
theorem mkAw_at (K : Nat) : mkAw K = ⟨(K : Int), (((K : Int) + 1) % 3 == 0), ⟨(K : Int) + 1 + 1, (K : Int) + 1 + 1 + 1, (((K : Int) + 1 + 1 + 1 + 1) % 3 == 0), markT (K + 5)⟩⟩ := by
  unfold mkAw
  have e0 : ((K + 0 : Nat) : Int) = (K : Int) := by omega
  have e1 : ((K + 1) % 3 == 0) = (((K : Int) + 1) % 3 == 0) := by
    by_cases h : (K + 1) % 3 = 0
    · have h' : ((K : Int) + 1) % 3 = 0 := by omega
      rw [h, h']; rfl
    · have h' : ¬ ((K : Int) + 1) % 3 = 0 := by omega
      rw [beq_eq_false_iff_ne.2 h, beq_eq_false_iff_ne.2 h']
  have e2 : ((K + 2 : Nat) : Int) = (K : Int) + 1 + 1 := by omega
  have e3 : ((K + 3 : Nat) : Int) = (K : Int) + 1 + 1 + 1 := by omega
  have e4 : ((K + 4) % 3 == 0) = (((K : Int) + 1 + 1 + 1 + 1) % 3 == 0) := by
    by_cases h : (K + 4) % 3 = 0
    · have h' : ((K : Int) + 1 + 1 + 1 + 1) % 3 = 0 := by omega
      rw [h, h']; rfl
    · have h' : ¬ ((K : Int) + 1 + 1 + 1 + 1) % 3 = 0 := by omega
      rw [beq_eq_false_iff_ne.2 h, beq_eq_false_iff_ne.2 h']
  rw [e0, e1, e2, e3, e4]
end Go.Proofs.YthndkkjgjhgdnaaDoor
