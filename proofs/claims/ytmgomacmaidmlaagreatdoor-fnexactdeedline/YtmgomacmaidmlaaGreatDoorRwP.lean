/- Slices of elements of several cells: what a slice reads as ('Rw'), and a slice in new memory that nobody has frozen ('OwnRw'). -/
import Derived.Test.YtmgomacmaidmlaaGreatDoorFourP
import Derived.Test.YtmgomacmaidmlaaGreatDoorBytesX
import Derived.Laws.AppendOwn
import Derived.Laws.OwnMore
import Derived.OwnWalk
namespace Go.Proofs.YtmgomacmaidmlaaGreatDoor
open Go.ChangeShapes Go.WideShapes Go.ChangeAt Go.RowKit
set_option linter.unusedVariables false

section
variable {α : Type}
/-- The slice v, of elements of sz cells, reads as ms. -/
def Rw (sz : Nat) (cl : α → List Value) (w : World) (v : Value) (ms : List α) : Prop :=
  ms.length ≤ 9223372036854775807 ∧ ∃ a cap, v = .slice a ms.length cap ∧ (ms.length ≤ cap ∧ cap ≤ 9223372036854775807) ∧ (ms = [] ∨ ∃ b off, a = some ⟨b, off, none⟩ ∧ ∀ i (h : i < ms.length) j u, (cl ms[i])[j]? = some u → w.cell? ⟨b, off + i * sz + j, none⟩ = some u)
/-- .. lies in a block from base on, and may be written. -/
def OwnRw (sz : Nat) (cl : α → List Value) (w : World) (base : Nat) (v : Value) (ms : List α) : Prop :=
  ms.length ≤ 9223372036854775807 ∧ ∃ a cap, v = .slice a ms.length cap ∧ (ms.length ≤ cap ∧ cap ≤ 9223372036854775807) ∧ (ms = [] ∨ ∃ b off, a = some ⟨b, off, none⟩ ∧ base ≤ b ∧ ∀ i (h : i < ms.length) j u, (cl ms[i])[j]? = some u → w.cell? ⟨b, off + i * sz + j, none⟩ = some u ∧ w.frozen? ⟨b, off + i * sz + j, none⟩ = false)
variable {sz : Nat} {cl : α → List Value} {w w' : World} {base base' : Nat} {v : Value} {ms : List α}
theorem orR_of_lt {P : Prop} {k : Nat} (h : ms = [] ∨ P) (hk : k < ms.length) : P := by
  rcases h with rfl | h
  · simp at hk
  · exact h
theorem OwnRw.rw (h : OwnRw sz cl w base v ms) : Rw sz cl w v ms := by
  obtain ⟨h0, a, cap, rfl, hcap, h⟩ := h
  refine ⟨h0, a, cap, rfl, hcap, ?_⟩
  rcases h with h | ⟨b, off, rfl, -, hc⟩
  · exact .inl h
  · exact .inr ⟨b, off, rfl, fun i hi j u hu => (hc i hi j u hu).1⟩
theorem Rw.below (h : Rw sz cl w v ms) (hb : Below w.heap.size w w') : Rw sz cl w' v ms := by
  obtain ⟨h0, a, cap, rfl, hcap, h⟩ := h
  refine ⟨h0, a, cap, rfl, hcap, ?_⟩
  rcases h with h | ⟨b, off, rfl, hc⟩
  · exact .inl h
  · exact .inr ⟨b, off, rfl, fun i hi j u hu => (hb.cell (p := ⟨b, off + i * sz + j, none⟩) (dCell_lt (hc i hi j u hu))).trans (hc i hi j u hu)⟩
theorem OwnRw.below (h : OwnRw sz cl w base v ms) (hb : Below w.heap.size w w') : OwnRw sz cl w' base v ms := by
  obtain ⟨h0, a, cap, rfl, hcap, h⟩ := h
  refine ⟨h0, a, cap, rfl, hcap, ?_⟩
  rcases h with h | ⟨b, off, rfl, hbb, hc⟩
  · exact .inl h
  · exact .inr ⟨b, off, rfl, hbb, fun i hi j u hu => ⟨(hb.cell (p := ⟨b, off + i * sz + j, none⟩) (dCell_lt (hc i hi j u hu).1)).trans (hc i hi j u hu).1, (hb.frozen (p := ⟨b, off + i * sz + j, none⟩) (dCell_lt (hc i hi j u hu).1)).trans (hc i hi j u hu).2⟩⟩
theorem OwnRw.mono (h : OwnRw sz cl w base v ms) (hb : base' ≤ base) : OwnRw sz cl w base' v ms := by
  obtain ⟨h0, a, cap, rfl, hcap, h⟩ := h
  refine ⟨h0, a, cap, rfl, hcap, ?_⟩
  rcases h with h | ⟨b, off, rfl, hbb, hc⟩
  · exact .inl h
  · exact .inr ⟨b, off, rfl, by omega, hc⟩
/-- What lies elsewhere stays as it is when block bk turns. -/
theorem Rw.drawn {bk : Nat} (h : Rw sz cl w v ms) (hd : Drawn bk w w') (hne : ms = [] ∨ blockOf v ≠ bk) : Rw sz cl w' v ms := by
  obtain ⟨h0, a, cap, rfl, hcap, h⟩ := h
  refine ⟨h0, a, cap, rfl, hcap, ?_⟩
  rcases h with h | ⟨b, off, rfl, hc⟩
  · exact .inl h
  · rcases hne with h | hne
    · exact .inl h
    · exact .inr ⟨b, off, rfl, fun i hi j u hu => hd.cell (hc i hi j u hu) hne⟩
theorem Rw.nil (w : World) (a : Option Addr) (cap : Nat) (h : cap ≤ 9223372036854775807) : Rw sz cl w (.slice a 0 cap) ([] : List α) := ⟨by simp, a, cap, rfl, ⟨Nat.zero_le _, h⟩, .inl rfl⟩
theorem OwnRw.nil (w : World) (base : Nat) (a : Option Addr) (cap : Nat) (h : cap ≤ 9223372036854775807) : OwnRw sz cl w base (.slice a 0 cap) ([] : List α) := ⟨by simp, a, cap, rfl, ⟨Nat.zero_le _, h⟩, .inl rfl⟩
/-- The cells of elements. -/
def fcells (cl : α → List Value) (ms : List α) : List Value := ms.flatMap cl
theorem fcells_len (hcl : ∀ a, (cl a).length = sz) (ms : List α) : (fcells cl ms).length = ms.length * sz := by
  induction ms with
  | nil => simp [fcells]
  | cons a l ih =>
    have e : fcells cl (a :: l) = cl a ++ fcells cl l := rfl
    rw [e, List.length_append, ih, hcl, List.length_cons, Nat.add_mul]
    omega
theorem fcells_app (ms ns : List α) : fcells cl (ms ++ ns) = fcells cl ms ++ fcells cl ns := by simp [fcells]
theorem fcells_at (hcl : ∀ a, (cl a).length = sz) : ∀ (ms : List α) (i : Nat) (h : i < ms.length) (j : Nat) (u : Value), (cl ms[i])[j]? = some u → (fcells cl ms)[i * sz + j]? = some u
  | [], i, h, _, _, _ => by simp at h
  | a :: l, i, h, j, u, hu => by
    have e : fcells cl (a :: l) = cl a ++ fcells cl l := rfl
    rw [e]
    cases i with
    | zero =>
      have hj : j < (cl a).length := by
        rcases Nat.lt_or_ge j (cl a).length with h' | h'
        · exact h'
        · simp only [List.getElem_cons_zero] at hu
          rw [List.getElem?_eq_none h'] at hu
          cases hu
      rw [Nat.zero_mul, Nat.zero_add, List.getElem?_append_left hj]
      simpa using hu
    | succ n =>
      have hn : n < l.length := by simpa using h
      have ih := fcells_at hcl l n hn j u (by simpa using hu)
      rw [List.getElem?_append_right (by rw [hcl, Nat.add_mul]; omega), hcl]
      have e2 : (n + 1) * sz + j - sz = n * sz + j := by rw [Nat.add_mul]; omega
      rw [e2]
      exact ih
/-- What append's law leaves is such a slice. -/
theorem ownRw_of_row {T : TypeId} {n : Nat} (hcl : ∀ a, (cl a).length = sz) (hs : 0 < sz) (h : w.ownsRow base T sz v n (fcells cl ms)) : OwnRw sz cl w base v ms := by
  have hl : ms.length = n := by
    have := h.1
    rw [fcells_len hcl] at this
    exact Nat.eq_of_mul_eq_mul_right hs this
  subst hl
  rcases h.2 with ⟨rfl, hn⟩ | ⟨g, cap, cur, rfl, hb, hg, hnc, hcm, hsz, ht⟩
  · have : ms = [] := List.length_eq_zero_iff.1 hn
    subst this
    exact ⟨by simp, none, 0, rfl, by simp, .inl rfl⟩
  · have hm : maxLen = 9223372036854775807 := rfl
    refine ⟨by omega, some ⟨g, 0, none⟩, cap, rfl, by omega, .inr ⟨g, 0, rfl, hb, fun i hi j u hu => ?_⟩⟩
    have hf := fcells_at hcl ms i hi j u hu
    have hj : i * sz + j < (fcells cl ms).length := by
      rcases Nat.lt_or_ge (i * sz + j) (fcells cl ms).length with h' | h'
      · exact h'
      · rw [List.getElem?_eq_none h'] at hf
        cases hf
    rw [fcells_len hcl] at hj
    have hcur : cur.toList[i * sz + j]? = some u := by
      have e : (cur.toList.take (ms.length * sz))[i * sz + j]? = (fcells cl ms)[i * sz + j]? := by rw [ht]
      rw [List.getElem?_take, if_pos hj] at e
      rw [e, hf]
    refine ⟨?_, ?_⟩
    · simp only [World.cell?, hg]
      simpa using hcur
    · simp [World.frozen?, hg]
end
end Go.Proofs.YtmgomacmaidmlaaGreatDoor
