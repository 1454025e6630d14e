/- Rows of elements of several cells that may be written, cell by cell, whatever the elements are. -/
import Derived.Test.YthndkkjgjhgdnaaDoorGaA
import Derived.Laws.MakeOwn
import Derived.OwnWalk
namespace Go.Proofs.YthndkkjgjhgdnaaDoor
open Go.ChangeShapes Go.WideShapes Go.ChangeAt Go.RowKit
set_option linter.unusedVariables false

section
variable {α : Type}
/-- The cells of an element, which may be written. -/
def ElZ (cl : α → List Value) (w : World) (b o : Nat) (e : α) : Prop := ∀ j u, (cl e)[j]? = some u → w.cell? ⟨b, o + j, none⟩ = some u ∧ w.frozen? ⟨b, o + j, none⟩ = false
/-- The elements f 0 .. f (n - 1) from the cell off on. -/
def RwZ (sz : Nat) (cl : α → List Value) (w : World) (b off n : Nat) (f : Nat → α) : Prop := ∀ i, i < n → ElZ cl w b (off + i * sz) (f i)
/-- One element is another. -/
def putZ (f : Nat → α) (k : Nat) (e : α) : Nat → α := fun i => if i = k then e else f i
variable {sz : Nat} {cl : α → List Value} {w w' : World} {b off n k base : Nat} {f : Nat → α}
theorem putZ_same (f : Nat → α) (k : Nat) (e : α) : putZ f k e k = e := if_pos rfl
theorem putZ_twice (f : Nat → α) (k : Nat) (e e' : α) : putZ (putZ f k e) k e' = putZ f k e' := by
  funext i
  unfold putZ
  split <;> rfl
theorem RwZ.below (h : RwZ sz cl w b off n f) (hb : Below w.heap.size w w') : RwZ sz cl w' b off n f := fun i hi j u hu =>
  ⟨(hb.cell (p := ⟨b, off + i * sz + j, none⟩) (dCell_lt (h i hi j u hu).1)).trans (h i hi j u hu).1, (hb.frozen (p := ⟨b, off + i * sz + j, none⟩) (dCell_lt (h i hi j u hu).1)).trans (h i hi j u hu).2⟩
theorem idx_ne {i k j j' sz : Nat} (h : i ≠ k) (hj : j < sz) (hj' : j' < sz) : i * sz + j' ≠ k * sz + j := by
  rcases Nat.lt_or_gt_of_ne h with h | h
  · have := Nat.mul_le_mul_right sz (show i + 1 ≤ k from h)
    rw [Nat.add_mul] at this
    omega
  · have := Nat.mul_le_mul_right sz (show k + 1 ≤ i from h)
    rw [Nat.add_mul] at this
    omega
theorem clG_lt (hcl : ∀ a, (cl a).length = sz) {e : α} {j : Nat} {u : Value} (h : (cl e)[j]? = some u) : j < sz := by
  rcases Nat.lt_or_ge j sz with h' | h'
  · exact h'
  · rw [List.getElem?_eq_none (by rw [hcl]; exact h')] at h
    cases h
/-- One cell of one element is written. -/
theorem RwZ.cell (hcl : ∀ a, (cl a).length = sz) (h : RwZ sz cl w b off n f) (hk : k < n) (j : Nat) (hj : j < sz) (u : Value) (e' : α) (he : cl e' = (cl (f k)).set j u) : RwZ sz cl (w.setCell ⟨b, off + k * sz + j, none⟩ u) b off n (putZ f k e') := fun i hi j' u' hu => by
  unfold putZ at hu
  split at hu
  · rename_i e
    subst e
    rw [he] at hu
    by_cases e : j' = j
    · subst e
      rw [List.getElem?_set_self (by rw [hcl]; exact hj)] at hu
      cases hu
      obtain ⟨h1, h2⟩ := h i hi j' _ (List.getElem?_eq_getElem (by rw [hcl]; exact hj))
      exact ⟨World.cell?_setCell_same _ _ _ h1, (World.frozen?_setCell _ _ _ _).trans h2⟩
    · rw [List.getElem?_set_ne (by omega)] at hu
      obtain ⟨h1, h2⟩ := h i hi j' _ hu
      exact ⟨set_other h1 (by omega), (World.frozen?_setCell _ _ _ _).trans h2⟩
  · rename_i e
    have hj' := clG_lt hcl hu
    have := idx_ne e hj hj'
    obtain ⟨h1, h2⟩ := h i hi j' _ hu
    exact ⟨set_other h1 (by omega), (World.frozen?_setCell _ _ _ _).trans h2⟩
/-- What is written so reads as a list. -/
theorem RwZ.own {cap : Nat} {es : List α} (h : RwZ sz cl w b off n f) (hn : n = es.length) (hf : ∀ i (hi : i < es.length), f i = es[i]) (hb : base ≤ b) (hl : es.length ≤ 9223372036854775807) (hc : es.length ≤ cap ∧ cap ≤ 9223372036854775807) : OwnRw sz cl w base (.slice (some ⟨b, off, none⟩) es.length cap) es := by
  refine ⟨hl, some ⟨b, off, none⟩, cap, rfl, hc, .inr ⟨b, off, rfl, hb, fun i hi j u hu => ?_⟩⟩
  subst hn
  exact h i hi j u (by rw [hf i hi]; exact hu)
/-- What is owned may be written so. -/
theorem OwnRw.rwZ {cap : Nat} {a : Option Addr} {es : List α} (z : α) (h : OwnRw sz cl w base (.slice a n cap) es) (hp : 0 < es.length) : ∃ b off, a = some ⟨b, off, none⟩ ∧ base ≤ b ∧ RwZ sz cl w b off es.length (fun i => es.getD i z) := by
  obtain ⟨-, a', cap', e, -, h⟩ := h
  cases e
  obtain ⟨b, off, rfl, hb, hc⟩ := orR_of_lt h hp
  refine ⟨b, off, rfl, hb, fun i hi j u hu => hc i hi j u ?_⟩
  dsimp only at hu
  rw [List.getD_eq_getElem?_getD, List.getElem?_eq_getElem hi] at hu
  exact hu
/-- The cells of one element of a slice that is read. -/
theorem Rw.elG {a : Option Addr} {cap : Nat} {es : List α} (h : Rw sz cl w (.slice a n cap) es) (hk : k < es.length) : ∃ b off, a = some ⟨b, off, none⟩ ∧ ∀ i (hi : i < es.length) j u, (cl es[i])[j]? = some u → w.cell? ⟨b, off + i * sz + j, none⟩ = some u := by
  obtain ⟨-, a', cap', e, -, h⟩ := h
  cases e
  exact orR_of_lt h hk
theorem OwnRw.ltZ {v : Value} {m : List α} (hcl : ∀ a, (cl a).length = sz) (hp : 0 < sz) (h : OwnRw sz cl w base v m) : m = [] ∨ blockOf v < w.heap.size := by
  obtain ⟨-, a, cap, rfl, -, h⟩ := h
  rcases h with h | ⟨b, off, rfl, hb, hc⟩
  · exact .inl h
  · rcases Nat.eq_zero_or_pos m.length with h1 | h1
    · exact .inl (List.length_eq_zero_iff.1 h1)
    · exact .inr (dCell_lt (hc 0 h1 0 _ (List.getElem?_eq_getElem (by rw [hcl]; exact hp))).1)
theorem OwnRw.geZ {v : Value} {m : List α} (h : OwnRw sz cl w base v m) : m = [] ∨ base ≤ blockOf v := by
  obtain ⟨-, a, cap, rfl, -, h⟩ := h
  rcases h with h | ⟨b, off, rfl, hb, hc⟩
  · exact .inl h
  · exact .inr hb
theorem OwnRw.farZ {b' o : Nat} {v : Value} {m : List α} (h : OwnRw sz cl w base v m) (hb : b' < base) (u : Value) : OwnRw sz cl (w.setCell ⟨b', o, none⟩ u) base v m := by
  obtain ⟨h0, a, cap, rfl, hcap, h⟩ := h
  refine ⟨h0, a, cap, rfl, hcap, ?_⟩
  rcases h with h | ⟨b', off, rfl, hb', hc⟩
  · exact .inl h
  · exact .inr ⟨b', off, rfl, hb', fun i hi j u' hu => ⟨set_other (hc i hi j u' hu).1 (.inl (by omega)), (World.frozen?_setCell _ _ _ _).trans (hc i hi j u' hu).2⟩⟩
/-- In a block of lo .. hi - 1. -/
def OwG (sz : Nat) (cl : α → List Value) (lo hi : Nat) (v : Value) (m : List α) (W : World) : Prop := OwnRw sz cl W lo v m ∧ (m = [] ∨ blockOf v < hi)
theorem OwG.sits {lo hi : Nat} {v : Value} {m : List α} (h : OwG sz cl lo hi v m w) (hf : hi ≤ w.heap.size) : Sits (OwG sz cl lo hi v m) lo hi w := by
  refine ⟨hf, fun W hW => ⟨?_, h.2⟩⟩
  obtain ⟨⟨h0, a, cap, rfl, hcap, h⟩, hl⟩ := h
  refine ⟨h0, a, cap, rfl, hcap, ?_⟩
  rcases hl with hl | hl
  · exact .inl hl
  · rcases h with h | ⟨b, off, rfl, hb, hc⟩
    · exact .inl h
    · have e := hW b hb hl
      exact .inr ⟨b, off, rfl, hb, fun i hi j u hu => ⟨(World.cell?_of_block (a := ⟨b, off + i * sz + j, none⟩) e).trans (hc i hi j u hu).1, (World.frozen?_of_block (a := ⟨b, off + i * sz + j, none⟩) e).trans (hc i hi j u hu).2⟩⟩
theorem OwG.wide {lo hi lo' hi' : Nat} {v : Value} {m : List α} (h : OwG sz cl lo hi v m w) (h1 : lo' ≤ lo) (h2 : hi ≤ hi') : OwG sz cl lo' hi' v m w := ⟨h.1.mono h1, h.2.elim .inl fun h => .inr (by omega)⟩
/-- Zero elements. -/
theorem RwZ.made {T : TypeId} (z : Value) (e : α) (hz : z.cells.toList = cl e) (hcl : ∀ a, (cl a).length = sz) (w : World) (n : Nat) : RwZ sz cl (w.alloc (.cells (madeCells z.cells (n * sz)) T)) w.heap.size 0 n (fun _ => e) := fun i hi j u hu => by
  have hj := clG_lt hcl hu
  have hm := MapKept.heap_alloc w (.cells (madeCells z.cells (n * sz)) T)
  have hs : z.cells.size = sz := by rw [← Array.length_toList, hz, hcl]
  have hlt : i * sz + j < n * sz := by
    have := Nat.mul_le_mul_right sz (show i + 1 ≤ n from hi)
    rw [Nat.add_mul] at this
    omega
  refine ⟨?_, ?_⟩
  · simp only [World.cell?, hm.1]
    rw [Nat.zero_add]
    have hu' : z.cells[j]? = some u := by rw [← Array.getElem?_toList, hz]; exact hu
    have h1 : (i * sz + j) % sz = j := by rw [Nat.mul_comm, Nat.mul_add_mod, Nat.mod_eq_of_lt hj]
    simp [madeCells, hlt, hs, h1, hu', getElem!_def]
  · simp only [World.frozen?, hm.1]
    simp
end
end Go.Proofs.YthndkkjgjhgdnaaDoor
