/- impl's words of which a node is forgotten: slices.DeleteFunc on ints. -/
import Derived.Test.YtjbfpmackocgnaaWrJ
import Derived.Test.YtjbfpmackocgnaaWrM
import Derived.Laws.IdiomCopy
import Derived.Lib.SliceRun
namespace Go.Proofs.Ytjbfpmackocgnaa
open Go.ChangeShapes Go.WideShapes Go.ChangeAt Go.RowKit
set_option linter.unusedVariables false
set_option linter.unusedSimpArgs false
set_option maxRecDepth 100000

theorem grown_trans {w w1 w2 : World} {b : Nat} (h : w.grownBy w1 (some b)) (h' : w1.grownBy w2 (some b)) : w.grownBy w2 (some b) :=
  ⟨h'.os.trans h.os, h'.tape.trans h.tape, h'.output.trans h.output, Nat.le_trans h.size h'.size, fun k hk hn => (h'.block k (Nat.lt_of_lt_of_le hk h.size) hn).trans (h.block k hk hn)⟩
theorem grown_refl (w : World) (row : Option Nat) : w.grownBy w row := ⟨rfl, rfl, rfl, Nat.le_refl _, fun _ _ _ => rfl⟩
theorem grown_sets (b : Nat) : ∀ (vs : List Value) (o : Nat) (w : World), w.grownBy (w.setCells b o vs) (some b)
  | [], o, w => grown_refl w _
  | v :: vs, o, w => grown_trans (grown_set w b o v) (grown_sets b vs (o + 1) _)
/-- One int of an owned list is another. -/
theorem OwnN.store {w : World} {base b off n cap k : Nat} {xs : List Int} (h : OwnN w base (.slice (some ⟨b, off, none⟩) n cap) xs) (hk : k < xs.length) (z : Int) : OwnN (w.setCell ⟨b, off + k, none⟩ (.int .i64 z)) base (.slice (some ⟨b, off, none⟩) n cap) (xs.set k z) := by
  obtain ⟨h0, a, c, e, hcap, h⟩ := h
  simp only [Value.slice.injEq] at e
  obtain ⟨rfl, rfl, rfl⟩ := e
  refine ⟨by simpa using h0, _, _, by rw [List.length_set], by simpa using hcap, ?_⟩
  rcases h with h | ⟨b', off', e, hb, hc⟩
  · subst h; simp at hk
  · cases e
    refine .inr ⟨b, off, rfl, hb, fun i hi => ?_⟩
    have hi2 : i < xs.length := by simpa using hi
    rw [List.getElem_set]
    by_cases e : i = k
    · subst e
      rw [if_pos rfl]
      exact ⟨World.cell?_setCell_same _ _ _ (hc i hi2).1, (World.frozen?_setCell _ _ _ _).trans (hc i hi2).2⟩
    · rw [if_neg (Ne.symm e)]
      exact ⟨set_other (hc i hi2).1 (.inr (by omega)), (World.frozen?_setCell _ _ _ _).trans (hc i hi2).2⟩
/-- The head of an owned list, behind which zeros are written. -/
theorem OwnN.cut {w : World} {base b off n cap k : Nat} {xs : List Int} (h : OwnN w base (.slice (some ⟨b, off, none⟩) n cap) xs) (hk : k ≤ xs.length) (vs : List Value) (hv : off + k + vs.length ≤ off + xs.length) : OwnN (w.setCells b (off + k) vs) base (.slice (some ⟨b, off, none⟩) k cap) (xs.take k) := by
  obtain ⟨h0, a, c, e, hcap, h⟩ := h
  simp only [Value.slice.injEq] at e
  obtain ⟨rfl, rfl, rfl⟩ := e
  have hl : (xs.take k).length = k := by rw [List.length_take]; omega
  refine ⟨by omega, _, _, by rw [hl], by omega, ?_⟩
  rcases h with h | ⟨b', off', e, hb, hc⟩
  · left; rw [h]; simp
  · cases e
    refine .inr ⟨b, off, rfl, hb, fun i hi => ?_⟩
    have hi2 : i < xs.length := by omega
    rw [List.getElem_take]
    exact ⟨(World.cell?_setCells_out b vs (off + k) w ⟨b, off + i, none⟩ (fun _ _ => .inl (by simp only; omega))).trans (hc i hi2).1, (World.frozen?_setCells b vs (off + k) w _).trans (hc i hi2).2⟩
theorem OwnN.at_ {w : World} {base b off n cap : Nat} {xs : List Int} (h : OwnN w base (.slice (some ⟨b, off, none⟩) n cap) xs) {k : Nat} (hk : k < xs.length) : w.cell? ⟨b, off + k, none⟩ = some (.int .i64 xs[k]) ∧ w.frozen? ⟨b, off + k, none⟩ = false := by
  obtain ⟨h0, a, c, e, hcap, h⟩ := h
  simp only [Value.slice.injEq] at e
  obtain ⟨rfl, rfl, rfl⟩ := e
  rcases h with h | ⟨b', off', e, hb, hc⟩
  · subst h; simp at hk
  · cases e
    exact hc k hk
theorem lessL_same {xs : List Int} {x : Int} (h : x ∉ xs) : lessL xs [x] = xs := by
  unfold lessL
  rw [List.filter_eq_self]
  intro a ha
  have : a ≠ x := fun e => h (e ▸ ha)
  simp [this]
theorem lessL_head {xs : List Int} {x : Int} {k : Nat} (h : ∀ i (h : i < xs.length), i < k → xs[i] ≠ x) : lessL (xs.take k) [x] = xs.take k := lessL_same fun hm => by
  obtain ⟨i, hi, e⟩ := List.mem_iff_getElem.1 hm
  rw [List.length_take] at hi
  rw [List.getElem_take] at e
  exact h i (by omega) (by omega) e
/-- What DeleteFunc has done up to j. -/
def DelS (x : Int) (xs : List Int) (i j : Nat) (ys : List Int) : Prop := ys.length = xs.length ∧ i = (lessL (xs.take j) [x]).length ∧ i < j ∧ j ≤ xs.length ∧ ys.take i = lessL (xs.take j) [x] ∧ ∀ t (h : t < xs.length) (h' : t < ys.length), j ≤ t → ys[t] = xs[t]
theorem DelS.start {x : Int} {xs : List Int} {k : Nat} (hk : k < xs.length) (h : ∀ i (h : i < xs.length), i < k → xs[i] ≠ x) (hx : xs[k] = x) : DelS x xs k (k + 1) xs := by
  have e1 := lessL_yes xs [x] k hk (by simp [hx])
  have e2 := lessL_head (k := k) h
  refine ⟨rfl, ?_, by omega, by omega, ?_, fun t _ _ _ => rfl⟩
  · rw [e1, e2, List.length_take]; omega
  · rw [e1, e2]
theorem DelS.skip {x : Int} {xs ys : List Int} {i j : Nat} (h : DelS x xs i j ys) (hj : j < xs.length) (hx : xs[j] = x) : DelS x xs i (j + 1) ys := by
  obtain ⟨h1, h2, h3, h4, h5, h6⟩ := h
  have e1 := lessL_yes xs [x] j hj (by simp [hx])
  exact ⟨h1, by rw [e1]; exact h2, by omega, by omega, by rw [e1]; exact h5, fun t ht ht' hjt => h6 t ht ht' (by omega)⟩
theorem DelS.keep {x : Int} {xs ys : List Int} {i j : Nat} (h : DelS x xs i j ys) (hj : j < xs.length) (hx : xs[j] ≠ x) : DelS x xs (i + 1) (j + 1) (ys.set i xs[j]) := by
  obtain ⟨h1, h2, h3, h4, h5, h6⟩ := h
  have e1 := lessL_no xs [x] j hj (by simp [hx])
  refine ⟨by rw [List.length_set]; exact h1, by rw [e1, List.length_append, ← h2]; rfl, by omega, by omega, ?_, fun t ht ht' hjt => ?_⟩
  · rw [e1, ← h5, List.take_succ_eq_append_getElem (by rw [List.length_set]; omega), List.getElem_set_self, List.take_set_of_le (Nat.le_refl _)]
  · rw [List.getElem_set_ne (by omega)]
    exact h6 t ht (by rw [List.length_set] at ht'; exact ht') (by omega)
end Go.Proofs.Ytjbfpmackocgnaa
