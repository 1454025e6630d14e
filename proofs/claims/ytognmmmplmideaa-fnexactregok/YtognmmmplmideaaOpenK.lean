/- Slices of elements of several cells, among a law's arguments. -/
import Derived.Test.YtognmmmplmideaaOpenA
import Derived.Test.YtognmmmplmideaaRwP
namespace Go.Proofs.Ytognmmmplmideaa
open Go.ChangeShapes Go.WideShapes Go.ChangeAt Go.RowKit
set_option linter.unusedVariables false
set_option maxRecDepth 100000
variable {H : Type} {enc : TypeId × Value → H} {W : World} {r : Reach} {b0 base : Nat} {sp : Nat → Bool} {held : Bool} {v : Value} {d : DataW H} {p : List MemPlace}

theorem cells_get {w : World} {base n : Nat} {a : Addr} {cs : List Value} (h : w.cells? base a n = some cs) : ∀ j u, cs[j]? = some u → w.cell? (a.add j) = some u := by
  unfold World.cells? at h
  split at h
  · intro j u hu
    have hl : cs.length = n := by simpa using mapM_some_length h
    have hj : j < n := by rw [← hl]; exact (List.getElem?_eq_some_iff.1 hu).1
    rw [mapM_some_get h j j (by simp [hj])]
    exact hu
  · cases h
/-- A slice of elements of several cells, as the frame tells it. -/
theorem rows_read {α : Type} {cl : α → List Value} {sz : Nat} {T TS : TypeId} {good : α → Prop} (ht : Try.prog.underlying TS = some (.slice T)) (hc : Try.prog.cellsOf T = sz) (hs : 0 < sz) (hcl : ∀ a, (cl a).length = sz)
    (hel : ∀ n cs x, DataW.trod enc Try.prog W base sp held n T cs = some x → ∃ a, cs = cl a ∧ good a)
    {fuel : Nat} {cs : List Value} {x : DataW H × List MemPlace} (h : DataW.trod enc Try.prog W base sp held fuel TS cs = some x) : ∃ sv ms, cs = [sv] ∧ Rw sz cl W sv ms ∧ ∀ m ∈ ms, good m := by
  rcases DataW.trod_slice ht h with ⟨rfl, _⟩ | ⟨a, len, cap, elems, rest, n, _, rfl, _, _, hl, hm, hlen, he, _⟩
  · exact ⟨_, [], rfl, Rw.nil _ _ _ (by omega), fun m h => by cases h⟩
  · have hmx : maxLen = 9223372036854775807 := rfl
    have each : ∀ i, i < len → ∃ m, good m ∧ ∀ j u, (cl m)[j]? = some u → W.cell? ((a.add (i * sz)).add j) = some u := fun i hi => by
      have h1 := he i hi
      rw [List.getElem?_eq_getElem (by omega), Option.bind_eq_some_iff] at h1
      obtain ⟨c1, hc1, hy⟩ := h1
      obtain ⟨m, rfl, hg⟩ := hel _ _ _ hy
      rw [hc] at hc1
      exact ⟨m, hg, cells_get hc1⟩
    have all : ∀ k, k ≤ len → ∃ ms : List α, ms.length = k ∧ (∀ m ∈ ms, good m) ∧ ∀ i (hi : i < ms.length) j u, (cl ms[i])[j]? = some u → W.cell? ((a.add (i * sz)).add j) = some u := by
      intro k
      induction k with
      | zero => exact fun _ => ⟨[], rfl, (fun m h => by cases h), fun i hi => by simp at hi⟩
      | succ k ih =>
        intro hk
        obtain ⟨ms, h1, h2, h3⟩ := ih (by omega)
        obtain ⟨m, g, hcm⟩ := each k (by omega)
        refine ⟨ms ++ [m], by simp [h1], fun y hy => ?_, fun i hi j u hu => ?_⟩
        · rcases List.mem_append.1 hy with hy | hy
          · exact h2 y hy
          · obtain rfl : y = m := by simpa using hy
            exact g
        · by_cases e : i < ms.length
          · rw [List.getElem_append_left e] at hu
            exact h3 i e j u hu
          · have e2 : i = k := by simp at hi; omega
            subst e2
            rw [List.getElem_append_right (by omega)] at hu
            have e3 : i - ms.length = 0 := by omega
            simp only [e3, List.getElem_cons_zero] at hu
            exact hcm j u hu
    obtain ⟨ms, h1, h2, h3⟩ := all len (Nat.le_refl _)
    refine ⟨_, ms, rfl, ⟨by omega, some a, cap, by rw [h1], by omega, ?_⟩, h2⟩
    rcases Nat.eq_zero_or_pos len with h0 | h0
    · exact .inl (List.length_eq_zero_iff.1 (by omega))
    · have hp0 : 0 < ms.length := by omega
      obtain ⟨u, hu⟩ : ∃ u, (cl ms[0])[0]? = some u := ⟨_, List.getElem?_eq_getElem (by rw [hcl ms[0]]; exact hs)⟩
      have c0 := h3 0 hp0 0 u hu
      obtain ⟨b, off, spot⟩ := a
      have hspot : spot = none := by simpa [Addr.add] using World.cell?_spot c0
      subst hspot
      exact .inr ⟨b, off, rfl, fun i hi j u hu => by have := h3 i hi j u hu; rw [Go.WideShapes.add_plain, Go.WideShapes.add_plain] at this; exact this⟩
end Go.Proofs.Ytognmmmplmideaa
