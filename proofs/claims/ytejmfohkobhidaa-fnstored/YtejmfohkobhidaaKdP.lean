/- What is kept, and found again: pure (off UnF). -/
import Derived.Test.YtejmfohkobhidaaUnA
namespace Go.Proofs.Ytejmfohkobhidaa
set_option linter.unusedVariables false

theorem keepL_dom {e x : Ent} : ∀ {acc : List Ent}, x ∈ acc ∨ x = e → ∃ o ∈ keepL e acc, o.pl = x.pl ∧ x.wave ≤ o.wave := by
  intro acc
  induction acc with
  | nil =>
    rintro (h | rfl)
    · cases h
    · exact ⟨x, by simp [keepL], rfl, by omega⟩
  | cons a l ih =>
    intro h
    rcases Int.lt_trichotomy a.pl e.pl with h1 | h1 | h1
    · rw [keepL_lt h1]
      rcases h with h | rfl
      · rcases List.mem_cons.1 h with rfl | h
        · exact ⟨x, by simp, rfl, by omega⟩
        · obtain ⟨o, ho, q⟩ := ih (.inl h)
          exact ⟨o, by simp [ho], q⟩
      · obtain ⟨o, ho, q⟩ := ih (.inr rfl)
        exact ⟨o, by simp [ho], q⟩
    · rw [keepL_eq h1]
      have hb : a.wave ≤ (better a e).wave ∧ e.wave ≤ (better a e).wave := by
        unfold better
        split <;> omega
      rcases h with h | rfl
      · rcases List.mem_cons.1 h with rfl | h
        · exact ⟨better x e, by simp, better_pl h1, hb.1⟩
        · exact ⟨x, by simp [h], rfl, by omega⟩
      · exact ⟨better a x, by simp, by rw [better_pl h1]; exact h1, hb.2⟩
    · rw [keepL_gt h1]
      rcases h with h | rfl
      · exact ⟨x, by simp [List.mem_cons.1 h], rfl, by omega⟩
      · exact ⟨x, by simp, rfl, by omega⟩
theorem asc_one {l : List Ent} (h : ascQ l) {a b : Ent} (ha : a ∈ l) (hb : b ∈ l) (e : a.pl = b.pl) : a = b := by
  obtain ⟨i, hi, rfl⟩ := List.getElem_of_mem ha
  obtain ⟨j, hj, rfl⟩ := List.getElem_of_mem hb
  rcases Nat.lt_trichotomy i j with h1 | h1 | h1
  · have := List.pairwise_iff_getElem.1 h i j hi hj h1
    omega
  · subst h1; rfl
  · have := List.pairwise_iff_getElem.1 h j i hj hi h1
    omega
theorem getL_of {l : List Ent} {x : Int} {e : Ent} (h : getL l x = some e) : e ∈ l ∧ e.pl = x := by
  unfold getL at h
  exact ⟨List.mem_of_find?_eq_some h, by simpa using List.find?_some h⟩
theorem getL_in {l : List Ent} {e : Ent} (h : ascQ l) (he : e ∈ l) : getL l e.pl = some e := by
  unfold getL
  cases hf : l.find? (fun a => a.pl == e.pl) with
  | none => exact absurd (List.find?_eq_none.1 hf e he) (by simp)
  | some a =>
    have h1 := List.mem_of_find?_eq_some hf
    have h2 : a.pl = e.pl := by simpa using List.find?_some hf
    rw [asc_one h h1 he h2]
end Go.Proofs.Ytejmfohkobhidaa
