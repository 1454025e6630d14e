/- Plain lemmas on domains: what spans how much; what holds and what is enough share a node. -/
import Derived.Test.YtognmmmplmideaaDomG
namespace Go.Proofs.Ytognmmmplmideaa

theorem len_le_of_sub {l : List Int} (hn : l.Nodup) : ∀ m : List Int, (∀ x ∈ l, x ∈ m) → l.length ≤ m.length := by
  induction l with
  | nil => intro m _; simp
  | cons a l ih =>
    intro m hs
    obtain ⟨s, t, rfl⟩ := List.append_of_mem (hs a (List.mem_cons_self ..))
    have hna : a ∉ l := (List.nodup_cons.1 hn).1
    have := ih (List.nodup_cons.1 hn).2 (s ++ t) (fun x hx => by
      have hxa : x ≠ a := fun e => hna (e ▸ hx)
      have h1 := hs x (List.mem_cons_of_mem _ hx)
      simp only [List.mem_append, List.mem_cons] at h1 ⊢
      rcases h1 with h1 | h1 | h1
      · exact .inl h1
      · exact absurd h1 hxa
      · exact .inr h1)
    simp only [List.length_append, List.length_cons] at this ⊢
    omega
theorem mem_addD {acc : List Int} {d x : Int} : x ∈ addD acc d ↔ x ∈ acc ∨ x = d := by
  unfold addD
  by_cases h : acc.contains d = true
  · rw [if_pos h]
    have h' : d ∈ acc := by simpa using h
    constructor
    · exact .inl
    · rintro (h1 | rfl)
      · exact h1
      · exact h'
  · rw [if_neg h]
    simp
theorem nodup_addD {acc : List Int} {d : Int} (h : acc.Nodup) : (addD acc d).Nodup := by
  unfold addD
  by_cases hc : acc.contains d = true
  · rw [if_pos hc]; exact h
  · rw [if_neg hc]
    have h' : d ∉ acc := by simpa using hc
    refine List.nodup_append.2 ⟨h, by simp, ?_⟩
    intro a ha b hb e
    rw [List.mem_singleton.1 hb] at e
    exact h' (e ▸ ha)
theorem foldl_addD (l : List Int) : ∀ acc : List Int, (acc.Nodup → (l.foldl addD acc).Nodup) ∧ ∀ x, x ∈ l.foldl addD acc ↔ x ∈ acc ∨ x ∈ l := by
  induction l with
  | nil => intro acc; exact ⟨fun h => h, fun x => by simp⟩
  | cons a l ih =>
    intro acc
    obtain ⟨h1, h2⟩ := ih (addD acc a)
    refine ⟨fun h => h1 (nodup_addD h), fun x => ?_⟩
    rw [List.foldl_cons, h2 x, mem_addD, List.mem_cons, or_assoc]
theorem domsOf_nodup (ds xs : List Int) : (domsOf ds xs).Nodup := (foldl_addD _ []).1 List.nodup_nil
theorem mem_domsOf {ds xs : List Int} {d : Int} : d ∈ domsOf ds xs ↔ ∃ x ∈ xs, domAt ds x = d := by
  unfold domsOf
  rw [(foldl_addD _ []).2 d]
  simp
theorem spanN_mono {ds xs ys : List Int} (h : ∀ x ∈ xs, x ∈ ys) : spanN ds xs ≤ spanN ds ys := by
  refine len_le_of_sub (domsOf_nodup ds xs) _ fun d hd => ?_
  obtain ⟨x, hx, rfl⟩ := mem_domsOf.1 hd
  exact mem_domsOf.2 ⟨x, h x hx, rfl⟩
theorem spanN_le_len (ds xs : List Int) : spanN ds xs ≤ xs.length := by
  have := domsOf_len ds xs xs.length (Nat.le_refl _)
  rw [List.take_length] at this
  exact this
theorem spanN_more (ds xs : List Int) (y : Int) : spanN ds (xs ++ [y]) = spanN ds xs ∨ spanN ds (xs ++ [y]) = spanN ds xs + 1 := by
  have e : domsOf ds (xs ++ [y]) = addD (domsOf ds xs) (domAt ds y) := by
    unfold domsOf; rw [List.map_append, List.foldl_append]; rfl
  unfold spanN
  rw [e]
  unfold addD
  split
  · exact .inl rfl
  · exact .inr (by simp)
theorem mem_lessL {set list : List Int} {x : Int} : x ∈ lessL set list ↔ x ∈ set ∧ ¬ x ∈ list := by
  unfold lessL
  simp
/-- What holds and what is enough of one set have a node in common. -/
theorem meet_node {ds set list part : List Int} {cop : Int} (he : enoughP ds cop set list) (hh : holdsP ds cop part) (hp : ∀ x ∈ part, x ∈ set) : ∃ x ∈ part, x ∈ list := by
  rcases Classical.em (∃ x ∈ part, x ∈ list) with h | h
  · exact h
  · exfalso
    have hs : ∀ x ∈ part, x ∈ lessL set list := fun x hx => mem_lessL.2 ⟨hp x hx, fun hl => h ⟨x, hx, hl⟩⟩
    have h1 := spanN_mono (ds := ds) hs
    have h2 := hh.2
    have h3 := he.2.2.2
    omega
theorem lessL_self (set : List Int) : lessL set set = [] := lessL_nil.2 fun _ h => h
theorem enough_self {ds set : List Int} {cop : Int} (h : holdsP ds cop set) : enoughP ds cop set set := by
  refine ⟨h, h.1, lessL_self set, ?_⟩
  rw [lessL_self]
  have hc := h.1.1.2.1.1
  show ((domsOf ds []).length : Int) < cop
  have : (domsOf ds []).length = 0 := rfl
  omega
theorem rest_not_holds {ds set list : List Int} {cop : Int} (h : enoughP ds cop set list) : ¬ holdsP ds cop (lessL set list) := fun k => by
  have h1 := k.2
  have h2 := h.2.2.2
  omega
theorem nodes_filter {ds set : List Int} {cop : Int} (h : nodesP ds cop set) (f : Int → Bool) : nodesP ds cop (set.filter f) := ⟨h.1, ascP_filter h.2 f⟩
/-- A list with the last node more. -/
theorem nodes_more {ds xs : List Int} {cop : Int} (h : nodesP ds cop xs) (hl : xs = [] ∨ xs.getLast? ≠ some ((ds.length : Int) - 1)) : nodesP ds cop (xs ++ [(ds.length : Int) - 1]) := by
  refine ⟨h.1, (ascP_iff _ _ _).2 ?_⟩
  obtain ⟨h1, h2⟩ := (ascP_iff _ _ _).1 h.2
  have hd := h.1.1.1
  refine ⟨List.pairwise_append.2 ⟨h1, by simp, ?_⟩, ?_⟩
  · intro x hx y hy
    rw [List.mem_singleton.1 hy]
    have hb := h2 x hx
    rcases Int.lt_or_le x ((ds.length : Int) - 1) with h3 | h3
    · exact h3
    · exfalso
      have hxe : x = (ds.length : Int) - 1 := by omega
      subst hxe
      obtain ⟨s, t, rfl⟩ := List.append_of_mem hx
      cases t with
      | nil =>
        rcases hl with hl | hl
        · simp at hl
        · exact hl (by simp)
      | cons z t =>
        have hz := h2 z (by simp)
        have hlt : (ds.length : Int) - 1 < z := by
          have := (List.pairwise_append.1 h1).2.1
          exact (List.pairwise_cons.1 this).1 z (List.mem_cons_self ..)
        omega
  · intro x hx
    rcases List.mem_append.1 hx with h3 | h3
    · exact h2 x h3
    · rw [List.mem_singleton.1 h3]; omega
end Go.Proofs.Ytognmmmplmideaa
