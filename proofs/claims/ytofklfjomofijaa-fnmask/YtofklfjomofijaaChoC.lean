/- What is chosen: the plain laws. -/
import Derived.Test.YtofklfjomofijaaChoB
namespace Go.Proofs.Ytofklfjomofijaa
open Go.ChangeShapes Go.WideShapes Go.ChangeAt Go.RowKit
set_option linter.unusedVariables false

theorem domsOf_snoc1 (ds ms : List Int) (x : Int) : domsOf ds (ms ++ [x]) = addD (domsOf ds ms) (domAt ds x) := by
  rw [domsOf, List.map_append, List.foldl_append]
  rfl
/-- A node of a domain that none has makes the span greater. -/
theorem span_snoc (ds ms : List Int) (x : Int) : spanN ds (ms ++ [x]) = if domAt ds x ∈ domsOf ds ms then spanN ds ms else spanN ds ms + 1 := by
  unfold spanN
  rw [domsOf_snoc1]
  unfold addD
  by_cases h : domAt ds x ∈ domsOf ds ms <;> simp [h]
theorem span_put (ds ms : List Int) (x : Int) : spanN ds (putA x ms) = spanN ds (ms ++ [x]) := by
  have h1 : spanN ds (putA x ms) ≤ spanN ds (ms ++ [x]) := spanN_mono fun y hy => by rcases mem_putA.1 hy with h | h <;> simp [h]
  have h2 : spanN ds (ms ++ [x]) ≤ spanN ds (putA x ms) := spanN_mono fun y hy => mem_putA.2 (by rcases List.mem_append.1 hy with h | h; exact .inr h; exact .inl (by simpa using h))
  omega
/-- One node more, if it is wanted. -/
def choStep (ds : List Int) (cop : Int) (acc : List Int) (x : Int) : List Int := if (acc.length : Int) < cop ∧ domAt ds x ∉ domsOf ds acc then putA x acc else acc
/-- What is chosen of nodes in this order. -/
def choL (ds : List Int) (cop : Int) (xs : List Int) : List Int := xs.foldl (choStep ds cop) []
/-- A list gone round from r on. -/
def rotL (xs : List Int) (r : Nat) : List Int := xs.drop r ++ xs.take r
/-- What is chosen. -/
def chooseL (ds : List Int) (cop : Int) (set : List Int) (frm : Nat) : List Int := choL ds cop (rotL set (frm % set.length))
theorem choL_take (ds : List Int) (cop : Int) (xs : List Int) (k : Nat) (h : k < xs.length) : choL ds cop (xs.take (k + 1)) = choStep ds cop (choL ds cop (xs.take k)) xs[k] := by
  rw [choL, List.take_succ_eq_append_getElem h, List.foldl_append]
  rfl
theorem rotL_len (xs : List Int) (r : Nat) : (rotL xs r).length = xs.length := by
  unfold rotL
  rw [List.length_append, List.length_drop, List.length_take]
  omega
theorem mem_rotL {xs : List Int} {r : Nat} {x : Int} : x ∈ rotL xs r ↔ x ∈ xs := by
  unfold rotL
  rw [List.mem_append]
  conv => rhs; rw [← List.take_append_drop r xs, List.mem_append]
  exact Or.comm
theorem rotL_get (xs : List Int) (r i : Nat) (hr : r < xs.length) (hi : i < (rotL xs r).length) : (rotL xs r)[i] = xs[(r + i) % xs.length]'(Nat.mod_lt _ (by omega)) := by
  have hi' : i < xs.length := by rw [← rotL_len xs r]; exact hi
  unfold rotL at hi ⊢
  by_cases h : i < xs.length - r
  · rw [List.getElem_append_left (by simpa using h), List.getElem_drop]
    congr 1
    rw [Nat.mod_eq_of_lt (by omega)]
  · rw [List.getElem_append_right (by simp; omega), List.getElem_take]
    congr 1
    rw [Nat.mod_eq_sub_mod (by omega), Nat.mod_eq_of_lt (by omega)]
    simp
    omega
/-- What choosing keeps. -/
def ChoInv (ds : List Int) (cop : Int) (set acc : List Int) : Prop := acc.Pairwise (· < ·) ∧ (∀ x ∈ acc, x ∈ set) ∧ spanN ds acc = acc.length ∧ (acc.length : Int) ≤ cop
theorem ChoInv.nil {ds set : List Int} {cop : Int} (h : 0 ≤ cop) : ChoInv ds cop set [] := ⟨List.Pairwise.nil, (fun x h => by cases h), rfl, by simpa using h⟩
theorem not_mem_of_dom {ds acc : List Int} {x : Int} (h : domAt ds x ∉ domsOf ds acc) : x ∉ acc := fun hx => h (mem_domsOf.2 ⟨x, hx, rfl⟩)
theorem ChoInv.step {ds set acc : List Int} {cop x : Int} (h : ChoInv ds cop set acc) (hx : x ∈ set) : ChoInv ds cop set (choStep ds cop acc x) := by
  unfold choStep
  split
  · rename_i hc
    obtain ⟨h1, h2, h3, h4⟩ := h
    refine ⟨putA_asc h1 (not_mem_of_dom hc.2), fun y hy => ?_, ?_, ?_⟩
    · rcases mem_putA.1 hy with rfl | hy
      · exact hx
      · exact h2 y hy
    · rw [span_put, span_snoc, if_neg hc.2, h3, putA_len]
    · rw [putA_len]
      have := hc.1
      omega
  · exact h
theorem choL_inv {ds set : List Int} {cop : Int} (hc : 0 ≤ cop) : ∀ (xs acc : List Int), (∀ x ∈ xs, x ∈ set) → ChoInv ds cop set acc → ChoInv ds cop set (xs.foldl (choStep ds cop) acc)
  | [], acc, _, h => h
  | x :: xs, acc, hs, h => choL_inv hc xs _ (fun y hy => hs y (by simp [hy])) (h.step (hs x (by simp)))
/-- What is enough already stays. -/
theorem choL_full {ds : List Int} {cop : Int} : ∀ (xs acc : List Int), cop ≤ (acc.length : Int) → xs.foldl (choStep ds cop) acc = acc
  | [], acc, _ => rfl
  | x :: xs, acc, h => by
    have e : choStep ds cop acc x = acc := if_neg fun hc => by have := hc.1; omega
    rw [List.foldl_cons, e]
    exact choL_full xs acc h
theorem choL_stop {ds xs : List Int} {cop : Int} (k : Nat) (h : cop ≤ ((choL ds cop (xs.take k)).length : Int)) : choL ds cop xs = choL ds cop (xs.take k) := by
  unfold choL at h ⊢
  conv => lhs; rw [← List.take_append_drop k xs, List.foldl_append]
  exact choL_full _ _ h
/-- Each domain that was met is there, or there are enough. -/
theorem choL_all {ds : List Int} {cop : Int} : ∀ (xs acc : List Int), (∀ x ∈ xs, domAt ds x ∈ domsOf ds (xs.foldl (choStep ds cop) acc)) ∧ (∀ d ∈ domsOf ds acc, d ∈ domsOf ds (xs.foldl (choStep ds cop) acc)) ∨ cop ≤ ((xs.foldl (choStep ds cop) acc).length : Int)
  | [], acc => .inl ⟨(fun x h => by cases h), fun d h => h⟩
  | x :: xs, acc => by
    rw [List.foldl_cons]
    have hsub : ∀ d ∈ domsOf ds acc, d ∈ domsOf ds (choStep ds cop acc x) := fun d hd => by
      unfold choStep
      split
      · obtain ⟨y, hy, rfl⟩ := mem_domsOf.1 hd
        exact mem_domsOf.2 ⟨y, mem_putA.2 (.inr hy), rfl⟩
      · exact hd
    rcases choL_all xs (choStep ds cop acc x) with ⟨h1, h2⟩ | h
    · by_cases hf : (acc.length : Int) < cop
      · have hx : domAt ds x ∈ domsOf ds (choStep ds cop acc x) := by
          by_cases hd : domAt ds x ∈ domsOf ds acc
          · exact hsub _ hd
          · unfold choStep
            rw [if_pos ⟨hf, hd⟩]
            exact mem_domsOf.2 ⟨x, mem_putA.2 (.inl rfl), rfl⟩
        refine .inl ⟨fun y hy => ?_, fun d hd => h2 d (hsub d hd)⟩
        rcases List.mem_cons.1 hy with rfl | hy
        · exact h2 _ hx
        · exact h1 y hy
      · right
        have e : choStep ds cop acc x = acc := if_neg fun hc => hf hc.1
        rw [e, choL_full xs acc (by omega)]
        omega
    · exact .inr h
/-- What is chosen of a set that holds. -/
theorem chooseL_right {ds set : List Int} {cop : Int} {frm : Nat} (h : holdsP ds cop set) :
    holdsP ds cop (chooseL ds cop set frm) ∧ (∀ x ∈ chooseL ds cop set frm, x ∈ set) ∧ ((chooseL ds cop set frm).length : Int) = cop ∧ (spanN ds (chooseL ds cop set frm) : Int) = cop := by
  have hc : 0 ≤ cop := by have := h.1.1.2.1; omega
  have hi : ChoInv ds cop set (chooseL ds cop set frm) := choL_inv hc _ [] (fun x hx => mem_rotL.1 hx) (ChoInv.nil hc)
  obtain ⟨h1, h2, h3, h4⟩ := hi
  have hlen : cop ≤ ((chooseL ds cop set frm).length : Int) := by
    rcases choL_all (ds := ds) (cop := cop) (rotL set (frm % set.length)) [] with ⟨k, -⟩ | k
    · have hs : spanN ds set ≤ spanN ds (chooseL ds cop set frm) := len_le_of_sub (domsOf_nodup ds set) _ fun d hd => by
        obtain ⟨x, hx, rfl⟩ := mem_domsOf.1 hd
        exact k x (mem_rotL.2 hx)
      have := h.2
      omega
    · exact k
  have hspan : (spanN ds (chooseL ds cop set frm) : Int) = cop := by rw [h3]; omega
  refine ⟨⟨⟨h.1.1, (ascP_iff _ _ _).2 ⟨h1, fun x hx => ((ascP_iff _ _ _).1 h.1.2).2 x (h2 x hx)⟩⟩, by omega⟩, h2, by omega, hspan⟩
end Go.Proofs.Ytofklfjomofijaa
