/- What is kept, and found again: pure (off UnF). -/
import Derived.Test.YtajoncomhdimnaaGreatUnA
namespace Go.Proofs.YtajoncomhdimnaaGreat
set_option linter.unusedVariables false

theorem asc_one {l : List Ent} (h : ascQ l) {a b : Ent} (ha : a ∈ l) (hb : b ∈ l) (e : a.pl = b.pl) : a = b := by
 obtain ⟨i, hi, rfl⟩ := List.getElem_of_mem ha
 obtain ⟨j, hj, rfl⟩ := List.getElem_of_mem hb
 rcases Nat.lt_trichotomy i j with h1 | h1 | h1
 ·have := List.pairwise_iff_getElem.1 h i j hi hj h1
  omega
 ·subst h1; rfl
 ·have := List.pairwise_iff_getElem.1 h j i hj hi h1
  omega
theorem getL_of {l : List Ent} {x : Int} {e : Ent} (h : getL l x = some e) : e ∈ l ∧ e.pl = x := by
 unfold getL at h
 exact ⟨List.mem_of_find?_eq_some h, by simpa using List.find?_some h⟩
theorem getL_in {l : List Ent} {e : Ent} (h : ascQ l) (he : e ∈ l) : getL l e.pl = some e := by
 unfold getL
 cases hf : l.find? (fun a => a.pl == e.pl) with
 | none => exact absurd (List.find?_eq_none.1 hf e he) (by simp)
 | some a =>
  have h1 := List.mem_of_find?_eq_some hf
  have h2 : a.pl = e.pl := by simpa using List.find?_some hf
  rw [asc_one h h1 he h2]
end Go.Proofs.YtajoncomhdimnaaGreat
