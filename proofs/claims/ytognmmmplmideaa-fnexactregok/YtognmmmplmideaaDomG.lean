/- spec's Enough. -/
import Derived.Test.YtognmmmplmideaaDomF
namespace Go.Proofs.Ytognmmmplmideaa
open Go.ChangeShapes Go.WideShapes Go.ChangeAt Go.RowKit
set_option linter.unusedVariables false

theorem ascP_lt {xs : List Int} {lo hi : Int} (h : ascP xs lo hi) : ∀ j i (hj : j < xs.length) (hij : i < j), xs[i]'(by omega) < xs[j] := by
  intro j
  induction j with
  | zero => intro i hj hij; omega
  | succ n ih =>
    intro i hj hij
    have h1 := (h (n + 1) hj).2.2 (by omega)
    simp only [Nat.add_sub_cancel] at h1
    rcases Nat.lt_or_ge i n with hlt | hge
    · have := ih i (by omega) hlt
      omega
    · obtain rfl : i = n := by omega
      exact h1
theorem ascP_iff (xs : List Int) (lo hi : Int) : ascP xs lo hi ↔ xs.Pairwise (· < ·) ∧ ∀ x ∈ xs, lo ≤ x ∧ x ≤ hi := by
  constructor
  · intro h
    refine ⟨List.pairwise_iff_getElem.2 fun i j hi' hj hij => ascP_lt h j i hj hij, fun x hx => ?_⟩
    obtain ⟨i, hi', rfl⟩ := List.getElem_of_mem hx
    exact ⟨(h i hi').1, (h i hi').2.1⟩
  · rintro ⟨h1, h2⟩ i hi'
    have hb := h2 xs[i] (List.getElem_mem hi')
    exact ⟨hb.1, hb.2, fun h' => List.pairwise_iff_getElem.1 h1 (i - 1) i (by omega) hi' (by omega)⟩
theorem ascP_filter {xs : List Int} {lo hi : Int} (h : ascP xs lo hi) (f : Int → Bool) : ascP (xs.filter f) lo hi := by
  rw [ascP_iff] at h ⊢
  exact ⟨h.1.filter f, fun x hx => h.2 x (List.mem_filter.1 hx).1⟩
theorem nodesP_less {ds set list : List Int} {cop : Int} (h : nodesP ds cop set) : nodesP ds cop (lessL set list) := ⟨h.1, ascP_filter h.2 _⟩
theorem lessL_nil {set list : List Int} : lessL set list = [] ↔ ∀ x ∈ set, x ∈ list := by
  rw [lessL, List.filter_eq_nil_iff]
  constructor
  · intro h x hx
    have := h x hx
    simpa using this
  · intro h x hx
    have := h x hx
    simp [this]
/-- What is enough. -/
def enoughP (ds : List Int) (cop : Int) (set list : List Int) : Prop := holdsP ds cop set ∧ nodesP ds cop list ∧ lessL list set = [] ∧ (spanN ds (lessL set list) : Int) < cop
end Go.Proofs.Ytognmmmplmideaa
