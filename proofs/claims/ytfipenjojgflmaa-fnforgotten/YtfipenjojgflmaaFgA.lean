/- What is left when a node is forgotten. -/
import Derived.Test.YtfipenjojgflmaaWrP
import Derived.Test.YtfipenjojgflmaaGaC
namespace Go.Proofs.Ytfipenjojgflmaa
open Go.ChangeShapes Go.WideShapes Go.ChangeAt Go.RowKit
set_option linter.unusedVariables false

theorem forg_sure (x : Int) : ∀ ms : List Wd, sureL (ms.map (forgW x)) = sureL ms
  | [] => rfl
  | e :: l => by
    have ih := forg_sure x l
    simp only [List.map_cons, sureL, ih]
    rfl
theorem forg_open (x : Int) (ms : List Wd) : openN (ms.map (forgW x)) = openN ms := by
  unfold openN
  rw [List.countP_map]
  rfl
theorem lessL_sub {xs : List Int} {x : Int} : ∀ z ∈ lessL xs [x], z ∈ xs := fun z hz => (List.mem_filter.1 hz).1
theorem lessL_not {xs : List Int} {x : Int} : x ∉ lessL xs [x] := fun h => by
  unfold lessL at h
  have := (List.mem_filter.1 h).2
  simp at this
theorem forg_word {ds : List Int} {cop x : Int} {e : Wd} (h : wdP ds cop e) : wdP ds cop (forgW x e) := by
  cases hd : e.done with
  | true => rw [forgW_done hd]; exact h
  | false =>
    rw [forgW_open hd]
    have hn : nodesP ds cop (lessL e.acks [x]) := ⟨h.2.1.1, ascP_filter h.2.1.2 _⟩
    refine ⟨h.1, hn, ⟨fun hh => ?_, fun hh => by cases hh⟩⟩
    have := h.2.2.1 ⟨h.2.1, by have q := hh.2; simp only at q; have r := spanN_mono (ds := ds) (lessL_sub (xs := e.acks) (x := x)); omega⟩
    rw [hd] at this
    cases this
theorem forg_wr {ds : List Int} {cop x : Int} {m : Wt} (h : wrP ds cop m) : wrP ds cop ⟨m.epoch, m.words.map (forgW x)⟩ := by
  rw [wrP_iff] at h ⊢
  obtain ⟨h1, h2, h3, h4, h5⟩ := h
  refine ⟨h1, h2, by simpa using h3, fun e he => ?_, by rw [forg_open]; exact h5⟩
  obtain ⟨e', he', rfl⟩ := List.mem_map.1 he
  exact forg_word (h4 e' he')
end Go.Proofs.Ytfipenjojgflmaa
