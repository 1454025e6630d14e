/- spec.WriterForget (printed by tools/mkwrm.py). -/
import Derived.Test.YtjbfpmackocgnaaWrL
import Derived.Deep.RegionHeld3
import Derived.Deep.DeepCutAuto
namespace Go.Proofs.Ytjbfpmackocgnaa
open Go.ChangeShapes Go.WideShapes Go.ChangeAt Go.RowKit
set_option linter.unusedVariables false
set_option linter.unusedSimpArgs false
set_option maxRecDepth 100000

/-- A word of which a node is forgotten. -/
def forgW (x : Int) (e : Wd) : Wd := ⟨e.data, if e.done then e.acks else lessL e.acks [x], e.done⟩
open Classical in
/-- WriterForget. -/
noncomputable def forgM (ds : List Int) (cop : Int) (m : Wt) (x : Int) : Wt × Bool := if wrP ds cop m then (⟨m.epoch, m.words.map (forgW x)⟩, true) else (zeroWt, false)
theorem forgM_bad {ds : List Int} {cop : Int} {m : Wt} {x : Int} (h : ¬ wrP ds cop m) : forgM ds cop m x = (zeroWt, false) := if_neg h
theorem forgM_yes {ds : List Int} {cop : Int} {m : Wt} {x : Int} (h : wrP ds cop m) : forgM ds cop m x = (⟨m.epoch, m.words.map (forgW x)⟩, true) := if_pos h
/-- Of the first k words the node is forgotten. -/
def Forg (x : Int) (ms : List Wd) (k : Nat) (rs : List (Nst Wd)) : Prop := rs.length = ms.length ∧ ∀ i (h : i < rs.length) (h' : i < ms.length), (i < k → rs[i].m = forgW x ms[i]) ∧ (k ≤ i → rs[i].m = ms[i])
theorem Forg.start {x : Int} {ms : List Wd} {rs : List (Nst Wd)} (h : rs.map Nst.m = ms) : Forg x ms 0 rs := by
  subst h
  exact ⟨by simp, fun i h h' => ⟨fun h => by omega, fun _ => by simp⟩⟩
theorem Forg.fin {x : Int} {ms : List Wd} {rs : List (Nst Wd)} (h : Forg x ms ms.length rs) : rs.map Nst.m = ms.map (forgW x) := by
  apply List.ext_getElem
  · simp [h.1]
  · intro i h1 h2
    simp only [List.getElem_map]
    have hi : i < rs.length := by simpa using h1
    exact (h.2 i hi (by have := h.1; omega)).1 (by have := h.1; omega)
theorem Forg.skip {x : Int} {ms : List Wd} {k : Nat} {rs : List (Nst Wd)} (h : Forg x ms k rs) (hk : k < rs.length) (hd : rs[k].m.done = true) : Forg x ms (k + 1) rs := by
  refine ⟨h.1, fun i hi hi' => ⟨fun hik => ?_, fun hik => (h.2 i hi hi').2 (by omega)⟩⟩
  by_cases e : i = k
  · subst e
    have q := (h.2 i hi hi').2 (Nat.le_refl _)
    rw [q] at hd
    rw [q]
    unfold forgW
    rw [hd]
    simp only [if_true]
    rw [← hd]
  · exact (h.2 i hi hi').1 (by omega)
theorem Forg.step {x : Int} {ms : List Wd} {k : Nat} {rs : List (Nst Wd)} (h : Forg x ms k rs) (hk : k < rs.length) (hd : rs[k].m.done = false) (qa : Option Addr) (qc : Nat) : Forg x ms (k + 1) (rs.set k ⟨qa, qc, ⟨rs[k].m.data, lessL rs[k].m.acks [x], false⟩⟩) := by
  refine ⟨by rw [List.length_set]; exact h.1, fun i hi hi' => ?_⟩
  have hi2 : i < rs.length := by rw [List.length_set] at hi; exact hi
  by_cases e : i = k
  · subst e
    rw [List.getElem_set_self]
    refine ⟨fun _ => ?_, fun h => by omega⟩
    have q := (h.2 i hi2 hi').2 (Nat.le_refl _)
    rw [q] at hd
    unfold forgW
    rw [hd]
    simp only [q]
    rfl
  · rw [List.getElem_set_ne (Ne.symm e)]
    exact ⟨fun hik => (h.2 i hi2 hi').1 (by omega), fun hik => (h.2 i hi2 hi').2 (by omega)⟩
end Go.Proofs.Ytjbfpmackocgnaa
