/- spec's MendForget (printed by tools/mkmno.py). -/
import Derived.Test.YtapfdmmfhfkhkaaMnI
import Derived.Test.YtapfdmmfhfkhkaaGaC
import Derived.Deep.RegionHeld3
import Derived.Deep.DeepCutAuto
namespace Go.Proofs.Ytapfdmmfhfkhkaa
open Go.ChangeShapes Go.WideShapes Go.ChangeAt Go.RowKit
set_option linter.unusedVariables false
set_option linter.unusedSimpArgs false
set_option maxRecDepth 100000

def Forg9 (x : Int) (ms : List (List Int)) (k : Nat) (rs : List (Nst (List Int))) : Prop := rs.length = ms.length ∧ ∀ i (h : i < rs.length) (h' : i < ms.length), (i < k → rs[i].m = lessL ms[i] [x]) ∧ (k ≤ i → rs[i].m = ms[i])
theorem Forg9.fin {x : Int} {ms : List (List Int)} {rs : List (Nst (List Int))} (h : Forg9 x ms ms.length rs) : rs.map Nst.m = ms.map fun l => lessL l [x] := by
 apply List.ext_getElem
 ·simp [h.1]
 ·intro i h1 h2
  simp only [List.getElem_map]
  have hi : i < rs.length := by simpa using h1
  exact (h.2 i hi (by have := h.1; omega)).1 (by have := h.1; omega)
theorem Forg9.skip {x : Int} {ms : List (List Int)} {k : Nat} {rs : List (Nst (List Int))} (h : Forg9 x ms k rs) (hk : k < rs.length) (hd : lessL rs[k].m [x] = rs[k].m) : Forg9 x ms (k + 1) rs := by
 refine ⟨h.1, fun i hi hi' => ⟨fun hik => ?_, fun hik => (h.2 i hi hi').2 (by omega)⟩⟩
 by_cases e : i = k
 ·subst e
  have q := (h.2 i hi hi').2 (Nat.le_refl _)
  rw [← q, hd]
 ·exact (h.2 i hi hi').1 (by omega)
theorem Forg9.step {x : Int} {ms : List (List Int)} {k : Nat} {rs : List (Nst (List Int))} (h : Forg9 x ms k rs) (hk : k < rs.length) (p : Nst (List Int)) (hp : p.m = lessL rs[k].m [x]) : Forg9 x ms (k + 1) (rs.set k p) := by
 refine ⟨by rw [List.length_set]; exact h.1, fun i hi hi' => ?_⟩
 have hi2 : i < rs.length := by rw [List.length_set] at hi; exact hi
 by_cases e : i = k
 ·subst e
  rw [List.getElem_set_self]
  refine ⟨fun _ => ?_, fun h => by omega⟩
  have q := (h.2 i hi2 hi').2 (Nat.le_refl _)
  rw [hp, q]
 ·rw [List.getElem_set_ne (Ne.symm e)]
  exact ⟨fun hik => (h.2 i hi2 hi').1 (by omega), fun hik => (h.2 i hi2 hi').2 (by omega)⟩
end Go.Proofs.Ytapfdmmfhfkhkaa
