/- The first epoch that is open; the nodes of an era: spec's. -/
import Derived.Test.YthndkkjgjhgdnaaDoorSitT
import Derived.Test.YthndkkjgjhgdnaaDoorGk14
import Derived.Test.YthndkkjgjhgdnaaDoorGk8
import Derived.Test.YthndkkjgjhgdnaaDoorGaC
namespace Go.Proofs.YthndkkjgjhgdnaaDoor
open Go.ChangeShapes Go.WideShapes Go.ChangeAt Go.RowKit
set_option linter.unusedVariables false
set_option linter.unusedSimpArgs false
set_option maxRecDepth 100000

/-- The first epoch that is open, or 0. -/
def firstO : List Er → Nat
  | [] => 0
  | e :: l => if e.closed then (if firstO l = 0 then 0 else firstO l + 1) else 1
theorem firstO_le : ∀ ms : List Er, firstO ms ≤ ms.length
  | [] => Nat.le_refl _
  | e :: l => by
    have := firstO_le l
    unfold firstO
    split
    · split <;> simp <;> omega
    · simp
theorem firstO_none : ∀ ms : List Er, (∀ i (h : i < ms.length), ms[i].closed = true) → firstO ms = 0
  | [], _ => rfl
  | e :: l, h => by
    have h0 : e.closed = true := h 0 (by simp)
    have h1 := firstO_none l fun i hi => h (i + 1) (by simpa using hi)
    unfold firstO
    rw [if_pos h0, if_pos h1]
theorem firstO_at : ∀ (ms : List Er) (k : Nat) (hk : k < ms.length), (∀ i (h : i < ms.length), i < k → ms[i].closed = true) → ms[k].closed = false → firstO ms = k + 1
  | [], k, hk, _, _ => by simp at hk
  | e :: l, 0, hk, _, ho => by
    have h0 : e.closed = false := ho
    unfold firstO
    rw [h0]
    rfl
  | e :: l, k + 1, hk, h, ho => by
    have h0 : e.closed = true := h 0 (by simp) (by omega)
    have h1 := firstO_at l k (by simpa using hk) (fun i hi hik => h (i + 1) (by simpa using hi) (by omega)) (by simpa using ho)
    unfold firstO
    rw [if_pos h0, if_neg (by omega), h1]
/-- Of the first epoch that is open: those before are closed, it is not. -/
theorem firstO_pos {ms : List Er} (h : firstO ms ≠ 0) : ∃ k, ∃ hk : k < ms.length, firstO ms = k + 1 ∧ ms[k].closed = false ∧ ∀ i (hi : i < ms.length), i < k → ms[i].closed = true := by
  induction ms with
  | nil => exact absurd rfl h
  | cons e l ih =>
    cases hc : e.closed with
    | false => exact ⟨0, by simp, by unfold firstO; rw [hc]; rfl, hc, fun i hi h' => by omega⟩
    | true =>
      have e1 : firstO (e :: l) = if firstO l = 0 then 0 else firstO l + 1 := by conv => lhs; unfold firstO; rw [if_pos hc]
      by_cases h0 : firstO l = 0
      · rw [e1, if_pos h0] at h; exact absurd rfl h
      · obtain ⟨k, hk, q1, q2, q3⟩ := ih h0
        refine ⟨k + 1, by simpa using hk, by rw [e1, if_neg h0, q1], by simpa using q2, fun i hi hik => ?_⟩
        cases i with
        | zero => exact hc
        | succ i => simpa using q3 i (by simpa using hi) (by omega)
theorem firstO_zero {ms : List Er} (h : firstO ms = 0) : ∀ i (hi : i < ms.length), ms[i].closed = true := by
  induction ms with
  | nil => intro i hi; simp at hi
  | cons e l ih =>
    cases hc : e.closed with
    | false =>
      have e1 : firstO (e :: l) = 1 := by unfold firstO; rw [hc]; rfl
      omega
    | true =>
      have e1 : firstO (e :: l) = if firstO l = 0 then 0 else firstO l + 1 := by conv => lhs; unfold firstO; rw [if_pos hc]
      by_cases h0 : firstO l = 0
      · intro i hi
        cases i with
        | zero => exact hc
        | succ i => simpa using ih h0 i (by simpa using hi)
      · rw [e1, if_neg h0] at h; omega
/-- The nodes of an epoch. -/
def eraN (m : Rg) (x : Int) : List Int := if 1 ≤ x ∧ x ≤ (m.eras.length : Int) then (m.eras.getD (x.toNat - 1) ⟨[], false, 0⟩).nodes else []
theorem eraN_at {m : Rg} {k : Nat} (hk : k < m.eras.length) : eraN m ((k : Int) + 1) = m.eras[k].nodes := by
  unfold eraN
  rw [if_pos (by omega), show ((k : Int) + 1).toNat - 1 = k by omega, getD_lt _ hk]
theorem eraN_no {m : Rg} {x : Int} (h : ¬ (1 ≤ x ∧ x ≤ (m.eras.length : Int))) : eraN m x = [] := if_neg h
end Go.Proofs.YthndkkjgjhgdnaaDoor
