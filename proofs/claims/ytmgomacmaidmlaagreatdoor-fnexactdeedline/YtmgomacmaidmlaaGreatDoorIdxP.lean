/- Where the first is for which something holds; whether, as a bool (split off MnF and EvyA). -/
import Derived.Test.YtmgomacmaidmlaaGreatDoorRetP
namespace Go.Proofs.YtmgomacmaidmlaaGreatDoor
open Go.ChangeShapes Go.WideShapes Go.ChangeAt Go.RowKit
set_option linter.unusedVariables false
set_option linter.unusedSimpArgs false
set_option maxRecDepth 100000

/-- Where the first is for which q holds, or -1. -/
def idxL {α : Type} (q : α → Bool) : List α → Int
  | [] => -1
  | e :: l => if q e then 0 else (if idxL q l = -1 then -1 else idxL q l + 1)
theorem idxL_ge {α : Type} (q : α → Bool) : ∀ l : List α, -1 ≤ idxL q l ∧ idxL q l < l.length
  | [] => by simp [idxL]
  | e :: l => by
    have := idxL_ge q l
    unfold idxL
    split
    · simp <;> omega
    · split <;> simp <;> omega
theorem idxL_none {α : Type} (q : α → Bool) : ∀ l : List α, (∀ i (h : i < l.length), q l[i] = false) → idxL q l = -1
  | [], _ => rfl
  | e :: l, h => by
    have h0 : q e = false := h 0 (by simp)
    have h1 := idxL_none q l fun i hi => h (i + 1) (by simpa using hi)
    unfold idxL
    rw [h0, h1]
    rfl
theorem idxL_at {α : Type} (q : α → Bool) : ∀ (l : List α) (k : Nat) (hk : k < l.length), (∀ i (h : i < l.length), i < k → q l[i] = false) → q l[k] = true → idxL q l = (k : Int)
  | [], k, hk, _, _ => by simp at hk
  | e :: l, 0, hk, _, ho => by
    have h0 : q e = true := ho
    unfold idxL
    rw [h0]
    rfl
  | e :: l, k + 1, hk, h, ho => by
    have h0 : q e = false := h 0 (by simp) (by omega)
    have h1 := idxL_at q l k (by simpa using hk) (fun i hi hik => h (i + 1) (by simpa using hi) (by omega)) (by simpa using ho)
    unfold idxL
    rw [h0, h1, if_neg (by simp), if_neg (by omega)]
    omega
theorem idxL_neg {α : Type} {q : α → Bool} {l : List α} : idxL q l = -1 ↔ ∀ e ∈ l, q e = false := by
  induction l with
  | nil => simp [idxL]
  | cons e l ih =>
    have hg := idxL_ge q l
    unfold idxL
    cases hq : q e with
    | true => simp [hq]
    | false =>
      rw [if_neg (by simp)]
      by_cases h : idxL q l = -1
      · rw [if_pos h]
        simp only [List.mem_cons, true_iff]
        rintro x (rfl | hx)
        · exact hq
        · exact ih.1 h x hx
      · rw [if_neg h]
        constructor
        · intro h'; omega
        · intro h'
          exact absurd (ih.2 fun x hx => h' x (List.mem_cons_of_mem _ hx)) h
theorem list2_of {α : Type} {l : List α} (h : l.length = 2) : ∃ a b, l = [a, b] := match l, h with | [a, b], _ => ⟨a, b, rfl⟩
theorem list3_of {α : Type} {l : List α} (h : l.length = 3) : ∃ a b c, l = [a, b, c] := match l, h with | [a, b, c], _ => ⟨a, b, c, rfl⟩
theorem list6_of {α : Type} {l : List α} (h : l.length = 6) : ∃ a b c d e f, l = [a, b, c, d, e, f] := match l, h with | [a, b, c, d, e, f], _ => ⟨a, b, c, d, e, f, rfl⟩
theorem idxL_some {α : Type} (q : α → Bool) (l : List α) : RetB (∃ e ∈ l, q e = true) (.returned (.bool (decide (0 ≤ idxL q l)))) := ⟨_, rfl, by
  have hg := idxL_ge q l
  rw [decide_eq_true_iff]
  constructor
  · intro h
    apply Classical.byContradiction
    intro hno
    have : idxL q l = -1 := idxL_neg.2 fun e he => by
      cases hqe : q e with
      | false => rfl
      | true => exact absurd ⟨e, he, hqe⟩ hno
    omega
  · rintro ⟨e, he, hqe⟩
    apply Classical.byContradiction
    intro hno
    have h1 : idxL q l = -1 := by omega
    have := idxL_neg.1 h1 e he
    rw [hqe] at this
    cases this⟩
theorem all_not {α : Type} {q : α → Bool} {l : List α} {b : Bool} (h : b = true ↔ ∃ x ∈ l, (!(q x)) = true) : RetB (∀ x ∈ l, q x = true) (.returned (.bool (!b))) := ⟨_, rfl, by
  cases b with
  | true =>
    obtain ⟨x, hx, hq⟩ := h.1 rfl
    constructor
    · intro h; cases h
    · intro h'; rw [h' x hx] at hq; cases hq
  | false =>
    constructor
    · intro _ x hx
      cases hq : q x with
      | true => rfl
      | false => exact absurd (h.2 ⟨x, hx, by rw [hq]; rfl⟩) (by simp)
    · intro _; rfl⟩
/-- Whether, as a bool. -/
noncomputable def bq (p : Prop) : Bool := @decide p (Classical.propDecidable p)
theorem bq_iff (p : Prop) : bq p = true ↔ p := @decide_eq_true_iff p (Classical.propDecidable p)
theorem RetB.bq {p : Prop} {e : Ending} (h : RetB p e) : e = .returned (.bool (bq p)) := by
  obtain ⟨b, rfl, h⟩ := h
  have : b = Go.Proofs.YtmgomacmaidmlaaGreatDoor.bq p := by
    cases b with
    | true => exact ((bq_iff p).2 (h.1 rfl)).symm
    | false =>
      cases e : Go.Proofs.YtmgomacmaidmlaaGreatDoor.bq p with
      | false => rfl
      | true => exact absurd (h.2 ((bq_iff p).1 e)) (by simp)
  rw [this]
theorem RetB.to {α : Type} {l : List α} {q : α → Bool} {Q : α → Prop} {e : Ending} (h : RetB (∀ x ∈ l, q x = true) e) (hq : ∀ x, q x = true ↔ Q x) : RetB (∀ x ∈ l, Q x) e := by
  obtain ⟨b, rfl, h⟩ := h
  exact ⟨b, rfl, h.trans ⟨fun h x hx => (hq x).1 (h x hx), fun h x hx => (hq x).2 (h x hx)⟩⟩
end Go.Proofs.YtmgomacmaidmlaaGreatDoor
