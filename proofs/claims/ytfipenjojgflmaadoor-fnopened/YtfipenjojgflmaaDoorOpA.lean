/- Registers in which an epoch is opened: what is so of them. -/
import Derived.Test.YtfipenjojgflmaaDoorRgP
import Derived.Test.YtfipenjojgflmaaDoorRgH
import Derived.Test.YtfipenjojgflmaaDoorClA
namespace Go.Proofs.YtfipenjojgflmaaDoor
open Go.ChangeShapes Go.WideShapes Go.ChangeAt Go.RowKit
set_option linter.unusedVariables false
set_option linter.unusedSimpArgs false

theorem open_false {ds : List Int} {cop : Int} {xs : List Int} {m : Rg} (h : (openM ds cop m xs).2.2 = false) : (openM ds cop m xs).1 = m ∨ (openM ds cop m xs).1 = zeroRg := by
  by_cases hp : regP ds cop m
  · by_cases ho : openP ds cop m xs
    · rw [openM_yes hp ho] at h; cases h
    · rw [openM_no hp ho]; exact .inl rfl
  · rw [openM_bad hp]; exact .inr rfl
theorem plIn_more {n : Nat} {x : Int} (h : plIn n x) : plIn (n + 1) x := ⟨h.1, by have := h.2; omega⟩
theorem open_done {ds : List Int} {cop : Int} {xs : List Int} {m : Rg} (h : (openM ds cop m xs).2.2 = true) : (openM ds cop m xs).1 = ⟨m.eras ++ [⟨xs, false, 0⟩], m.trim⟩ ∧ (openM ds cop m xs).2.1 = (m.eras.length : Int) + 1 ∧ regP ds cop ⟨m.eras ++ [⟨xs, false, 0⟩], m.trim⟩ := by
  by_cases hp : regP ds cop m
  · by_cases ho : openP ds cop m xs
    · rw [openM_yes hp ho]
      refine ⟨rfl, rfl, ?_⟩
      obtain ⟨p1, p2, p3, p4⟩ := hp
      have hl : (m.eras ++ [(⟨xs, false, 0⟩ : Er)]).length = m.eras.length + 1 := by simp
      refine ⟨p1, by simp only [hl]; have := ho.2; omega, ?_, fun i hi => ?_⟩
      · simp only [hl]
        rcases p3 with h | h
        · exact .inl h
        · exact .inr (plIn_more h)
      · simp only [hl] at hi ⊢
        by_cases e : i < m.eras.length
        · rw [List.getElem_append_left e]
          have q := p4 i e
          refine ⟨q.1, q.2.1, q.2.2.1, fun hcl => ⟨by omega, fun h0 => ?_⟩⟩
          have q2 := (q.2.2.2 hcl).2 h0
          rw [prevC_lt (by omega) h0] at q2
          rw [prevC_lt (by rw [hl]; omega) h0, List.getElem_append_left (by omega)]
          exact q2
        · have ei : i = m.eras.length := by omega
          subst ei
          rw [show (m.eras ++ [(⟨xs, false, 0⟩ : Er)])[m.eras.length]'(by simp) = ⟨xs, false, 0⟩ from by simp]
          exact ⟨ho.1, ⟨by simp only; omega, by simp only; omega⟩, fun _ => rfl, fun h => by cases h⟩
    · rw [openM_no hp ho] at h; cases h
  · rw [openM_bad hp] at h; cases h
theorem fitD_open {m : Rg} {xs : List Int} (hf : fitD 40 m) (hx : xs.length ≤ 40) (hz : ∀ z ∈ xs, -1 ≤ z ∧ z ≤ 9) : fitD 41 ⟨m.eras ++ [⟨xs, false, 0⟩], m.trim⟩ := by
  obtain ⟨h1, h2, h3⟩ := hf
  refine ⟨by simp; omega, fun e he => ?_, h3⟩
  rcases List.mem_append.1 he with he | he
  · exact h2 e he
  · obtain rfl : e = ⟨xs, false, 0⟩ := by simpa using he
    exact ⟨hx, hz, by simp only; omega, by simp only; omega⟩
theorem eraN_more {m : Rg} {e : Er} {i : Nat} (h : i < m.eras.length) : eraN ⟨m.eras ++ [e], m.trim⟩ ((i : Int) + 1) = eraN m ((i : Int) + 1) := by
  rw [eraN_at (m := ⟨m.eras ++ [e], m.trim⟩) (show i < (m.eras ++ [e]).length by simp; omega), eraN_at h]
  simp only
  rw [List.getElem_append_left h]
theorem eraN_last {m : Rg} {e : Er} : eraN ⟨m.eras ++ [e], m.trim⟩ ((m.eras.length : Int) + 1) = e.nodes := by
  rw [eraN_at (m := ⟨m.eras ++ [e], m.trim⟩) (show m.eras.length < (m.eras ++ [e]).length by simp)]
  simp
end Go.Proofs.YtfipenjojgflmaaDoor
