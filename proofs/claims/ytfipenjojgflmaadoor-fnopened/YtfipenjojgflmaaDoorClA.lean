/- Registers that are closed: what is so of them. -/
import Derived.Test.YtfipenjojgflmaaDoorRgP
namespace Go.Proofs.YtfipenjojgflmaaDoor
open Go.ChangeShapes Go.WideShapes Go.ChangeAt Go.RowKit
set_option linter.unusedVariables false
set_option linter.unusedSimpArgs false

theorem close_false {ds : List Int} {cop x y : Int} {m : Rg} (h : (closeM ds cop m x y).2 = false) : (closeM ds cop m x y).1 = m ∨ (closeM ds cop m x y).1 = zeroRg := by
  by_cases hp : regP ds cop m
  · by_cases ho : closeP m x y
    · rw [closeM_yes hp ho] at h; cases h
    · rw [closeM_no hp ho]; exact .inl rfl
  · rw [closeM_bad hp]; exact .inr rfl
theorem closeE_len (ms : List Er) (k : Nat) (y : Int) : (closeE ms k y).length = ms.length := by unfold closeE; rw [List.length_set]
theorem closeE_at {ms : List Er} {k i : Nat} {y : Int} (hk : k < ms.length) (hi : i < ms.length) (hi' : i < (closeE ms k y).length) : (closeE ms k y)[i] = if i = k then ⟨ms[k].nodes, true, y⟩ else ms[i] := by
  have e0 : closeE ms k y = ms.set k ⟨ms[k].nodes, true, y⟩ := by unfold closeE; rw [getD_lt _ hk]
  simp only [e0, List.getElem_set]
  by_cases e : i = k
  · rw [if_pos e, if_pos e.symm]
  · rw [if_neg e, if_neg (Ne.symm e)]
theorem prevC_lt {ms : List Er} {i : Nat} (h : i ≤ ms.length) (h0 : 0 < i) : prevC ms i = (ms[i - 1]'(by omega)).closed := by
  unfold prevC
  rw [getD_lt _ (by omega)]
/-- What is closed. -/
theorem close_done {ds : List Int} {cop x y : Int} {m : Rg} (h : (closeM ds cop m x y).2 = true) : ∃ k, ∃ hk : k + 1 < m.eras.length, firstO m.eras = k + 1 ∧ x = (m.eras.length : Int) ∧ (closeM ds cop m x y).1 = ⟨closeE m.eras k y, m.trim⟩ ∧ regP ds cop ⟨closeE m.eras k y, m.trim⟩ ∧ firstO (closeE m.eras k y) = k + 2 := by
  by_cases hp : regP ds cop m
  · by_cases hc : closeP m x y
    · obtain ⟨h1, h2, h3, h4, h5⟩ := hc
      obtain ⟨k, hk, hf, ho, hb⟩ := firstO_pos h2
      have hk1 : k + 1 < m.eras.length := by
        rw [hf] at h3
        rcases Nat.lt_or_ge (k + 1) m.eras.length with h | h
        · exact h
        · exfalso; apply h3; rw [h1]; omega
      refine ⟨k, hk1, hf, h1, ?_, ?_, ?_⟩
      · rw [closeM_yes hp ⟨h1, h2, h3, h4, h5⟩, hf]
        rfl
      · obtain ⟨p1, p2, p3, p4⟩ := hp
        refine ⟨p1, by simp only [closeE_len]; exact p2, by simp only [closeE_len]; exact p3, fun i hi => ?_⟩
        simp only [closeE_len] at hi ⊢
        have hi' : i < (closeE m.eras k y).length := by rw [closeE_len]; exact hi
        have pk := p4 k hk
        have q := p4 i hi
        have pv : 0 < i → (k + 1 = i ∧ prevC (closeE m.eras k y) i = true) ∨ prevC (closeE m.eras k y) i = prevC m.eras i := fun h0 => by
          rw [prevC_lt (by rw [closeE_len]; omega) h0, prevC_lt (by omega) h0, closeE_at hk (by omega)]
          by_cases e : i - 1 = k
          · left; rw [if_pos e]; exact ⟨by omega, rfl⟩
          · right; rw [if_neg e]
        rw [closeE_at hk hi]
        by_cases e : i = k
        · subst e
          rw [if_pos rfl]
          refine ⟨pk.1, ⟨h4, h5⟩, (fun h => by cases h), fun _ => ⟨by omega, fun h0 => ?_⟩⟩
          rcases pv h0 with h | h
          · exact h.2
          · rw [h, prevC_lt (by omega) h0]
            exact hb (i - 1) (by omega) (by omega)
        · rw [if_neg e]
          refine ⟨q.1, q.2.1, q.2.2.1, fun hcl => ⟨(q.2.2.2 hcl).1, fun h0 => ?_⟩⟩
          rcases pv h0 with h | h
          · exact h.2
          · rw [h]; exact (q.2.2.2 hcl).2 h0
      · refine firstO_at (closeE m.eras k y) (k + 1) (by rw [closeE_len]; exact hk1) (fun i hi hik => ?_) ?_
        · have hi2 : i < m.eras.length := by rw [closeE_len] at hi; exact hi
          rw [closeE_at hk hi2]
          by_cases e : i = k
          · rw [if_pos e]
          · rw [if_neg e]; exact hb i hi2 (by omega)
        · rw [closeE_at hk hk1, if_neg (by omega)]
          cases hcl : m.eras[k + 1].closed with
          | false => rfl
          | true =>
            have q := ((hp.2.2.2 (k + 1) hk1).2.2.2 hcl).2 (by omega)
            rw [prevC_lt (by omega) (by omega)] at q
            simp only [Nat.add_sub_cancel] at q
            rw [ho] at q; cases q
    · rw [closeM_no hp hc] at h; cases h
  · rw [closeM_bad hp] at h; cases h
theorem fitD_close {ds : List Int} {cop x y : Int} {m : Rg} {k : Nat} (hf : fitD 40 m) (hk : k < m.eras.length) (hy : okInt y) : fitD 40 ⟨closeE m.eras k y, m.trim⟩ := by
  obtain ⟨h1, h2, h3⟩ := hf
  refine ⟨by simp only [closeE_len]; exact h1, fun e he => ?_, h3⟩
  obtain ⟨i, hi, rfl⟩ := List.mem_iff_getElem.1 he
  simp only at hi
  have hi2 : i < m.eras.length := by rw [closeE_len] at hi; exact hi
  simp only
  rw [closeE_at hk hi2]
  by_cases e : i = k
  · rw [if_pos e]
    obtain ⟨q1, q2, -⟩ := h2 _ (List.getElem_mem hk)
    exact ⟨q1, q2, hy.1, hy.2⟩
  · rw [if_neg e]; exact h2 _ (List.getElem_mem hi2)
end Go.Proofs.YtfipenjojgflmaaDoor
