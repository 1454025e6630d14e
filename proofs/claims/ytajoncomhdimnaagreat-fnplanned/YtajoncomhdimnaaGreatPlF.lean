/- What is planned: the pure part of FnPlanned. -/
import Derived.Test.YtajoncomhdimnaaGreatMnR
import Derived.Test.YtajoncomhdimnaaGreatQ9E
import Derived.Test.YtajoncomhdimnaaGreatGw2
import Derived.Test.YtajoncomhdimnaaGreatKdP
namespace Go.Proofs.YtajoncomhdimnaaGreat
set_option linter.unusedVariables false

theorem plan9_len {ds : List Int} {cop : Int} {m : Mn} (h : mnP ds cop m) : ((plan9W m).wrote.length : Int) = lastO m.seen ∧ (plan9W m).wrote.length ≤ 60 := by
 have := lastO_le h
 simp only [plan9W, List.length_replicate]
 omega
theorem plan9_at {m : Mn} (i : Nat) (hi : i < (plan9W m).wrote.length) : (plan9W m).wrote[i] = [] := by
 simp [plan9W]
theorem plan9_mn {ds : List Int} {cop : Int} {m : Mn} (h : mnP ds cop m) : mnP ds cop (plan9W m) := by
 have hl := plan9_len h
 obtain ⟨h1, h2, h3, h4⟩ := h
 refine ⟨h1, h2, fun i hi => ?_, ?_⟩
 ·rw [plan9_at i hi]
  exact ⟨h1.1, fun i h => by simp at h⟩
 ·unfold wroteP
  rw [if_pos (show (plan9W m).planned = true from rfl)]
  exact hl.1
theorem plan_true {ds : List Int} {cop : Int} {m n : Mn} {set : List Int} (h : plan9M ds cop m set = (n, true)) : mnP ds cop m ∧ n = plan9W m := by
 by_cases hm : mnP ds cop m
 ·by_cases hp : plan9P ds cop m set
  ·rw [plan9M_yes hm hp] at h; cases h; exact ⟨hm, rfl⟩
  ·rw [plan9M_no hm hp] at h; cases h
 ·rw [plan9M_bad hm] at h; cases h
theorem plan_false {ds : List Int} {cop : Int} {m n : Mn} {set : List Int} (h : plan9M ds cop m set = (n, false)) : n = m ∨ n = zeroMn := by
 by_cases hm : mnP ds cop m
 ·by_cases hp : plan9P ds cop m set
  ·rw [plan9M_yes hm hp] at h; cases h
  ·rw [plan9M_no hm hp] at h; cases h; exact .inl rfl
 ·rw [plan9M_bad hm] at h; cases h; exact .inr rfl
theorem plan_ent {ds : List Int} {cop : Int} {m : Mn} (h : mnP ds cop m) (off : Int) (h1 : 1 ≤ off) (h2 : off ≤ ((plan9W m).wrote.length : Int)) :
  ∃ x : Ent, entR (plan9W m) off = (x, true) ∧ entP x ∧ x.wave = m.bye ∧ (∀ e ∈ m.seen, e.pl = x.pl → e.data = x.data ∧ e.hole = x.hole) ∧ ((∀ e ∈ m.seen, e.pl ≠ x.pl) → x.hole = true) := by
 have hl := plan9_len h
 have hH := h.1
 obtain ⟨hc, he, hb, hs, ha⟩ := hH
 have hk : entOk9 (plan9W m) off := ⟨rfl, he, by omega, h2⟩
 refine ⟨_, entR_yes hk, ?_⟩
 have hpl : isPl (4294967296 * m.epoch + off) := by unfold isPl; omega
 have hpe : (4294967296 * m.epoch + off) / 4294967296 = m.epoch := by omega
 show entP (outE m (4294967296 * m.epoch + off)) ∧ (outE m (4294967296 * m.epoch + off)).wave = m.bye ∧ (∀ e ∈ m.seen, e.pl = (outE m (4294967296 * m.epoch + off)).pl → e.data = (outE m (4294967296 * m.epoch + off)).data ∧ e.hole = (outE m (4294967296 * m.epoch + off)).hole) ∧ ((∀ e ∈ m.seen, e.pl ≠ (outE m (4294967296 * m.epoch + off)).pl) → (outE m (4294967296 * m.epoch + off)).hole = true)
 unfold outE
 cases hg : getL m.seen (4294967296 * m.epoch + off) with
 | some e =>
  obtain ⟨hm, hp⟩ := getL_of hg
  have q := (h.seen e hm).1
  simp only
  refine ⟨?_, (by first | trivial | rfl), fun e' he' hp' => ?_, fun hn => absurd hp (hn e hm)⟩
  ·unfold entP at q ⊢
   simp only
   exact ⟨hpl, by omega, by omega, (fun _ => by rw [hpe]; omega), q.2.2.2.2.1, fun hh => ⟨by omega, (q.2.2.2.2.2 hh).2⟩⟩
  ·have := asc_one ((ascE_iff _).1 ha) he' hm (by rw [hp', hp])
   subst this
   exact ⟨rfl, rfl⟩
 | none =>
  have hno : ∀ e ∈ m.seen, e.pl ≠ 4294967296 * m.epoch + off := fun e he' hp => by
   have := getL_in ((ascE_iff _).1 ha) he'
   rw [hp, hg] at this
   cases this
  simp only
  refine ⟨?_, (by first | trivial | rfl), fun e' he' hp' => absurd hp' (hno e' he'), fun _ => trivial⟩
  unfold entP
  simp only
  exact ⟨hpl, by omega, by omega, (fun _ => by rw [hpe]; omega), (by decide), fun _ => ⟨by omega, rfl⟩⟩
theorem plan_more {m : Mn} : entR (plan9W m) (((plan9W m).wrote.length : Int) + 1) = (noEnt, false) := entR_no fun h => by have := h.2.2.2; omega
theorem plan_ready {ds : List Int} {cop : Int} {m : Mn} (h : mnP ds cop m) (h0 : (plan9W m).wrote.length = 0) : rdyP ds cop (plan9W m) := ⟨plan9_mn h, rfl, fun l hl => by rw [List.length_eq_zero_iff.1 h0] at hl; cases hl⟩
end Go.Proofs.YtajoncomhdimnaaGreat
