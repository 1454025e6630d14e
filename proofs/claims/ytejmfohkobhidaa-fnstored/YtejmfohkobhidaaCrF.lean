/- What a crash keeps: the pure part of FnCrash and FnStored. -/
import Derived.Test.YtejmfohkobhidaaKdP
import Derived.Test.YtejmfohkobhidaaStT
import Derived.Test.YtejmfohkobhidaaStG
import Derived.Test.YtejmfohkobhidaaStH
namespace Go.Proofs.Ytejmfohkobhidaa
set_option linter.unusedVariables false

theorem crashL_dom {keep : Int} : ∀ {l kept : List Ent} {i : Nat} {x : Ent}, x ∈ kept → ∃ o ∈ crashL kept keep l i, o.pl = x.pl ∧ x.wave ≤ o.wave
  | [], kept, i, x, h => ⟨x, h, rfl, Int.le_refl _⟩
  | e :: l, kept, i, x, h => by
    unfold crashL
    by_cases hb : bitE keep i = true
    · rw [if_pos hb]
      obtain ⟨o, ho, h1, h2⟩ := keepL_dom (e := e) (acc := kept) (x := x) (.inl h)
      obtain ⟨o', ho', h3, h4⟩ := crashL_dom (keep := keep) (l := l) (i := i + 1) ho
      exact ⟨o', ho', h3.trans h1, Int.le_trans h2 h4⟩
    · rw [if_neg hb]
      exact crashL_dom h
theorem bit_all : ∀ i : Nat, i < 20 → bitE 1048575 i = true := by decide
theorem crashL_late : ∀ {l kept : List Ent} {i : Nat} {e : Ent}, i + l.length ≤ 20 → e ∈ l → ∃ o ∈ crashL kept 1048575 l i, o.pl = e.pl ∧ e.wave ≤ o.wave
  | [], _, _, _, _, h => by cases h
  | a :: l, kept, i, e, hi, h => by
    simp only [List.length_cons] at hi
    unfold crashL
    rw [if_pos (bit_all i (by omega))]
    rcases List.mem_cons.1 h with rfl | h
    · obtain ⟨o, ho, h1, h2⟩ := keepL_dom (e := e) (acc := kept) (x := e) (.inr rfl)
      obtain ⟨o', ho', h3, h4⟩ := crashL_dom (keep := 1048575) (l := l) (i := i + 1) ho
      exact ⟨o', ho', h3.trans h1, Int.le_trans h2 h4⟩
    · exact crashL_late (by omega) h
theorem crashL_ge (keep : Int) : ∀ (l kept : List Ent) (i : Nat), kept.length ≤ (crashL kept keep l i).length
  | [], kept, i => Nat.le_refl _
  | e :: l, kept, i => by
    unfold crashL
    refine Nat.le_trans ?_ (crashL_ge keep l _ (i + 1))
    split
    · exact (keepL_len e kept).2
    · exact Nat.le_refl _
theorem getL_asc {l : List Ent} {e : Ent} (h : ascE l) (he : e ∈ l) : getL l e.pl = some e := getL_in ((ascE_iff l).1 h) he
/-- A crash that goes through. -/
theorem crash_true {s m : St} {k : Int} (h : crashM s k = (m, true)) : stP s ∧ stP m ∧ m.late = [] ∧ m.lock = s.lock ∧ s.kept.length ≤ m.kept.length ∧ ∀ o ∈ m.kept, getL s.kept o.pl = some o ∨ o ∈ s.late := by
  by_cases hs : stP s
  · by_cases hp : crashP s k
    · have hr := crash_right (k := k) hs
      rw [crashM_yes hs hp] at h hr
      cases h
      refine ⟨hs, hr, rfl, rfl, crashL_ge k _ _ _, crashL_all (P := fun o => getL s.kept o.pl = some o ∨ o ∈ s.late) k _ _ _ (fun o ho => .inl (getL_asc hs.2.2.1 ho)) fun o ho => .inr ho⟩
    · rw [crashM_no hs hp] at h; cases h
  · rw [crashM_bad hs] at h; cases h
theorem crash_false {s m : St} {k : Int} (h : crashM s k = (m, false)) : m = s ∨ m = zeroSt := by
  by_cases hs : stP s
  · by_cases hp : crashP s k
    · rw [crashM_yes hs hp] at h; cases h
    · rw [crashM_no hs hp] at h; cases h; exact .inl rfl
  · rw [crashM_bad hs] at h; cases h; exact .inr rfl
theorem put_false {s m : St} {e : Ent} (h : putM s e = (m, false)) : m = s ∨ (¬ stP s ∧ m = zeroSt) := by
  by_cases hs : stP s
  · by_cases hp : putP s e
    · rw [putM_yes hs hp] at h; cases h
    · rw [putM_no hs hp] at h; cases h; exact .inl rfl
  · rw [putM_bad hs] at h; cases h; exact .inr ⟨hs, rfl⟩
theorem put_true {s m : St} {e : Ent} (h : putM s e = (m, true)) : m.kept = s.kept ∧ e ∈ m.late ∧ stP m := by
  by_cases hs : stP s
  · by_cases hp : putP s e
    · have hr := put_right (e := e) hs
      rw [putM_yes hs hp] at h hr
      cases h
      exact ⟨rfl, by simp, hr⟩
    · rw [putM_no hs hp] at h; cases h
  · rw [putM_bad hs] at h; cases h
/-- What is put and synced. -/
theorem sync_true {s m n : St} {e : Ent} (h : putM s e = (m, true)) (h2 : crashM m 1048575 = (n, true)) : stP n ∧ n.late = [] ∧ (∀ x ∈ s.kept, ∃ o, getM n x.pl = some o ∧ x.wave ≤ o.wave) ∧ ∃ o, getM n e.pl = some o ∧ e.wave ≤ o.wave := by
  obtain ⟨hk, he, hm⟩ := put_true h
  by_cases hp : crashP m 1048575
  · have hr := crash_right (k := 1048575) hm
    rw [crashM_yes hm hp] at h2 hr
    cases h2
    have key : ∀ x o : Ent, o ∈ crashK m 1048575 → o.pl = x.pl → getM ⟨crashK m 1048575, [], m.lock⟩ x.pl = some o := fun x o ho e => by
      unfold getM
      rw [if_pos hr, ← e]
      exact getL_asc hr.2.2.1 ho
    refine ⟨hr, rfl, fun x hx => ?_, ?_⟩
    · obtain ⟨o, ho, h1, h2⟩ := crashL_dom (keep := 1048575) (l := m.late) (i := 0) (x := x) (kept := m.kept) (by rw [hk]; exact hx)
      exact ⟨o, key x o ho h1, h2⟩
    · obtain ⟨o, ho, h1, h2⟩ := crashL_late (kept := m.kept) (l := m.late) (i := 0) (e := e) (by have := hm.2.1.1; omega) he
      exact ⟨o, key e o ho h1, h2⟩
  · rw [crashM_no hm hp] at h2; cases h2
theorem sync_false {s m n : St} {e : Ent} (h : putM s e = (m, true)) (h2 : crashM m 1048575 = (n, false)) : 200 < s.kept.length + m.late.length := by
  obtain ⟨hk, he, hm⟩ := put_true h
  by_cases hp : crashP m 1048575
  · rw [crashM_yes hm hp] at h2; cases h2
  · have h3 : ¬ (crashK m 1048575).length ≤ 200 := fun q => hp ⟨by omega, by omega, q⟩
    have := crashL_len 1048575 m.late m.kept 0
    unfold crashK at h3
    rw [hk] at this h3
    omega
end Go.Proofs.Ytejmfohkobhidaa
