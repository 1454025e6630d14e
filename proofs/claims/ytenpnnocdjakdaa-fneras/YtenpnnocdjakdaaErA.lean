/- What is kept of an epoch, and above a place: what the law FnEras asks (pure). -/
import Derived.Test.YtenpnnocdjakdaaStN
import Derived.Test.YtenpnnocdjakdaaStI
import Derived.Test.YtenpnnocdjakdaaStH
import Derived.Test.YtenpnnocdjakdaaStT
namespace Go.Proofs.Ytenpnnocdjakdaa
set_option linter.unusedVariables false
set_option linter.unusedSimpArgs false

theorem era_fact {s : St} {x : Int} {i : Nat} (h : i < (eraM s x).length) : getM s (eraM s x)[i].pl = some (eraM s x)[i] ∧ isPl (eraM s x)[i].pl ∧ (eraM s x)[i].pl / 4294967296 = x := by
  have hs : stP s := by
    by_cases hs : stP s
    · exact hs
    · unfold eraM at h; rw [if_neg hs] at h; simp at h
  have hm := List.getElem_mem h
  generalize (eraM s x)[i] = e at *
  unfold eraM at hm
  rw [if_pos hs] at hm
  unfold eraL at hm
  rw [List.mem_filter] at hm
  obtain ⟨hm, hx⟩ := hm
  refine ⟨?_, (hs.1.2 e hm).1, by simpa using hx⟩
  unfold getM
  rw [if_pos hs]
  obtain ⟨k, hk, rfl⟩ := List.getElem_of_mem hm
  refine getL_some hk rfl fun i hi hik => ?_
  have := ascE_lt hs.2.2.1 k i hk hik
  omega
theorem era_asc {s : St} {x : Int} {i : Nat} (h : i + 1 < (eraM s x).length) : (eraM s x)[i].pl < (eraM s x)[i + 1].pl := by
  have hs : stP s := by
    by_cases hs : stP s
    · exact hs
    · unfold eraM at h; rw [if_neg hs] at h; simp at h
  have ha : ascE (eraM s x) := by
    unfold eraM
    rw [if_pos hs, ascE_iff]
    exact ((ascE_iff _).1 hs.2.2.1).sublist List.filter_sublist
  exact ha i h
theorem era_len (s : St) (x : Int) : (eraM s x).length ≤ s.kept.length := by
  unfold eraM
  split
  · exact eraL_len _ _
  · exact Nat.zero_le _
theorem trim_true {s m : St} {x : Int} (h : trimM s x = (m, true)) : stP m ∧ ∀ i (hi : i < s.kept.length), (getM m s.kept[i].pl).isSome = decide (x < s.kept[i].pl) := by
  have hs : stP s := by
    by_cases hs : stP s
    · exact hs
    · rw [trimM_bad hs] at h; cases h
  have hp : isPl x := by
    by_cases hp : isPl x
    · exact hp
    · rw [trimM_no hs hp] at h; cases h
  rw [trimM_yes hs hp] at h
  cases h
  obtain ⟨h1, h2, h3, h4, h5⟩ := hs
  have hm : stP ⟨trimL s.kept x, s.late, s.lock⟩ := by
    refine ⟨⟨Nat.le_trans (List.length_filter_le _ _) h1.1, fun e he => h1.2 e (List.mem_filter.1 he).1⟩, h2, ?_, h4, h5⟩
    rw [ascE_iff]
    exact ((ascE_iff _).1 h3).sublist List.filter_sublist
  refine ⟨hm, fun i hi => ?_⟩
  unfold getM
  rw [if_pos hm]
  unfold getL
  simp only
  by_cases hx : x < s.kept[i].pl
  · rw [decide_eq_true hx, List.find?_isSome]
    exact ⟨s.kept[i], List.mem_filter.2 ⟨List.getElem_mem hi, decide_eq_true hx⟩, by simp⟩
  · rw [decide_eq_false hx, ← Bool.not_eq_true, List.find?_isSome]
    rintro ⟨e, he, hb⟩
    have he2 := of_decide_eq_true (List.mem_filter.1 he).2
    have hb2 : e.pl = s.kept[i].pl := by simpa using hb
    omega
end Go.Proofs.Ytenpnnocdjakdaa
