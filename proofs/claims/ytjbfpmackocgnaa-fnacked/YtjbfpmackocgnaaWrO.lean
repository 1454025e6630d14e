/- impl.WriterForget (printed by tools/mkwro.py). -/
import Derived.Test.YtjbfpmackocgnaaWrN
import Derived.Deep.RegionHeld3
import Derived.Deep.DeepCutAuto
namespace Go.Proofs.Ytjbfpmackocgnaa
open Go.ChangeShapes Go.WideShapes Go.ChangeAt Go.RowKit
set_option linter.unusedVariables false
set_option linter.unusedSimpArgs false
set_option maxRecDepth 100000

theorem blockOf_len (a : Option Addr) (n n' c : Nat) : blockOf (.slice a n c) = blockOf (.slice a n' c) := by cases a <;> rfl
/-- The node is forgotten of those words that were open among the first t. -/
def ForgO (x : Int) (ms : List Wd) (t : Nat) (rs : List (Nst Wd)) : Prop := rs.length = ms.length ∧ ∀ i (h : i < rs.length) (h' : i < ms.length), (i ∈ (opI ms ms.length).take t → rs[i].m = forgW x ms[i]) ∧ (i ∉ (opI ms ms.length).take t → rs[i].m = ms[i])
theorem mem_opI {ms : List Wd} {k i : Nat} (hk : k ≤ ms.length) : i ∈ opI ms k ↔ ∃ h : i < ms.length, i < k ∧ ms[i].done = false := by
  unfold opI
  rw [List.mem_filter, List.mem_range]
  constructor
  · rintro ⟨h1, h2⟩
    refine ⟨by omega, h1, ?_⟩
    rw [getD_lt _ (show i < ms.length by omega)] at h2
    simpa using h2
  · rintro ⟨h, h1, h2⟩
    refine ⟨h1, ?_⟩
    rw [getD_lt _ h, h2]
    rfl
theorem opI_nodup (ms : List Wd) (k : Nat) : (opI ms k).Nodup := List.Nodup.sublist List.filter_sublist List.nodup_range
theorem forgW_done {x : Int} {e : Wd} (h : e.done = true) : forgW x e = e := by
  unfold forgW
  rw [h]
  simp only [if_true]
  cases e
  simp only at h
  rw [h]
theorem forgW_open {x : Int} {e : Wd} (h : e.done = false) : forgW x e = ⟨e.data, lessL e.acks [x], false⟩ := by
  unfold forgW
  rw [h]
  rfl
theorem ForgO.start {x : Int} {ms : List Wd} {rs : List (Nst Wd)} (h : rs.map Nst.m = ms) : ForgO x ms 0 rs := by
  subst h
  exact ⟨by simp, fun i h h' => ⟨fun h => by simp at h, fun _ => by simp⟩⟩
theorem ForgO.fin {x : Int} {ms : List Wd} {rs : List (Nst Wd)} (h : ForgO x ms (opI ms ms.length).length rs) : rs.map Nst.m = ms.map (forgW x) := by
  have hT : (opI ms ms.length).take (opI ms ms.length).length = opI ms ms.length := List.take_of_length_le (Nat.le_refl _)
  apply List.ext_getElem
  · simp [h.1]
  · intro i h1 h2
    simp only [List.getElem_map]
    have hi : i < rs.length := by simpa using h1
    have hi' : i < ms.length := by have := h.1; omega
    have q := h.2 i hi hi'
    rw [hT] at q
    by_cases e : i ∈ opI ms ms.length
    · exact q.1 e
    · rw [q.2 e, forgW_done]
      cases hd : ms[i].done with
      | true => rfl
      | false => exact absurd ((mem_opI (Nat.le_refl _)).2 ⟨hi', hi', hd⟩) e
theorem ForgO.step {x : Int} {ms : List Wd} {t : Nat} {rs : List (Nst Wd)} (h : ForgO x ms t rs) (ht : t < (opI ms ms.length).length) {k : Nat} (hk : (opI ms ms.length)[t] = k) (hkl : k < rs.length) (ya : Option Addr) (yc : Nat) {yd : ByteArray} {yn : List Int} {yb : Bool} (hy : rs[k].m = ⟨yd, yn, yb⟩) : ForgO x ms (t + 1) (rs.set k ⟨ya, yc, ⟨yd, lessL yn [x], yb⟩⟩) := by
  have hT : (opI ms ms.length).take (t + 1) = (opI ms ms.length).take t ++ [k] := by rw [List.take_succ_eq_append_getElem ht, hk]
  have hkm : k < ms.length := by have := h.1; omega
  have hin : k ∈ opI ms ms.length := by rw [← hk]; exact List.getElem_mem ht
  have hd := ((mem_opI (Nat.le_refl _)).1 hin).2.2
  have hnot : k ∉ (opI ms ms.length).take t := fun hm => by
    obtain ⟨i, hi, e⟩ := List.mem_iff_getElem.1 hm
    rw [List.length_take] at hi
    rw [List.getElem_take, ← hk] at e
    exact List.pairwise_iff_getElem.1 (opI_nodup ms ms.length) i t (by omega) ht (by omega) e
  refine ⟨by rw [List.length_set]; exact h.1, fun i hi hi' => ?_⟩
  have hi2 : i < rs.length := by rw [List.length_set] at hi; exact hi
  rw [hT]
  by_cases e : i = k
  · subst e
    rw [List.getElem_set_self]
    refine ⟨fun _ => ?_, fun hn => absurd (by simp) hn⟩
    have q := (h.2 i hi2 hi').2 hnot
    rw [hy] at q
    rw [← q] at hd ⊢
    rw [forgW_open hd]
    simp only at hd
    rw [hd]
  · rw [List.getElem_set_ne (Ne.symm e)]
    have q := h.2 i hi2 hi'
    exact ⟨fun hm => q.1 (by rcases List.mem_append.1 hm with h | h; exact h; exact absurd (by simpa using h) e), fun hm => q.2 fun h => hm (List.mem_append.2 (.inl h))⟩
end Go.Proofs.Ytjbfpmackocgnaa
