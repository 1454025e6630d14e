/- impl's sortedList.from, StoreTrim, StorePut. -/
import Derived.Test.YtejmfohkobhidaaImFj
import Derived.Test.YtejmfohkobhidaaStN
namespace Go.Proofs.Ytejmfohkobhidaa
open Go.ChangeShapes Go.WideShapes Go.ChangeAt Go.RowKit
set_option linter.unusedVariables false
set_option linter.unusedSimpArgs false
set_option maxRecDepth 100000

theorem Rw.drop {w : World} {b off n cap : Nat} {es : List Ent} (h : Rw 4 Ent.cl w (.slice (some ⟨b, off, none⟩) n cap) es) {i : Nat} (hi : i ≤ es.length) (off' : Nat) (ho : i < es.length → off' = off + i * 4) : Rw 4 Ent.cl w (.slice (some ⟨b, off', none⟩) (es.length - i) (cap - i)) (es.drop i) := by
  obtain ⟨h0, a', cap', e, hc, h⟩ := h
  cases e
  refine ⟨by rw [List.length_drop]; omega, _, _, by rw [List.length_drop], by rw [List.length_drop]; omega, ?_⟩
  rcases Nat.lt_or_ge i es.length with hlt | hge
  · right
    obtain ⟨b', off'', e, hc⟩ := orR_of_lt h hlt
    cases e
    refine ⟨b, off', rfl, fun k hk j u hu => ?_⟩
    rw [List.length_drop] at hk
    have := hc (i + k) (by omega) j u (by rw [List.getElem_drop] at hu; exact hu)
    rw [ho hlt, show off + i * 4 + k * 4 + j = off + (i + k) * 4 + j by omega]
    exact this
  · exact .inl (List.drop_eq_nil_of_le hge)
theorem left_trim {s : St} {upto : Int} (h : ¬ (stP s ∧ isPl upto)) : Left s (trimM s upto) := by
  by_cases hs : stP s
  · exact ⟨s, trimM_no hs fun hp => h ⟨hs, hp⟩, fun _ => rfl, fun h => absurd hs h⟩
  · exact ⟨zeroSt, trimM_bad hs, fun h => absurd h hs, fun _ => rfl⟩
theorem left_put {s : St} {e : Ent} (h : ¬ (stP s ∧ putP s e)) : Left s (putM s e) := by
  by_cases hs : stP s
  · exact ⟨s, putM_no hs fun hp => h ⟨hs, hp⟩, fun _ => rfl, fun h => absurd hs h⟩
  · exact ⟨zeroSt, putM_bad hs, fun h => absurd h hs, fun _ => rfl⟩
end Go.Proofs.Ytejmfohkobhidaa
