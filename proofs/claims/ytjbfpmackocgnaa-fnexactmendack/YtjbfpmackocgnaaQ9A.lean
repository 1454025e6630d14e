/- MendAck: spec's and impl's answers, as the law asks for them. -/
import Derived.Test.YtjbfpmackocgnaaMnN
import Derived.Test.YtjbfpmackocgnaaMnSd
import Derived.Test.YtjbfpmackocgnaaBoxS
namespace Go.Proofs.Ytjbfpmackocgnaa
open Go.ChangeShapes Go.WideShapes Go.ChangeAt Go.RowKit
set_option linter.unusedVariables false

theorem sumL_set : ∀ (l : List (List Int)) (k : Nat) (e : List Int), (∀ h : k < l.length, e.length ≤ l[k].length + 1) → sumL (l.set k e) ≤ sumL l + 1
  | [], k, e, _ => by simp [sumL]
  | a :: l, 0, e, h => by
    have := h (by simp)
    simp only [List.getElem_cons_zero] at this
    simp only [sumL, List.set_cons_zero, List.map_cons, List.sum_cons]
    omega
  | a :: l, k + 1, e, h => by
    have ih := sumL_set l k e (fun h' => by have := h (by simpa using h'); simpa using this)
    simp only [sumL] at ih
    simp only [sumL, List.set_cons_succ, List.map_cons, List.sum_cons]
    omega
theorem cntAck9 {m : Mn} {off x : Int} (hs : sizMend m ≤ 1048576) : cntMend (ack9W m off x) ≤ 8388608 := by
  have h1 : cntMend m ≤ 8388607 := by
    unfold sizMend sizIntSS at hs
    unfold cntMend cntIntSS cntEntryS
    unfold sizEntryS at hs
    omega
  have h2 : cntMend (ack9W m off x) ≤ cntMend m + 1 := by
    have q := sumL_set m.wrote (off.toNat - 1) (putL x (m.wrote.getD (off.toNat - 1) [])) (fun h => by
      rw [List.getD_eq_getElem?_getD, List.getElem?_eq_getElem h]
      exact putL_len x _)
    unfold cntMend cntIntSS ack9W
    simp only
    omega
  omega
theorem bothMendAck_ (m0 : List Int × Int) (m1 : Mn) (m2 m3 : Int) (ok0 : okConfig m0) (ok1 : okMend m1) (ok2 : okInt m2) (ok3 : okInt m3) (hs0 : sizConfig m0 ≤ 1048576) (hs1 : sizMend m1 ≤ 1048576) : ∃ (R : Mn) (s1 : Bool), cntMend R ≤ 8388608 ∧ (∀ W v0 v1, RdConfig v0 m0 W → RdMend v1 m1 W → Calls Try.prog 47 #[v0, v1, .int .i64 m2, .int .i64 m3] W fun e w' => ∃ u, e = .returned (.tuple #[u, .bool s1]) ∧ Sits (OwMend W.heap.size w'.heap.size u R) W.heap.size w'.heap.size w' ∧ Below W.heap.size W w') ∧ (∀ W v0 v1, RdConfig v0 m0 W → RdMend v1 m1 W → Calls Try.prog 48 #[v0, v1, .int .i64 m2, .int .i64 m3] W fun e w' => ∃ u, e = .returned (.tuple #[u, .bool s1]) ∧ Sits (OwMend W.heap.size w'.heap.size u R) W.heap.size w'.heap.size w' ∧ Below W.heap.size W w') := by
  refine ⟨(ack9M m0.1 m0.2 m1 m2 m3).1, (ack9M m0.1 m0.2 m1 m2 m3).2, ?_, fun W v0 v1 h0 h1 => ?_, fun W v0 v1 h0 h1 => ?_⟩
  · by_cases hp : mnP m0.1 m0.2 m1
    · by_cases ha : ack9P m0.1 m1 m2 m3
      · rw [ack9M_yes hp ha]; exact cntAck9 hs1
      · rw [ack9M_no hp ha]; have := cntMend_le hs1; simp only; omega
    · rw [ack9M_bad hp]; simp [zeroMn, cntMend, cntEntryS, cntIntSS, sumL]
  · refine (specAck9_any v0 v1 m0 m1 m2 m3 W h0 h1 ok1.2.2.2.1 hs1 hs0).mono ?_
    rintro e w' ⟨⟨u, h1, h2⟩, h3⟩
    exact ⟨_, h1, h2.sits (Nat.le_refl _), h3⟩
  · refine (implAck9_any v0 v1 m0 m1 m2 m3 W h0 h1 ok0 ok1 ok3 hs0 hs1).mono ?_
    rintro e w' ⟨⟨u, h1, h2⟩, h3⟩
    exact ⟨_, h1, h2.sits (Nat.le_refl _), h3⟩
end Go.Proofs.Ytjbfpmackocgnaa
