/- WriterAck: spec's and impl's answers, as the law asks for them. -/
import Derived.Test.YtfipenjojgflmaaWrW
import Derived.Test.YtfipenjojgflmaaWrSd
import Derived.Test.YtfipenjojgflmaaBoxR
namespace Go.Proofs.Ytfipenjojgflmaa
open Go.ChangeShapes Go.WideShapes Go.ChangeAt Go.RowKit
set_option linter.unusedVariables false

theorem WAp.owK {w' : World} {u : Value} {R : Wt} {base : Nat} (h : WAp w' base u R.words) : Sits (OwWriter base w'.heap.size (.agg #[.int .i64 R.epoch, u]) R) base w'.heap.size w' := OwWriter.sits ⟨u, rfl, h.ow⟩ (Nat.le_refl _)
theorem sumW_set : ∀ (l : List Wd) (k : Nat) (e : Wd), (∀ h : k < l.length, e.acks.length ≤ l[k].acks.length + 1) → sumW (l.set k e) ≤ sumW l + 1
  | [], k, e, _ => by simp [sumW]
  | a :: l, 0, e, h => by
    have := h (by simp)
    simp only [List.getElem_cons_zero] at this
    simp only [sumW, List.set_cons_zero, List.map_cons, List.sum_cons]
    omega
  | a :: l, k + 1, e, h => by
    have ih := sumW_set l k e (fun h' => by have := h (by simpa using h'); simpa using this)
    simp only [sumW] at ih
    simp only [sumW, List.set_cons_succ, List.map_cons, List.sum_cons]
    omega
theorem cntAck {ds : List Int} {cop : Int} {m : Wt} {off x : Int} (hs : sizWriter m ≤ 1048576) : cntWriter (ackL ds cop m off x) ≤ 4194304 := by
  have h1 := cntWriter_le hs
  have h2 : cntWriter (ackL ds cop m off x) ≤ cntWriter m + 1 := by
    have q := sumW_set m.words (off.toNat - 1) (ackW ds cop x (atW m.words (off.toNat - 1))) (fun h => by
      unfold atW
      rw [getD_lt _ h]
      exact putL_len x _)
    unfold cntWriter cntWordS ackL
    simp only [List.length_set]
    omega
  omega
theorem bothWriterAck_ (m0 : List Int × Int) (m1 : Wt) (m2 m3 : Int) (ok0 : okConfig m0) (ok1 : okWriter m1) (ok2 : okInt m2) (ok3 : okInt m3) (hs0 : sizConfig m0 ≤ 1048576) (hs1 : sizWriter m1 ≤ 1048576) : ∃ (R : Wt) (s1 : Bool), cntWriter R ≤ 4194304 ∧ (∀ W v0 v1, RdConfig v0 m0 W → RdWriter v1 m1 W → Calls Try.prog 20 #[v0, v1, .int .i64 m2, .int .i64 m3] W fun e w' => ∃ u, e = .returned (.tuple #[u, .bool s1]) ∧ Sits (OwWriter W.heap.size w'.heap.size u R) W.heap.size w'.heap.size w' ∧ Below W.heap.size W w') ∧ (∀ W v0 v1, RdConfig v0 m0 W → RdWriter v1 m1 W → Calls Try.prog 19 #[v0, v1, .int .i64 m2, .int .i64 m3] W fun e w' => ∃ u, e = .returned (.tuple #[u, .bool s1]) ∧ Sits (OwWriter W.heap.size w'.heap.size u R) W.heap.size w'.heap.size w' ∧ Below W.heap.size W w') := by
  refine ⟨(ackM m0.1 m0.2 m1 m2 m3).1, (ackM m0.1 m0.2 m1 m2 m3).2, ?_, fun W v0 v1 h0 h1 => ?_, fun W v0 v1 h0 h1 => ?_⟩
  · by_cases hp : wrP m0.1 m0.2 m1
    · by_cases ha : ackP m0.1 m1.words m2 m3
      · rw [ackM_yes hp ha]; exact cntAck hs1
      · rw [ackM_no hp ha]; have := cntWriter_le hs1; simp only; omega
    · rw [ackM_bad hp]; decide
  · refine (specAck_any v0 v1 m0 m1 m2 m3 W h0 h1 hs1 ok2 hs0).mono ?_
    rintro e w' ⟨⟨u, h1, h2⟩, h3⟩
    exact ⟨_, h1, h2.owK, h3⟩
  · refine (implAck_any v0 v1 m0 m1 m2 m3 W h0 h1 ok0 ok1 ok3 hs0 hs1).mono ?_
    rintro e w' ⟨⟨u, h1, h2⟩, h3⟩
    exact ⟨_, h1, h2.owK, h3⟩
end Go.Proofs.Ytfipenjojgflmaa
