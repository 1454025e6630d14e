/- WriterForget: spec's and impl's answers, as the law asks for them. -/
import Derived.Test.YtfipenjojgflmaaWrP
import Derived.Test.YtfipenjojgflmaaWrSd
import Derived.Test.YtfipenjojgflmaaBoxR
namespace Go.Proofs.Ytfipenjojgflmaa
open Go.ChangeShapes Go.WideShapes Go.ChangeAt Go.RowKit
set_option linter.unusedVariables false

theorem WAp.owF {w' : World} {u : Value} {R : Wt} {base : Nat} (h : WAp w' base u R.words) : Sits (OwWriter base w'.heap.size (.agg #[.int .i64 R.epoch, u]) R) base w'.heap.size w' := OwWriter.sits ⟨u, rfl, h.ow⟩ (Nat.le_refl _)
theorem cntForg {m : Wt} {x : Int} (hs : sizWriter m ≤ 1048576) : cntWriter ⟨m.epoch, m.words.map (forgW x)⟩ ≤ 4194304 := by
  have h1 := cntWriter_le hs
  have h2 : cntWriter ⟨m.epoch, m.words.map (forgW x)⟩ ≤ cntWriter m := by
    unfold cntWriter cntWordS sumW
    simp only [List.length_map, List.map_map]
    have : ∀ l : List Wd, (l.map ((fun e => e.acks.length) ∘ forgW x)).sum ≤ (l.map fun e => e.acks.length).sum := fun l => by
      induction l with
      | nil => simp
      | cons e l ih =>
        simp only [List.map_cons, List.sum_cons, Function.comp]
        have he : (forgW x e).acks.length ≤ e.acks.length := by
          unfold forgW
          simp only
          split
          · exact Nat.le_refl _
          · exact lessL_len _ _
        have ih' : (l.map (fun e => (forgW x e).acks.length)).sum ≤ (l.map fun e => e.acks.length).sum := ih
        have e9 : (l.map ((fun e => e.acks.length) ∘ forgW x)).sum = (l.map (fun e => (forgW x e).acks.length)).sum := rfl
        omega
    have := this m.words
    omega
  omega
theorem bothWriterForget_ (m0 : List Int × Int) (m1 : Wt) (m2 : Int) (ok0 : okConfig m0) (ok1 : okWriter m1) (ok2 : okInt m2) (hs0 : sizConfig m0 ≤ 1048576) (hs1 : sizWriter m1 ≤ 1048576) : ∃ (R : Wt) (s1 : Bool), cntWriter R ≤ 4194304 ∧ (∀ W v0 v1, RdConfig v0 m0 W → RdWriter v1 m1 W → Calls Try.prog 26 #[v0, v1, .int .i64 m2] W fun e w' => ∃ u, e = .returned (.tuple #[u, .bool s1]) ∧ Sits (OwWriter W.heap.size w'.heap.size u R) W.heap.size w'.heap.size w' ∧ Below W.heap.size W w') ∧ (∀ W v0 v1, RdConfig v0 m0 W → RdWriter v1 m1 W → Calls Try.prog 25 #[v0, v1, .int .i64 m2] W fun e w' => ∃ u, e = .returned (.tuple #[u, .bool s1]) ∧ Sits (OwWriter W.heap.size w'.heap.size u R) W.heap.size w'.heap.size w' ∧ Below W.heap.size W w') := by
  refine ⟨(forgM m0.1 m0.2 m1 m2).1, (forgM m0.1 m0.2 m1 m2).2, ?_, fun W v0 v1 h0 h1 => ?_, fun W v0 v1 h0 h1 => ?_⟩
  · by_cases hp : wrP m0.1 m0.2 m1
    · rw [forgM_yes hp]; exact cntForg hs1
    · rw [forgM_bad hp]; decide
  · refine (specForget_any v0 v1 m0 m1 m2 W h0 h1 hs1).mono ?_
    rintro e w' ⟨⟨u, h1, h2⟩, h3⟩
    exact ⟨_, h1, h2.owF, h3⟩
  · refine (implForget_any v0 v1 m0 m1 m2 W h0 h1 ok0 ok1 hs0 hs1).mono ?_
    rintro e w' ⟨⟨u, h1, h2⟩, h3⟩
    exact ⟨_, h1, h2.owF, h3⟩
end Go.Proofs.Ytfipenjojgflmaa
