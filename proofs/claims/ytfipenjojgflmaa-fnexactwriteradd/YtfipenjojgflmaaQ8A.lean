/- WriterAdd: spec's and impl's answers, as the law asks for them. -/
import Derived.Test.YtfipenjojgflmaaWrK
import Derived.Test.YtfipenjojgflmaaWrSd
import Derived.Test.YtfipenjojgflmaaBoxR
namespace Go.Proofs.Ytfipenjojgflmaa
open Go.ChangeShapes Go.WideShapes Go.ChangeAt Go.RowKit
set_option linter.unusedVariables false

theorem WAp.owW {W w' : World} {u : Value} {R : Wt} {base : Nat} (h : WAp w' base u R.words) : Sits (OwWriter base w'.heap.size (.agg #[.int .i64 R.epoch, u]) R) base w'.heap.size w' := OwWriter.sits ⟨u, rfl, h.ow⟩ (Nat.le_refl _)
theorem cntAdd {m : Wt} {d : ByteArray} (hs : sizWriter m ≤ 1048576) : cntWriter (addW m d) ≤ 4194304 := by
  unfold sizWriter sizWordS sumX sumW at hs
  unfold cntWriter cntWordS addW sumW
  simp only [List.length_append, List.map_append, List.sum_append, List.length_cons, List.length_nil, List.map_cons, List.map_nil, List.sum_cons, List.sum_nil] at *
  omega
theorem cntM {m : Wt} (hs : sizWriter m ≤ 1048576) : cntWriter m ≤ 4194304 := by have := cntWriter_le hs; omega
theorem bothWriterAdd_ (m0 : List Int × Int) (m1 : Wt) (m2 : ByteArray) (ok0 : okConfig m0) (ok1 : okWriter m1) (ok2 : okStr m2) (hs0 : sizConfig m0 ≤ 1048576) (hs1 : sizWriter m1 ≤ 1048576) (hs2 : m2.size ≤ 1048576) : ∃ (R : Wt) (s1 : Int) (s2 : Bool), cntWriter R ≤ 4194304 ∧ (∀ W v0 v1, RdConfig v0 m0 W → RdWriter v1 m1 W → Calls Try.prog 15 #[v0, v1, .string m2] W fun e w' => ∃ u, e = .returned (.tuple #[u, .int .i64 s1, .bool s2]) ∧ Sits (OwWriter W.heap.size w'.heap.size u R) W.heap.size w'.heap.size w' ∧ Below W.heap.size W w') ∧ (∀ W v0 v1, RdConfig v0 m0 W → RdWriter v1 m1 W → Calls Try.prog 14 #[v0, v1, .string m2] W fun e w' => ∃ u, e = .returned (.tuple #[u, .int .i64 s1, .bool s2]) ∧ Sits (OwWriter W.heap.size w'.heap.size u R) W.heap.size w'.heap.size w' ∧ Below W.heap.size W w') := by
  refine ⟨(addM m0.1 m0.2 m1 m2).1, (addM m0.1 m0.2 m1 m2).2.1, (addM m0.1 m0.2 m1 m2).2.2, ?_, fun W v0 v1 h0 h1 => ?_, fun W v0 v1 h0 h1 => ?_⟩
  · by_cases hp : wrP m0.1 m0.2 m1
    · by_cases ha : wrP m0.1 m0.2 (addW m1 m2)
      · rw [addM_yes hp ha]; exact cntAdd hs1
      · rw [addM_no hp ha]; exact cntM hs1
    · rw [addM_bad hp]; decide
  · refine (specAdd_any v0 v1 m0 m1 m2 W h0 h1 hs1 hs2).mono ?_
    rintro e w' ⟨⟨u, h1, h2⟩, h3⟩
    exact ⟨_, h1, h2.owW (W := W), h3⟩
  · refine (implAdd_any v0 v1 m0 m1 m2 W h0 h1 ok0 ok1 hs0 hs1 hs2).mono ?_
    rintro e w' ⟨⟨u, h1, h2⟩, h3⟩
    exact ⟨_, h1, h2.owW (W := W), h3⟩
end Go.Proofs.Ytfipenjojgflmaa
