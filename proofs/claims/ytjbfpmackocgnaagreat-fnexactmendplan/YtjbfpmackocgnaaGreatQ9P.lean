/- MendPlan: spec's and impl's answers, as the law asks for them. -/
import Derived.Test.YtjbfpmackocgnaaGreatMnT
import Derived.Test.YtjbfpmackocgnaaGreatMnSd
import Derived.Test.YtjbfpmackocgnaaGreatBoxS
namespace Go.Proofs.YtjbfpmackocgnaaGreat
open Go.ChangeShapes Go.WideShapes Go.ChangeAt Go.RowKit
set_option linter.unusedVariables false

theorem sumL_rep (n : Nat) : sumL (List.replicate n []) = 0 := by
  unfold sumL
  simp
theorem bothMendPlan_ (m0 : List Int × Int) (m1 : Mn) (m2 : List Int) (ok0 : okConfig m0) (ok1 : okMend m1) (ok2 : okIntS m2) (hs0 : sizConfig m0 ≤ 1048576) (hs1 : sizMend m1 ≤ 1048576) (hs2 : sizIntS m2 ≤ 1048576) : ∃ (R : Mn) (s1 : Bool), cntMend R ≤ 8388608 ∧ (∀ W v0 v1 v2, RdConfig v0 m0 W → RdMend v1 m1 W → RdIntS v2 m2 W → Calls Tryz.prog 17 #[v0, v1, v2] W fun e w' => ∃ u, e = .returned (.tuple #[u, .bool s1]) ∧ Sits (OwMend W.heap.size w'.heap.size u R) W.heap.size w'.heap.size w' ∧ Below W.heap.size W w') ∧ (∀ W v0 v1 v2, RdConfig v0 m0 W → RdMend v1 m1 W → RdIntS v2 m2 W → Calls Tryz.prog 16 #[v0, v1, v2] W fun e w' => ∃ u, e = .returned (.tuple #[u, .bool s1]) ∧ Sits (OwMend W.heap.size w'.heap.size u R) W.heap.size w'.heap.size w' ∧ Below W.heap.size W w') := by
  refine ⟨(plan9M m0.1 m0.2 m1 m2).1, (plan9M m0.1 m0.2 m1 m2).2, ?_, fun W v0 v1 v2 h0 h1 h2 => ?_, fun W v0 v1 v2 h0 h1 h2 => ?_⟩
  · by_cases hp : mnP m0.1 m0.2 m1
    · by_cases ha : plan9P m0.1 m0.2 m1 m2
      · rw [plan9M_yes hp ha]
        have h1 := cntMend_le hs1
        have h2 := sumL_rep (lastO m1.seen).toNat
        unfold cntMend cntIntSS at h1
        unfold cntMend cntIntSS plan9W
        simp only
        omega
      · rw [plan9M_no hp ha]; have := cntMend_le hs1; simp only; omega
    · rw [plan9M_bad hp]; simp [zeroMn, cntMend, cntEntryS, cntIntSS, sumL]
  · refine (specPlan9_any v0 v1 v2 m0 m1 m2 W h0 h1 h2 ok1.2.2.2.1 hs1 hs0 hs2).mono ?_
    rintro e w' ⟨⟨u, h1, h2⟩, h3⟩
    exact ⟨_, h1, h2.sits (Nat.le_refl _), h3⟩
  · refine (implPlan9_any v0 v1 m0 m1 v2 m2 W h0 h1 h2 ok2 hs2 ok0 ok1 hs0 hs1).mono ?_
    rintro e w' ⟨⟨u, h1, h2⟩, h3⟩
    exact ⟨_, h1, h2.sits (Nat.le_refl _), h3⟩
end Go.Proofs.YtjbfpmackocgnaaGreat
