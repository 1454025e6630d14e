/- MendForget: spec's and impl's answers, as the law asks for them. -/
import Derived.Test.YtjbfpmackocgnaaMnQ
import Derived.Test.YtjbfpmackocgnaaMnSd
import Derived.Test.YtjbfpmackocgnaaBoxS
namespace Go.Proofs.Ytjbfpmackocgnaa
open Go.ChangeShapes Go.WideShapes Go.ChangeAt Go.RowKit
set_option linter.unusedVariables false

theorem sumL_less (x : Int) : ∀ (l : List (List Int)), sumL (l.map fun e => lessL e [x]) ≤ sumL l
  | [] => by simp [sumL]
  | a :: l => by
    have ih := sumL_less x l
    have h := lessL_len a [x]
    rw [List.map_cons, sumL_cons, sumL_cons]
    omega
theorem bothMendForget_ (m0 : List Int × Int) (m1 : Mn) (m2 : Int) (ok0 : okConfig m0) (ok1 : okMend m1) (ok2 : okInt m2) (hs0 : sizConfig m0 ≤ 1048576) (hs1 : sizMend m1 ≤ 1048576) : ∃ (R : Mn) (s1 : Bool), cntMend R ≤ 8388608 ∧ (∀ W v0 v1, RdConfig v0 m0 W → RdMend v1 m1 W → Calls Try.prog 50 #[v0, v1, .int .i64 m2] W fun e w' => ∃ u, e = .returned (.tuple #[u, .bool s1]) ∧ Sits (OwMend W.heap.size w'.heap.size u R) W.heap.size w'.heap.size w' ∧ Below W.heap.size W w') ∧ (∀ W v0 v1, RdConfig v0 m0 W → RdMend v1 m1 W → Calls Try.prog 51 #[v0, v1, .int .i64 m2] W fun e w' => ∃ u, e = .returned (.tuple #[u, .bool s1]) ∧ Sits (OwMend W.heap.size w'.heap.size u R) W.heap.size w'.heap.size w' ∧ Below W.heap.size W w') := by
  refine ⟨(forg9M m0.1 m0.2 m1 m2).1, (forg9M m0.1 m0.2 m1 m2).2, ?_, fun W v0 v1 h0 h1 => ?_, fun W v0 v1 h0 h1 => ?_⟩
  · by_cases hp : mnP m0.1 m0.2 m1
    · rw [forg9M_yes hp]
      have h1 := cntMend_le hs1
      have h2 := sumL_less m2 m1.wrote
      unfold cntMend cntIntSS at h1
      unfold cntMend cntIntSS forg9W
      simp only
      omega
    · rw [forg9M_bad hp]; simp [zeroMn, cntMend, cntEntryS, cntIntSS, sumL]
  · refine (specForget9_any v0 v1 m0 m1 m2 W h0 h1 ok1.2.2.2.1 hs1 hs0).mono ?_
    rintro e w' ⟨⟨u, h1, h2⟩, h3⟩
    exact ⟨_, h1, h2.sits (Nat.le_refl _), h3⟩
  · refine (implForget9_any v0 v1 m0 m1 m2 W h0 h1 ok0 ok1 hs0 hs1).mono ?_
    rintro e w' ⟨⟨u, h1, h2⟩, h3⟩
    exact ⟨_, h1, h2.sits (Nat.le_refl _), h3⟩
end Go.Proofs.Ytjbfpmackocgnaa
