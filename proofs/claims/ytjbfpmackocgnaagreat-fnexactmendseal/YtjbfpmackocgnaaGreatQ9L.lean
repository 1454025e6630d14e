/- MendSeal: spec's and impl's answers, as the law asks for them. -/
import Derived.Test.YtjbfpmackocgnaaGreatMnU
import Derived.Test.YtjbfpmackocgnaaGreatMnV
import Derived.Test.YtjbfpmackocgnaaGreatMnSd
import Derived.Test.YtjbfpmackocgnaaGreatBoxS
import Derived.Test.YtjbfpmackocgnaaGreatOpenN
namespace Go.Proofs.YtjbfpmackocgnaaGreat
open Go.ChangeShapes Go.WideShapes Go.ChangeAt Go.RowKit
set_option linter.unusedVariables false

theorem bothMendSeal_ (m0 : List Int × Int) (m1 : Mn) (m2 : Int) (m3 : List Ent) (ok0 : okConfig m0) (ok1 : okMend m1) (ok2 : okInt m2) (ok3 : okEntryS m3) (hs0 : sizConfig m0 ≤ 1048576) (hs1 : sizMend m1 ≤ 1048576) (hs3 : sizEntryS m3 ≤ 1048576) : ∃ (R : Mn) (s1 : Bool), cntMend R ≤ 8388608 ∧ (∀ W v0 v1 v3, RdConfig v0 m0 W → RdMend v1 m1 W → RdEntryS v3 m3 W → Calls Tryz.prog 11 #[v0, v1, .int .i64 m2, v3] W fun e w' => ∃ u, e = .returned (.tuple #[u, .bool s1]) ∧ Sits (OwMend W.heap.size w'.heap.size u R) W.heap.size w'.heap.size w' ∧ Below W.heap.size W w') ∧ (∀ W v0 v1 v3, RdConfig v0 m0 W → RdMend v1 m1 W → RdEntryS v3 m3 W → Calls Tryz.prog 10 #[v0, v1, .int .i64 m2, v3] W fun e w' => ∃ u, e = .returned (.tuple #[u, .bool s1]) ∧ Sits (OwMend W.heap.size w'.heap.size u R) W.heap.size w'.heap.size w' ∧ Below W.heap.size W w') := by
  have hl3 : m3.length ≤ 1048576 := by unfold sizEntryS at hs3; omega
  refine ⟨(seal9M m0.1 m0.2 m1 m2 m3).1, (seal9M m0.1 m0.2 m1 m2 m3).2, ?_, fun W v0 v1 v3 h0 h1 h3 => ?_, fun W v0 v1 v3 h0 h1 h3 => ?_⟩
  · by_cases hp : mnP m0.1 m0.2 m1
    · by_cases ha : seal9P m0.1 m0.2 m1 m2 m3
      · rw [seal9M_yes hp ha]
        have h1 := cntMend_le hs1
        have h2 := putL_len m2 m1.sealed
        have h3 := nodes_few hp.1.2.2.2.1
        have h4 := (goodE.see hp.1.2.1.1 m3 _ hp.good).len
        have h5 := hp.wrote00 ha.1
        unfold cntMend cntIntSS seal9W cntEntryS
        simp only
        rw [h5]
        simp only [sumL, List.map_nil, List.sum_nil]
        omega
      · rw [seal9M_no hp ha]; have := cntMend_le hs1; simp only; omega
    · rw [seal9M_bad hp]; simp [zeroMn, cntMend, cntEntryS, cntIntSS, sumL]
  · refine (specSeal9_any v0 v1 v3 m0 m1 m2 m3 W h0 h1 h3 ok1.2.2.2.1 ok3 hs1 hs0 hl3).mono ?_
    rintro e w' ⟨⟨u, h1, h2⟩, h3⟩
    exact ⟨_, h1, h2.sits (Nat.le_refl _), h3⟩
  · refine (implSeal9_any v0 v1 m0 m1 m2 v3 m3 W h0 h1 h3 ok2 ok3 hl3 ok0 ok1 hs0 hs1).mono ?_
    rintro e w' ⟨⟨u, h1, h2⟩, h3⟩
    exact ⟨_, h1, h2.sits (Nat.le_refl _), h3⟩
end Go.Proofs.YtjbfpmackocgnaaGreat
