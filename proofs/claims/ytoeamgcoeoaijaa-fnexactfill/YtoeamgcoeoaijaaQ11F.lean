/- Fill: what the exact law asks. -/
import Derived.Test.YtoeamgcoeoaijaaFiI
import Derived.Test.YtoeamgcoeoaijaaGaD
import Derived.Test.YtoeamgcoeoaijaaSitH
namespace Go.Proofs.Ytoeamgcoeoaijaa
open Go.ChangeShapes Go.WideShapes Go.ChangeAt Go.RowKit
set_option linter.unusedVariables false
theorem fillM_cnt {ds : List Int} {cop : Int} {ms : List St} {lost : List Int} {node upto : Int} (h : sizStoreS ms ≤ 1048576) : cntStore (fillM ds cop ms lost node upto).1 ≤ 8388608 := by
  by_cases hp : fillP ds cop ms lost node upto
  · rw [fillM_yes hp]
    have h1 := Nat.le_trans (unL_len (kepts (othL lost ms))) (sumQ_siz (othL lost ms))
    have h2 := othL_siz (lost := lost) h
    unfold sizStoreS at h2
    show cntEntryS _ + cntEntryS [] ≤ _
    unfold cntEntryS
    simp only [List.length_nil]
    omega
  · rw [fillM_no hp]
    exact Nat.zero_le _
theorem bothFill_ (m0 : List Int × Int) (m1 : List St) (m2 : List Int) (m3 m4 : Int) (ok0 : okConfig m0) (ok1 : okStoreS m1) (ok2 : okIntS m2) (ok3 : okInt m3) (ok4 : okInt m4) (hs0 : sizConfig m0 ≤ 1048576) (hs1 : sizStoreS m1 ≤ 1048576) (hs2 : sizIntS m2 ≤ 1048576) : ∃ (R : St) (s1 : Bool), cntStore R ≤ 8388608 ∧ (∀ W v0 v1 v2, RdConfig v0 m0 W → RdStoreS v1 m1 W → RdIntS v2 m2 W → Calls Try.prog 29 #[v0, v1, v2, .int .i64 m3, .int .i64 m4] W fun e w' => ∃ u, e = .returned (.tuple #[u, .bool s1]) ∧ Sits (OwStore W.heap.size w'.heap.size u R) W.heap.size w'.heap.size w' ∧ Below W.heap.size W w') ∧ (∀ W v0 v1 v2, RdConfig v0 m0 W → RdStoreS v1 m1 W → RdIntS v2 m2 W → Calls Try.prog 30 #[v0, v1, v2, .int .i64 m3, .int .i64 m4] W fun e w' => ∃ u, e = .returned (.tuple #[u, .bool s1]) ∧ Sits (OwStore W.heap.size w'.heap.size u R) W.heap.size w'.heap.size w' ∧ Below W.heap.size W w') := by
  obtain ⟨ds, cop⟩ := m0
  obtain ⟨had, c0, c1⟩ := ok0
  unfold sizConfig at hs0
  unfold sizIntS at hs2
  refine ⟨(fillM ds cop m1 m2 m3 m4).1, (fillM ds cop m1 m2 m3 m4).2, fillM_cnt hs1, fun W v0 v1 v2 h0 h1 h2 => ?_, fun W v0 v1 v2 h0 h1 h2 => ?_⟩
  · obtain ⟨sv, rfl, hc⟩ := h0
    refine (specFill_any sv v1 v2 ds cop m1 m2 m3 m4 W hc h1 h2 ok1 hs1 ok2 hs2 had hs0 c0 c1 ok4.1 ok4.2).mono ?_
    rintro e w' ⟨⟨u, rfl, A⟩, b⟩
    exact ⟨u, rfl, A.sits, b⟩
  · obtain ⟨sv, rfl, hc⟩ := h0
    refine (implFill_any sv v1 v2 ds cop m1 m2 m3 m4 W hc h1 h2 ok1 hs1 ok2 hs2 had hs0 c0 c1 ok4.1 ok4.2).mono ?_
    rintro e w' ⟨⟨u, rfl, A⟩, b⟩
    exact ⟨u, rfl, A.sits, b⟩
end Go.Proofs.Ytoeamgcoeoaijaa
