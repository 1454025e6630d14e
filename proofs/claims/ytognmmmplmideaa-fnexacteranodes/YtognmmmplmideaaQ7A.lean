/- FirstOpen, EraNodes: spec's and impl's answers, as the laws on them ask for them. -/
import Derived.Test.YtognmmmplmideaaImGa
namespace Go.Proofs.Ytognmmmplmideaa
open Go.ChangeShapes Go.WideShapes Go.ChangeAt Go.RowKit
set_option linter.unusedVariables false

theorem eras_le {m : Rg} (h : sizRegister m ≤ 1048576) : m.eras.length ≤ 1048576 := by unfold sizRegister sizEraS at h; omega
theorem bothFirstOpen_ (m0 : Rg) (ok0 : okRegister m0) (hs0 : sizRegister m0 ≤ 1048576) : ∃ (s0 : Int), (∀ W v0, RdRegister v0 m0 W → Calls Try.prog 23 #[v0] W fun e w' => e = .returned (.int .i64 s0) ∧ Below W.heap.size W w') ∧ (∀ W v0, RdRegister v0 m0 W → Calls Try.prog 24 #[v0] W fun e w' => e = .returned (.int .i64 s0) ∧ Below W.heap.size W w') :=
  ⟨_, fun W v0 h => specFirst_any v0 m0 W h, fun W v0 h => implFirst_any v0 m0 W h (eras_le hs0)⟩
theorem eraN_len {m : Rg} (h : sizRegister m ≤ 1048576) (x : Int) : (eraN m x).length ≤ 1048576 := by
  by_cases hx : 1 ≤ x ∧ x ≤ (m.eras.length : Int)
  · obtain ⟨k, rfl⟩ : ∃ k : Nat, x = (k : Int) + 1 := ⟨(x - 1).toNat, by omega⟩
    have hk : k < m.eras.length := by omega
    rw [eraN_at hk]
    have := sumN_mem (ms := m.eras) hk
    unfold sizRegister sizEraS at h
    omega
  · rw [eraN_no hx]; simp
theorem bothEraNodes_ (m0 : Rg) (m1 : Int) (ok0 : okRegister m0) (ok1 : okInt m1) (hs0 : sizRegister m0 ≤ 1048576) : ∃ (R : List Int), cntIntS R ≤ 2097152 ∧ (∀ W v0, RdRegister v0 m0 W → Calls Try.prog 25 #[v0, .int .i64 m1] W fun e w' => ∃ u, e = .returned u ∧ Sits (OwIntS W.heap.size w'.heap.size u R) W.heap.size w'.heap.size w' ∧ Below W.heap.size W w') ∧ (∀ W v0, RdRegister v0 m0 W → Calls Try.prog 26 #[v0, .int .i64 m1] W fun e w' => ∃ u, e = .returned u ∧ Sits (OwIntS W.heap.size w'.heap.size u R) W.heap.size w'.heap.size w' ∧ Below W.heap.size W w') :=
  ⟨eraN m0 m1, by have := eraN_len hs0 m1; unfold cntIntS; omega, fun W v0 h => (specEraNodes_any v0 m0 m1 W h hs0 ok1).mono fun e w' ⟨⟨u, h1, h2⟩, h3⟩ => ⟨u, h1, h2.sits, h3⟩, fun W v0 h => (implEraNodes_any v0 m0 m1 W h hs0 ok1).mono fun e w' ⟨⟨u, h1, h2⟩, h3⟩ => ⟨u, h1, h2.sits, h3⟩⟩
end Go.Proofs.Ytognmmmplmideaa
