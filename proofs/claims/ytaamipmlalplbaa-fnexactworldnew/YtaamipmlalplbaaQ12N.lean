/- WorldNew: both answers. -/
import Derived.Test.YtaamipmlalplbaaWnA
namespace Go.Proofs.Ytaamipmlalplbaa
open Go.ChangeShapes Go.WideShapes Go.ChangeAt Go.RowKit
set_option linter.unusedVariables false

/-- A world of nothing. -/
def zeroW : Wo := ⟨([], 0), [], [], ⟨[], 0⟩, [], [], [], [], false⟩
theorem owZero (lo hi : Nat) (w : World) (h : lo ≤ hi) : OwWorld lo hi (.agg #[.slice none 0 0, .int .i64 0, .slice none 0 0, .slice none 0 0, .slice none 0 0, .int .i64 0, .slice none 0 0, .slice none 0 0, .slice none 0 0, .slice none 0 0, .bool false]) zeroW w := by
  have nD : ∀ {n : Nat} {μ : Type} {Ow : Nat → Nat → Value → μ → World → Prop}, OwD n Ow lo lo (.slice none 0 0) ([] : List μ) w := ⟨[], fun _ => lo, rfl, OwnRw.nil _ _ _ _ (by omega), .inl rfl, ⟨Nat.le_refl _, fun _ _ => Nat.le_refl _, Nat.le_refl _⟩, fun i h => absurd h (by simp)⟩
  have nN : OwN lo lo (.slice none 0 0) [] w := ⟨⟨by simp, none, 0, rfl, by simp, .inl rfl⟩, .inl rfl⟩
  exact ⟨.slice none 0 0, .slice none 0 0, .slice none 0 0, .slice none 0 0, .slice none 0 0, .slice none 0 0, .slice none 0 0, .slice none 0 0, fun _ => lo, fun _ => lo, rfl, ⟨fun i _ => ⟨Nat.le_refl _, h⟩, fun i j _ _ _ => .inl (Nat.le_refl _)⟩, nN, ⟨[], fun _ => lo, rfl, OwnRw.nil _ _ _ _ (by omega), .inl rfl, ⟨Nat.le_refl _, fun _ _ => Nat.le_refl _, Nat.le_refl _⟩, fun i h => absurd h (by simp)⟩, nN, ⟨[], rfl, OwnRw.nil _ _ _ _ (by omega), .inl rfl, fun p hp => absurd hp (by simp), by simp [Apart]⟩, nD, nD, nD, ⟨OwnRw.nil _ _ _ _ (by omega), .inl rfl⟩⟩
theorem cntNew (n : Nat) : cntStoreS (List.replicate n ⟨[], [], 0⟩) = n := by
  unfold cntStoreS
  induction n with
  | zero => rfl
  | succ n ih => rw [List.replicate_succ, List.map_cons, List.sum_cons, ih]; simp [cntStore, cntEntryS]; omega
theorem bothWorldNew_ (m0 : List Int × Int) (ok0 : okConfig m0) (hs0 : sizConfig m0 ≤ 1048576) : ∃ (R : Wo) (s1 : Bool), (bareW R ∧ R.readers.length ≤ 1048576 ∧ cntBare R ≤ 8388608) ∧ (∀ W v0, RdConfig v0 m0 W → Calls Try.prog 5 #[v0] W fun e w' => ∃ u, e = .returned (.tuple #[u, .bool s1]) ∧ Sits (OwWorld W.heap.size w'.heap.size u R) W.heap.size w'.heap.size w' ∧ Below W.heap.size W w') ∧ (∀ W v0, RdConfig v0 m0 W → Calls Try.prog 7 #[v0] W fun e w' => ∃ u, e = .returned (.tuple #[u, .bool s1]) ∧ Sits (OwWorld W.heap.size w'.heap.size u R) W.heap.size w'.heap.size w' ∧ Below W.heap.size W w') := by
  obtain ⟨ds, cop⟩ := m0
  obtain ⟨ha, c0, c1⟩ := ok0
  have hl : ds.length ≤ 1048576 := hs0
  simp only at ha c0 c1
  by_cases h : cfgP ds cop
  · have hn := h.1.2
    refine ⟨newW ds cop, true, ⟨newW_bare ds cop, by simp [newW], ?_⟩, ?_, ?_⟩
    · unfold cntBare
      simp only [newW, cntNew, List.length_cons, List.length_nil]
      omega
    · rintro W v0 ⟨sv, rfl, hv⟩
      exact (specWorldNew_yes sv ds cop W hv ha hl c0 c1 h).mono fun e w' ⟨⟨u, h1, h2⟩, h3⟩ => ⟨u, h1, h2.sits (Nat.le_refl _), h3⟩
    · rintro W v0 ⟨sv, rfl, hv⟩
      exact (implWorldNew_yes sv ds cop W hv ha hl c0 c1 h).mono fun e w' ⟨⟨u, h1, h2⟩, h3⟩ => ⟨u, h1, h2.sits (Nat.le_refl _), h3⟩
  · refine ⟨zeroW, false, ⟨⟨rfl, rfl, rfl, rfl, rfl, fun x hx => absurd hx (by simp [zeroW])⟩, by simp [zeroW], by simp [cntBare, zeroW, cntStoreS]⟩, ?_, ?_⟩
    · rintro W v0 ⟨sv, rfl, hv⟩
      exact (specWorldNew_no sv ds cop W hv ha hl c0 c1 h).mono fun e w' ⟨h1, h3⟩ => ⟨_, h1, (owZero _ _ _ h3.size).sits (Nat.le_refl _), h3⟩
    · rintro W v0 ⟨sv, rfl, hv⟩
      exact (implWorldNew_no sv ds cop W hv ha hl c0 c1 h).mono fun e w' ⟨h1, h3⟩ => ⟨_, h1, (owZero _ _ _ h3.size).sits (Nat.le_refl _), h3⟩
end Go.Proofs.Ytaamipmlalplbaa
