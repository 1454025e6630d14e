/- A scope in which the run jumps back to one label, and forward to others: what holds at every jump back, and a measure; a jump forward goes on at its label. -/
import Derived.Test.YtejmfohkobhidaaGaA
import Derived.ScopeJumps
import Derived.WalkMore
namespace Go.Proofs.Ytejmfohkobhidaa
open Go.ChangeShapes Go.WideShapes Go.ChangeAt Go.RowKit
set_option linter.unusedVariables false

/-- As Q; by a goto to label l0: J; by a goto to another label of c: on from there, to a goto to l0 at most. -/
def exitFwd (P : Program) (c : Code) (l0 : Nat) (J : Act → World → Prop) (Q : Exit → Act → World → Prop) : Exit → Act → World → Prop
  | .goto l, a, w => (l = l0 ∧ J a w) ∨ ∃ r, findLabel c l = some r ∧ r.wp P (Exit.jump l0 J Q) a w
  | e, a, w => Q e a w
theorem exitFwd_back {P : Program} {c : Code} {l0 : Nat} {J : Act → World → Prop} {Q : Exit → Act → World → Prop} {a : Act} {w : World} (h : J a w) : exitFwd P c l0 J Q (.goto l0) a w := .inl ⟨rfl, h⟩
theorem exitFwd_on {P : Program} {c r : Code} {l0 l : Nat} {J : Act → World → Prop} {Q : Exit → Act → World → Prop} {a : Act} {w : World} (hf : findLabel c l = some r) (h : r.wp P (Exit.jump l0 J Q) a w) : exitFwd P c l0 J Q (.goto l) a w := .inr ⟨r, hf, h⟩
theorem wp_scope_fwd {P : Program} {a : Act} {w : World} {Q : Exit → Act → World → Prop} {c rest : Code} (l0 : Nat) (J : Act → World → Prop) (μ : Act → World → Nat) (hf : findLabel c l0 = some rest)
    (first : c.wp P (exitFwd P c l0 J Q) a w)
    (pass : ∀ a w, J a w → rest.wp P (exitFwd P c l0 (fun a' w' => J a' w' ∧ μ a' w' < μ a w) Q) a w) : (Code.scope c).wp P Q a w := by
  intro b k cs
  have hg : ∀ {l : Nat} {r : Code}, findLabel c l = some r → gotoIn l (.inScope c :: k) = some (.code r :: .inScope c :: k) := fun {l r} h => by simp [gotoIn, h]
  have fin : ∀ e a₁ w₁, Q e a₁ w₁ → (∀ l, e ≠ .goto l) → ∀ {a : Act} {w : World} {r : Code}, Arrives P (lone (b.at a (.code r :: .inScope c :: k)) cs w) b (.inScope c :: k) cs e a₁ w₁ → ∃ e a' w', Q e a' w' ∧ Arrives P (lone (b.at a (.code r :: .inScope c :: k)) cs w) b k cs e a' w' := by
    intro e a₁ w₁ hq hne a w r harr
    cases e with
    | normal => exact ⟨.normal, a₁, w₁, hq, Steps.trans harr (.one step_inScope)⟩
    | exit id => exact ⟨.exit id, a₁, w₁, hq, fun k' hk => harr k' (by simp [exitTo, hk])⟩
    | goto l' => exact absurd rfl (hne l')
    | ret => exact ⟨_, a₁, w₁, hq, harr⟩
    | panic ch => exact ⟨_, a₁, w₁, hq, harr⟩
    | outgrown => exact ⟨_, a₁, w₁, hq, harr⟩
  -- from a label that is no loop's, on
  have onward : ∀ (n : Nat) (J' : Act → World → Prop), (∀ a w, J' a w → ∃ e a' w', Q e a' w' ∧ Arrives P (lone (b.at a (.code rest :: .inScope c :: k)) cs w) b k cs e a' w') → ∀ (r : Code) a w, r.wp P (Exit.jump l0 J' Q) a w → ∃ e a' w', Q e a' w' ∧ Arrives P (lone (b.at a (.code r :: .inScope c :: k)) cs w) b k cs e a' w' := by
    intro n J' hJ' r a w hr
    obtain ⟨e, a₁, w₁, hq, harr⟩ := hr b (.inScope c :: k) cs
    cases e with
    | goto l' =>
      obtain ⟨rfl, hj⟩ := hq
      obtain ⟨e₂, a₂, w₂, hq₂, harr₂⟩ := hJ' _ _ hj
      exact ⟨e₂, a₂, w₂, hq₂, .of_steps (harr _ (hg hf)) harr₂⟩
    | normal => exact fin _ _ _ hq (by intro l h; cases h) harr
    | exit id => exact fin _ _ _ hq (by intro l h; cases h) harr
    | ret => exact fin _ _ _ hq (by intro l h; cases h) harr
    | panic ch => exact fin _ _ _ hq (by intro l h; cases h) harr
    | outgrown => exact fin _ _ _ hq (by intro l h; cases h) harr
  have body : ∀ (J' : Act → World → Prop), (∀ a w, J' a w → ∃ e a' w', Q e a' w' ∧ Arrives P (lone (b.at a (.code rest :: .inScope c :: k)) cs w) b k cs e a' w') → ∀ (r : Code) a w, r.wp P (exitFwd P c l0 J' Q) a w → ∃ e a' w', Q e a' w' ∧ Arrives P (lone (b.at a (.code r :: .inScope c :: k)) cs w) b k cs e a' w' := by
    intro J' hJ' r a w hr
    obtain ⟨e, a₁, w₁, hq, harr⟩ := hr b (.inScope c :: k) cs
    cases e with
    | goto l' =>
      rcases hq with ⟨rfl, hj⟩ | ⟨r', hf', hr'⟩
      · obtain ⟨e₂, a₂, w₂, hq₂, harr₂⟩ := hJ' _ _ hj
        exact ⟨e₂, a₂, w₂, hq₂, .of_steps (harr _ (hg hf)) harr₂⟩
      · obtain ⟨e₂, a₂, w₂, hq₂, harr₂⟩ := onward 0 J' hJ' r' a₁ w₁ hr'
        exact ⟨e₂, a₂, w₂, hq₂, .of_steps (harr _ (hg hf')) harr₂⟩
    | normal => exact fin _ _ _ hq (by intro l h; cases h) harr
    | exit id => exact fin _ _ _ hq (by intro l h; cases h) harr
    | ret => exact fin _ _ _ hq (by intro l h; cases h) harr
    | panic ch => exact fin _ _ _ hq (by intro l h; cases h) harr
    | outgrown => exact fin _ _ _ hq (by intro l h; cases h) harr
  have key : ∀ n a w, μ a w = n → J a w → ∃ e a' w', Q e a' w' ∧ Arrives P (lone (b.at a (.code rest :: .inScope c :: k)) cs w) b k cs e a' w' := by
    intro n
    induction n using Nat.strongRecOn with
    | _ n ih =>
      intro a w hn hJ
      exact body _ (fun a' w' ⟨h1, h2⟩ => ih _ (by omega) a' w' rfl h1) rest a w (pass a w hJ)
  obtain ⟨e₂, a₂, w₂, hq₂, harr₂⟩ := body J (fun a' w' h => key _ a' w' rfl h) c a w first
  exact ⟨e₂, a₂, w₂, hq₂, .of_steps (.one step_scope) harr₂⟩
theorem exitFwd_mono {P : Program} {c : Code} {l0 : Nat} {J J' : Act → World → Prop} {Q : Exit → Act → World → Prop} (hJ : ∀ a w, J a w → J' a w) : ∀ e a w, exitFwd P c l0 J Q e a w → exitFwd P c l0 J' Q e a w := by
  intro e a w h
  cases e with
  | goto l =>
    rcases h with ⟨rfl, h⟩ | ⟨r, hf, hr⟩
    · exact .inl ⟨rfl, hJ _ _ h⟩
    · refine .inr ⟨r, hf, wp_mono hr fun e a w h => ?_⟩
      cases e with
      | goto l => exact ⟨h.1, hJ _ _ h.2⟩
      | _ => exact h
  | _ => exact h
theorem then_goto {K : Act → World → Prop} {Q : Exit → Act → World → Prop} {l : Nat} {a : Act} {w : World} (h : Q (.goto l) a w) : Exit.then K Q (.goto l) a w := h
/-- .. where what stands ahead of the label runs through. -/
theorem wp_scope_loop {P : Program} {a : Act} {w : World} {Q : Exit → Act → World → Prop} {pre R : Code} (l0 : Nat) (J : Act → World → Prop) (μ : Act → World → Nat) (hf : findLabel (.seq pre (.seq (.label l0) R)) l0 = some (.seq .skip R))
    (first : pre.wp P (Exit.then J (fun _ _ _ => False)) a w)
    (pass : ∀ a w, J a w → R.wp P (exitFwd P (.seq pre (.seq (.label l0) R)) l0 (fun a' w' => J a' w' ∧ μ a' w' < μ a w) Q) a w) : (Code.scope (.seq pre (.seq (.label l0) R))).wp P Q a w := by
  refine wp_scope_fwd l0 J μ hf ?_ fun a w hJ => wp_seq (wp_skip (pass a w hJ))
  refine wp_seq (wp_mono first fun e a w h => ?_)
  cases e with
  | normal => exact wp_seq (wp_label (wp_mono (pass a w h) (exitFwd_mono fun a w h => h.1)))
  | _ => exact h.elim
end Go.Proofs.Ytejmfohkobhidaa
