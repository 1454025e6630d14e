/- Eras and registers, as the exact laws handle them: copied. -/
import Derived.Test.YthndkkjgjhgdnaaDoorSitR
import Derived.Test.YthndkkjgjhgdnaaDoorGaB
namespace Go.Proofs.YthndkkjgjhgdnaaDoor
open Go.ChangeShapes Go.WideShapes Go.ChangeAt Go.RowKit
set_option linter.unusedVariables false
set_option linter.unusedSimpArgs false
set_option maxRecDepth 100000

/-- Zero. -/
def zeroEr : Nst Er := ⟨none, 0, [], false, 0⟩
theorem zeroEr_cells : ∀ (j : Nat) (u : Value), (erCl zeroEr)[j]? = some u → (Value.agg #[.slice none 0 0, .bool false, .int .i64 0]).cells[j]? = some u := by
  have e : (Value.agg #[.slice none 0 0, .bool false, .int .i64 0]).cells = #[.slice none 0 0, .bool false, .int .i64 0] := by kernel_rfl
  intro j u hu
  rw [e]
  have : (erCl zeroEr) = [.slice none 0 0, .bool false, .int .i64 0] := rfl
  rw [this] at hu
  simpa using hu
/-- The eras copied so far. -/
def CopK (wr : World) (b : Nat) (rs : List (Nst Er)) (k : Nat) (f : Nat → Nst Er) : Prop :=
  RowG 3 erCl wr b 0 rs.length f ∧ (∀ i (h : i < rs.length), i < k → (f i).m = rs[i].m ∧ OwnN wr (b + 1) (Sv Er.nodes (f i)) (f i).m.nodes) ∧ ∀ i j, i < k → j < k → i < j → (f i).m.nodes = [] ∨ (f j).m.nodes = [] ∨ blockOf (Sv Er.nodes (f i)) ≠ blockOf (Sv Er.nodes (f j))
theorem CopK.step {wr w2 : World} {b k : Nat} {rs : List (Nst Er)} {f : Nat → Nst Er} (h : CopK wr b rs k f) (hk : k < rs.length) (hb2 : Below wr.heap.size wr w2) (hbw : b < wr.heap.size) {qa : Option Addr} {qc : Nat} (ho : OwnN w2 wr.heap.size (.slice qa rs[k].m.nodes.length qc) rs[k].m.nodes) :
    CopK (((w2.setCell ⟨b, k * 3, none⟩ (.slice qa rs[k].m.nodes.length qc)).setCell ⟨b, k * 3 + 1, none⟩ (.bool rs[k].m.closed)).setCell ⟨b, k * 3 + 2, none⟩ (.int .i64 rs[k].m.last)) b rs (k + 1) (putG f k ⟨qa, qc, rs[k].m⟩) := by
  obtain ⟨h1, h2, h3⟩ := h
  have far : ∀ {base : Nat} {v : Value} {xs : List Int}, OwnN w2 base v xs → b < base → OwnN (((w2.setCell ⟨b, k * 3, none⟩ (.slice qa rs[k].m.nodes.length qc)).setCell ⟨b, k * 3 + 1, none⟩ (.bool rs[k].m.closed)).setCell ⟨b, k * 3 + 2, none⟩ (.int .i64 rs[k].m.last)) base v xs := fun {base v xs} q hb => ((q.far hb _).far hb _).far hb _
  refine ⟨?_, fun i hi hik => ?_, fun i j hi hj hij => ?_⟩
  · have r1 := (h1.below hb2).put erCl_len hk 0 (by decide) (.slice qa rs[k].m.nodes.length qc) ⟨qa, qc, ⟨rs[k].m.nodes, (f k).m.closed, (f k).m.last⟩⟩ rfl
    have r2 := r1.put erCl_len hk 1 (by decide) (.bool rs[k].m.closed) ⟨qa, qc, ⟨rs[k].m.nodes, rs[k].m.closed, (f k).m.last⟩⟩ (by rw [putG_same]; rfl)
    have r3 := r2.put erCl_len hk 2 (by decide) (.int .i64 rs[k].m.last) ⟨qa, qc, rs[k].m⟩ (by rw [putG_same]; rfl)
    simpa [putG_twice] using r3
  · by_cases e : i = k
    · subst e
      rw [putG_same]
      exact ⟨rfl, far (ho.mono (by omega)) (by omega)⟩
    · rw [putG_ne _ _ e]
      have q := h2 i hi (by omega)
      exact ⟨q.1, far (q.2.below hb2) (by omega)⟩
  · by_cases e : j = k
    · subst e
      rw [putG_same, putG_ne _ _ (by omega)]
      have q := h2 i (by omega) (by omega)
      rcases q.2.bs.lt with h | h
      · exact .inl h
      · rcases ho.ge with h' | h'
        · exact .inr (.inl h')
        · right; right
          have e1 : blockOf (Sv Er.nodes (⟨qa, qc, rs[j].m⟩ : Nst Er)) = blockOf (.slice qa rs[j].m.nodes.length qc) := rfl
          rw [e1]
          omega
    · rw [putG_ne _ _ e, putG_ne _ _ (by omega)]
      exact h3 i j (by omega) (by omega) hij
end Go.Proofs.YthndkkjgjhgdnaaDoor
