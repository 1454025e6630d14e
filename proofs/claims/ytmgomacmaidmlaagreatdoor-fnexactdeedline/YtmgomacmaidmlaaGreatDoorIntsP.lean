/- Slices of ints in memory: what a slice reads as ('Ns'), and a slice that lies in new memory which nobody has frozen ('OwnN'). -/
import Derived.Test.YtmgomacmaidmlaaGreatDoorBytesX
namespace Go.Proofs.YtmgomacmaidmlaaGreatDoor
open Go.ChangeShapes Go.WideShapes Go.ChangeAt Go.RowKit
set_option linter.unusedVariables false

/-- The slice v reads as the ints bs. -/
def Ns (w : World) (v : Value) (bs : List Int) : Prop :=
  bs.length ≤ 9223372036854775807 ∧ ∃ a cap, v = .slice a bs.length cap ∧ (bs.length ≤ cap ∧ cap ≤ 9223372036854775807) ∧ (bs = [] ∨ ∃ b off, a = some ⟨b, off, none⟩ ∧ ∀ i (h : i < bs.length), w.cell? ⟨b, off + i, none⟩ = some (.int .i64 bs[i]))
/-- The slice v reads as the ints bs, lies in a block from 'base' on, and may be written. -/
def OwnN (w : World) (base : Nat) (v : Value) (bs : List Int) : Prop :=
  bs.length ≤ 9223372036854775807 ∧ ∃ a cap, v = .slice a bs.length cap ∧ (bs.length ≤ cap ∧ cap ≤ 9223372036854775807) ∧ (bs = [] ∨ ∃ b off, a = some ⟨b, off, none⟩ ∧ base ≤ b ∧ ∀ i (h : i < bs.length), w.cell? ⟨b, off + i, none⟩ = some (.int .i64 bs[i]) ∧ w.frozen? ⟨b, off + i, none⟩ = false)
theorem orN_of_lt {bs : List Int} {P : Prop} {k : Nat} (h : bs = [] ∨ P) (hk : k < bs.length) : P := by
  rcases h with rfl | h
  · simp at hk
  · exact h
theorem OwnN.bs {w : World} {base : Nat} {v : Value} {bs : List Int} (h : OwnN w base v bs) : Ns w v bs := by
  obtain ⟨h0, a, cap, rfl, hcap, h⟩ := h
  refine ⟨h0, a, cap, rfl, hcap, ?_⟩
  rcases h with h | ⟨b, off, rfl, -, hc⟩
  · exact .inl h
  · exact .inr ⟨b, off, rfl, fun i hi => (hc i hi).1⟩
theorem Ns.below {w w' : World} {v : Value} {bs : List Int} (h : Ns w v bs) (hb : Below w.heap.size w w') : Ns w' v bs := by
  obtain ⟨h0, a, cap, rfl, hcap, h⟩ := h
  refine ⟨h0, a, cap, rfl, hcap, ?_⟩
  rcases h with h | ⟨b, off, rfl, hc⟩
  · exact .inl h
  · exact .inr ⟨b, off, rfl, fun i hi => (hb.cell (p := ⟨b, off + i, none⟩) (dCell_lt (hc i hi))).trans (hc i hi)⟩
theorem OwnN.below {w w' : World} {base : Nat} {v : Value} {bs : List Int} (h : OwnN w base v bs) (hb : Below w.heap.size w w') : OwnN w' base v bs := by
  obtain ⟨h0, a, cap, rfl, hcap, h⟩ := h
  refine ⟨h0, a, cap, rfl, hcap, ?_⟩
  rcases h with h | ⟨b, off, rfl, hbb, hc⟩
  · exact .inl h
  · exact .inr ⟨b, off, rfl, hbb, fun i hi => ⟨(hb.cell (p := ⟨b, off + i, none⟩) (dCell_lt (hc i hi).1)).trans (hc i hi).1, (hb.frozen (p := ⟨b, off + i, none⟩) (dCell_lt (hc i hi).1)).trans (hc i hi).2⟩⟩
theorem OwnN.mono {w : World} {base base' : Nat} {v : Value} {bs : List Int} (h : OwnN w base v bs) (hb : base' ≤ base) : OwnN w base' v bs := by
  obtain ⟨h0, a, cap, rfl, hcap, h⟩ := h
  refine ⟨h0, a, cap, rfl, hcap, ?_⟩
  rcases h with h | ⟨b, off, rfl, hbb, hc⟩
  · exact .inl h
  · exact .inr ⟨b, off, rfl, by omega, hc⟩
/-- Ints that lie elsewhere stay as they are when block bk turns. -/
theorem Ns.drawn {bk : Nat} {w w' : World} {v : Value} {bs : List Int} (h : Ns w v bs) (hd : Drawn bk w w') (hne : bs = [] ∨ blockOf v ≠ bk) : Ns w' v bs := by
  obtain ⟨h0, a, cap, rfl, hcap, h⟩ := h
  refine ⟨h0, a, cap, rfl, hcap, ?_⟩
  rcases h with h | ⟨b, off, rfl, hc⟩
  · exact .inl h
  · rcases hne with h | hne
    · exact .inl h
    · exact .inr ⟨b, off, rfl, fun i hi => hd.cell (hc i hi) hne⟩
/-- The cells of ints. -/
def ncells (bs : List Int) : List Value := bs.map fun c => Value.int .i64 c
/-- What append's law leaves is such a slice. -/
theorem ownN_of_row {w : World} {base : Nat} {v : Value} {n : Nat} {bs : List Int} (h : w.ownsRow base 3 1 v n (ncells bs)) : OwnN w base v bs := by
  have hl : bs.length = n := by have := h.1; simpa [ncells] using this
  subst hl
  rcases h.2 with ⟨rfl, hn⟩ | ⟨g, cap, cur, rfl, hb, hg, hnc, hcm, hsz, ht⟩
  · have : bs = [] := List.length_eq_zero_iff.1 hn
    subst this
    exact ⟨by simp, none, 0, rfl, by simp, .inl rfl⟩
  · have hm : maxLen = 9223372036854775807 := rfl
    refine ⟨by omega, some ⟨g, 0, none⟩, cap, rfl, by omega, .inr ⟨g, 0, rfl, hb, fun i hi => ?_⟩⟩
    have hcur : cur.toList[i]? = some (Value.int .i64 bs[i]) := by
      have e : (cur.toList.take (bs.length * 1))[i]? = (ncells bs)[i]? := by rw [ht]
      rw [List.getElem?_take] at e
      rw [if_pos (by omega)] at e
      rw [e]
      simp [ncells, hi]
    refine ⟨?_, ?_⟩
    · simp only [World.cell?, hg]
      simpa using hcur
    · simp [World.frozen?, hg]
/-- Ints in another block stay through a store. -/
theorem OwnN.far {w : World} {base : Nat} {v : Value} {xs : List Int} (h : OwnN w base v xs) {b o : Nat} (hb : b < base) (u : Value) : OwnN (w.setCell ⟨b, o, none⟩ u) base v xs := by
  obtain ⟨h0, a, cap, rfl, hcap, h⟩ := h
  refine ⟨h0, a, cap, rfl, hcap, ?_⟩
  rcases h with h | ⟨g, off, rfl, hg, hc⟩
  · exact .inl h
  · exact .inr ⟨g, off, rfl, hg, fun i hi => ⟨set_other (hc i hi).1 (.inl (by omega)), (World.frozen?_setCell _ _ _ _).trans (hc i hi).2⟩⟩
end Go.Proofs.YtmgomacmaidmlaaGreatDoor
