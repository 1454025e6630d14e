/- Slices of bytes in memory: what a slice reads as ('Bs'), and a slice that lies in new memory which nobody has frozen ('OwnB'). -/
import Derived.Test.YtmgomacmaidmlaaGreatDoorDrawA
namespace Go.Proofs.YtmgomacmaidmlaaGreatDoor
open Go.ChangeShapes Go.WideShapes Go.ChangeAt Go.RowKit
set_option linter.unusedVariables false

/-- The slice v reads as the bytes bs. -/
def Bs (w : World) (v : Value) (bs : List UInt8) : Prop :=
  bs.length ≤ 9223372036854775807 ∧ ∃ a cap, v = .slice a bs.length cap ∧ (bs.length ≤ cap ∧ cap ≤ 9223372036854775807) ∧ (bs = [] ∨ ∃ b off, a = some ⟨b, off, none⟩ ∧ ∀ i (h : i < bs.length), w.cell? ⟨b, off + i, none⟩ = some (.int .u8 (bs[i].toNat : Int)))
/-- The slice v reads as the bytes bs, lies in a block from 'base' on, and may be written. -/
def OwnB (w : World) (base : Nat) (v : Value) (bs : List UInt8) : Prop :=
  bs.length ≤ 9223372036854775807 ∧ ∃ a cap, v = .slice a bs.length cap ∧ (bs.length ≤ cap ∧ cap ≤ 9223372036854775807) ∧ (bs = [] ∨ ∃ b off, a = some ⟨b, off, none⟩ ∧ base ≤ b ∧ ∀ i (h : i < bs.length), w.cell? ⟨b, off + i, none⟩ = some (.int .u8 (bs[i].toNat : Int)) ∧ w.frozen? ⟨b, off + i, none⟩ = false)
theorem or_of_lt {bs : List UInt8} {P : Prop} {k : Nat} (h : bs = [] ∨ P) (hk : k < bs.length) : P := by
  rcases h with rfl | h
  · simp at hk
  · exact h
theorem OwnB.bs {w : World} {base : Nat} {v : Value} {bs : List UInt8} (h : OwnB w base v bs) : Bs w v bs := by
  obtain ⟨h0, a, cap, rfl, hcap, h⟩ := h
  refine ⟨h0, a, cap, rfl, hcap, ?_⟩
  rcases h with h | ⟨b, off, rfl, -, hc⟩
  · exact .inl h
  · exact .inr ⟨b, off, rfl, fun i hi => (hc i hi).1⟩
theorem Bs.below {w w' : World} {v : Value} {bs : List UInt8} (h : Bs w v bs) (hb : Below w.heap.size w w') : Bs w' v bs := by
  obtain ⟨h0, a, cap, rfl, hcap, h⟩ := h
  refine ⟨h0, a, cap, rfl, hcap, ?_⟩
  rcases h with h | ⟨b, off, rfl, hc⟩
  · exact .inl h
  · exact .inr ⟨b, off, rfl, fun i hi => (hb.cell (p := ⟨b, off + i, none⟩) (dCell_lt (hc i hi))).trans (hc i hi)⟩
theorem OwnB.below {w w' : World} {base : Nat} {v : Value} {bs : List UInt8} (h : OwnB w base v bs) (hb : Below w.heap.size w w') : OwnB w' base v bs := by
  obtain ⟨h0, a, cap, rfl, hcap, h⟩ := h
  refine ⟨h0, a, cap, rfl, hcap, ?_⟩
  rcases h with h | ⟨b, off, rfl, hbb, hc⟩
  · exact .inl h
  · exact .inr ⟨b, off, rfl, hbb, fun i hi => ⟨(hb.cell (p := ⟨b, off + i, none⟩) (dCell_lt (hc i hi).1)).trans (hc i hi).1, (hb.frozen (p := ⟨b, off + i, none⟩) (dCell_lt (hc i hi).1)).trans (hc i hi).2⟩⟩
theorem OwnB.mono {w : World} {base base' : Nat} {v : Value} {bs : List UInt8} (h : OwnB w base v bs) (hb : base' ≤ base) : OwnB w base' v bs := by
  obtain ⟨h0, a, cap, rfl, hcap, h⟩ := h
  refine ⟨h0, a, cap, rfl, hcap, ?_⟩
  rcases h with h | ⟨b, off, rfl, hbb, hc⟩
  · exact .inl h
  · exact .inr ⟨b, off, rfl, by omega, hc⟩
/-- The block that a slice of bytes lies in. -/
def blockOf : Value → Nat
  | .slice (some a) _ _ => a.block
  | _ => 0
/-- Bytes that lie elsewhere stay as they are when block bk turns. -/
theorem Bs.drawn {bk : Nat} {w w' : World} {v : Value} {bs : List UInt8} (h : Bs w v bs) (hd : Drawn bk w w') (hne : bs = [] ∨ blockOf v ≠ bk) : Bs w' v bs := by
  obtain ⟨h0, a, cap, rfl, hcap, h⟩ := h
  refine ⟨h0, a, cap, rfl, hcap, ?_⟩
  rcases h with h | ⟨b, off, rfl, hc⟩
  · exact .inl h
  · rcases hne with h | hne
    · exact .inl h
    · exact .inr ⟨b, off, rfl, fun i hi => hd.cell (hc i hi) hne⟩
/-- The cells of bytes. -/
def bcells (bs : List UInt8) : List Value := bs.map fun c => Value.int .u8 (c.toNat : Int)
/-- What append's law leaves is such a slice. -/
theorem ownB_of_row {w : World} {base : Nat} {v : Value} {n : Nat} {bs : List UInt8} (h : w.ownsRow base 5 1 v n (bcells bs)) : OwnB w base v bs := by
  have hl : bs.length = n := by have := h.1; simpa [bcells] using this
  subst hl
  rcases h.2 with ⟨rfl, hn⟩ | ⟨g, cap, cur, rfl, hb, hg, hnc, hcm, hsz, ht⟩
  · have : bs = [] := List.length_eq_zero_iff.1 hn
    subst this
    exact ⟨by simp, none, 0, rfl, by simp, .inl rfl⟩
  · have hm : maxLen = 9223372036854775807 := rfl
    refine ⟨by omega, some ⟨g, 0, none⟩, cap, rfl, by omega, .inr ⟨g, 0, rfl, hb, fun i hi => ?_⟩⟩
    have hcur : cur.toList[i]? = some (Value.int .u8 (bs[i].toNat : Int)) := by
      have e : (cur.toList.take (bs.length * 1))[i]? = (bcells bs)[i]? := by rw [ht]
      rw [List.getElem?_take] at e
      rw [if_pos (by omega)] at e
      rw [e]
      simp [bcells, hi]
    refine ⟨?_, ?_⟩
    · simp only [World.cell?, hg]
      simpa using hcur
    · simp [World.frozen?, hg]
end Go.Proofs.YtmgomacmaidmlaaGreatDoor
