/- Slices of ints in a span of blocks: to, eq, mark and held of them. -/
import Derived.Test.YtmgomacmaidmlaaGreatDoorSitP
import Derived.Test.YtmgomacmaidmlaaGreatDoorIntsEq
import Derived.Test.YtmgomacmaidmlaaGreatDoorIntsTo
import Derived.Test.YtmgomacmaidmlaaGreatDoorIntsMk
namespace Go.Proofs.YtmgomacmaidmlaaGreatDoor
open Go.ChangeShapes Go.WideShapes Go.ChangeAt Go.RowKit
set_option linter.unusedVariables false

/-- The slice v reads as xs, lies in a block of lo .. hi - 1, and may be written. -/
def OwN (lo hi : Nat) (v : Value) (xs : List Int) (W : World) : Prop := OwnN W lo v xs ∧ (xs = [] ∨ blockOf v < hi)
theorem OwN.rd {lo hi : Nat} {v : Value} {xs : List Int} {W : World} (h : OwN lo hi v xs W) : Ns W v xs := h.1.bs
theorem Ns.lt {w : World} {v : Value} {xs : List Int} (h : Ns w v xs) : xs = [] ∨ blockOf v < w.heap.size := by
  obtain ⟨-, a, cap, rfl, -, h⟩ := h
  rcases h with h | ⟨b, off, rfl, hc⟩
  · exact .inl h
  · rcases Nat.eq_zero_or_pos xs.length with h1 | h1
    · exact .inl (List.length_eq_zero_iff.1 h1)
    · exact .inr (dCell_lt (hc 0 h1))
theorem OwnN.ge {w : World} {base : Nat} {v : Value} {xs : List Int} (h : OwnN w base v xs) : xs = [] ∨ base ≤ blockOf v := by
  obtain ⟨-, a, cap, rfl, -, h⟩ := h
  rcases h with h | ⟨b, off, rfl, hb, hc⟩
  · exact .inl h
  · exact .inr hb
theorem Ns.sits {w : World} {v : Value} {xs : List Int} (h : Ns w v xs) : Sits (fun W => Ns W v xs) 0 w.heap.size w := by
  refine ⟨Nat.le_refl _, fun W hW => ?_⟩
  obtain ⟨h0, a, cap, rfl, hcap, h⟩ := h
  refine ⟨h0, a, cap, rfl, hcap, ?_⟩
  rcases h with h | ⟨b, off, rfl, hc⟩
  · exact .inl h
  · exact .inr ⟨b, off, rfl, fun i hi => (World.cell?_of_block (a := ⟨b, off + i, none⟩) (hW b (Nat.zero_le _) (dCell_lt (hc i hi)))).trans (hc i hi)⟩
theorem OwN.sits {lo hi : Nat} {w : World} {v : Value} {xs : List Int} (h : OwN lo hi v xs w) (hf : hi ≤ w.heap.size) : Sits (OwN lo hi v xs) lo hi w := by
  refine ⟨hf, fun W hW => ⟨?_, h.2⟩⟩
  obtain ⟨⟨h0, a, cap, rfl, hcap, h⟩, hl⟩ := h
  refine ⟨h0, a, cap, rfl, hcap, ?_⟩
  rcases hl with hl | hl
  · exact .inl hl
  · rcases h with h | ⟨b, off, rfl, hb, hc⟩
    · exact .inl h
    · have e := hW b hb hl
      exact .inr ⟨b, off, rfl, hb, fun i hi => ⟨(World.cell?_of_block (a := ⟨b, off + i, none⟩) e).trans (hc i hi).1, (World.frozen?_of_block (a := ⟨b, off + i, none⟩) e).trans (hc i hi).2⟩⟩
theorem OwnN.sits {w : World} {base : Nat} {v : Value} {xs : List Int} (h : OwnN w base v xs) : Sits (OwN base w.heap.size v xs) base w.heap.size w := OwN.sits ⟨h, h.bs.lt⟩ (Nat.le_refl _)
end Go.Proofs.YtmgomacmaidmlaaGreatDoor
