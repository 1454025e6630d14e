/- Slices of bytes, as the exact laws handle them: read, copied, compared, marked, held. -/
import Derived.Test.YthndkkjgjhgdnaaDoorGaA
import Derived.Test.YthndkkjgjhgdnaaDoorBytesEq
import Derived.Test.YthndkkjgjhgdnaaDoorBytesTo
import Derived.Test.YthndkkjgjhgdnaaDoorBytesMk
namespace Go.Proofs.YthndkkjgjhgdnaaDoor
open Go.ChangeShapes Go.WideShapes Go.ChangeAt Go.RowKit
set_option linter.unusedVariables false

/-- The slice v reads as xs, lies in a block of lo .. hi - 1, and may be written. -/
def OwB (lo hi : Nat) (v : Value) (xs : List UInt8) (W : World) : Prop := OwnB W lo v xs ∧ (xs = [] ∨ blockOf v < hi)
theorem OwB.rd {lo hi : Nat} {v : Value} {xs : List UInt8} {W : World} (h : OwB lo hi v xs W) : Bs W v xs := h.1.bs
theorem Bs.ltS {w : World} {v : Value} {xs : List UInt8} (h : Bs w v xs) : xs = [] ∨ blockOf v < w.heap.size := by
  obtain ⟨-, a, cap, rfl, -, h⟩ := h
  rcases h with h | ⟨b, off, rfl, hc⟩
  · exact .inl h
  · rcases Nat.eq_zero_or_pos xs.length with h1 | h1
    · exact .inl (List.length_eq_zero_iff.1 h1)
    · exact .inr (dCell_lt (hc 0 h1))
theorem OwnB.geS {w : World} {base : Nat} {v : Value} {xs : List UInt8} (h : OwnB w base v xs) : xs = [] ∨ base ≤ blockOf v := by
  obtain ⟨-, a, cap, rfl, -, h⟩ := h
  rcases h with h | ⟨b, off, rfl, hb, hc⟩
  · exact .inl h
  · exact .inr hb
theorem Bs.sitsS {w : World} {v : Value} {xs : List UInt8} (h : Bs w v xs) : Sits (fun W => Bs W v xs) 0 w.heap.size w := by
  refine ⟨Nat.le_refl _, fun W hW => ?_⟩
  obtain ⟨h0, a, cap, rfl, hcap, h⟩ := h
  refine ⟨h0, a, cap, rfl, hcap, ?_⟩
  rcases h with h | ⟨b, off, rfl, hc⟩
  · exact .inl h
  · exact .inr ⟨b, off, rfl, fun i hi => (World.cell?_of_block (a := ⟨b, off + i, none⟩) (hW b (Nat.zero_le _) (dCell_lt (hc i hi)))).trans (hc i hi)⟩
theorem OwB.sits {lo hi : Nat} {w : World} {v : Value} {xs : List UInt8} (h : OwB lo hi v xs w) (hf : hi ≤ w.heap.size) : Sits (OwB lo hi v xs) lo hi w := by
  refine ⟨hf, fun W hW => ⟨?_, h.2⟩⟩
  obtain ⟨⟨h0, a, cap, rfl, hcap, h⟩, hl⟩ := h
  refine ⟨h0, a, cap, rfl, hcap, ?_⟩
  rcases hl with hl | hl
  · exact .inl hl
  · rcases h with h | ⟨b, off, rfl, hb, hc⟩
    · exact .inl h
    · have e := hW b hb hl
      exact .inr ⟨b, off, rfl, hb, fun i hi => ⟨(World.cell?_of_block (a := ⟨b, off + i, none⟩) e).trans (hc i hi).1, (World.frozen?_of_block (a := ⟨b, off + i, none⟩) e).trans (hc i hi).2⟩⟩
theorem OwnB.sits {w : World} {base : Nat} {v : Value} {xs : List UInt8} (h : OwnB w base v xs) : Sits (OwB base w.heap.size v xs) base w.heap.size w := OwB.sits ⟨h, h.bs.ltS⟩ (Nat.le_refl _)
def RdByteS (v : Value) (m : List UInt8) (W : World) : Prop := Bs W v m
def OwByteS (lo hi : Nat) (v : Value) (m : List UInt8) (W : World) : Prop := OwB lo hi v m W
def sizByteS (m : List UInt8) : Nat := m.length
def cntByteS (m : List UInt8) : Nat := m.length
def mkByteS (k : Nat) (m : List UInt8) : List UInt8 := marks k m.length
theorem OwByteS.rd {lo hi : Nat} {v : Value} {m : List UInt8} {W : World} (h : OwByteS lo hi v m W) : RdByteS v m W := OwB.rd h
theorem RdByteS.below {v : Value} {m : List UInt8} {W W' : World} (h : RdByteS v m W) (b : Below W.heap.size W W') : RdByteS v m W' := Bs.below h b
theorem formByteS {v : Value} {m : List UInt8} {W : World} (h : RdByteS v m W) : ∃ a cap, v = .slice a m.length cap ∧ m.length ≤ 9223372036854775807 := by
  obtain ⟨h0, a, cap, rfl, -, -⟩ := h
  exact ⟨a, cap, rfl, h0⟩
def okByteS (m : List UInt8) : Prop := True
def IsByteS (v : Value) (m : List UInt8) (w : World) : Prop := RdByteS v m w ∧ okByteS m
theorem cntByteS_le {m : List UInt8} (h : sizByteS m ≤ 1048576) : cntByteS m ≤ 1048576 := h
end Go.Proofs.YthndkkjgjhgdnaaDoor
