/- impl's GetNum and GetText. -/
import Derived.Test.YtognmmmplmideaaRdrC
import Derived.Test.YtognmmmplmideaaGetA
namespace Go.Proofs.Ytognmmmplmideaa
open Go.ChangeShapes Go.WideShapes Go.ChangeAt Go.RowKit
set_option linter.unusedVariables false

theorem Bs.ne_new {w : World} {v : Value} {bs : List UInt8} (h : Bs w v bs) : bs = [] ∨ blockOf v ≠ w.heap.size := by
  obtain ⟨h0, a, cap, rfl, hcap, h⟩ := h
  rcases h with h | ⟨b, off, rfl, hc⟩
  · exact .inl h
  · rcases Nat.eq_zero_or_pos bs.length with h1 | h1
    · exact .inl (List.length_eq_zero_iff.1 h1)
    · have := dCell_lt (hc 0 h1)
      exact .inr (by simp only [blockOf]; omega)
theorem plc_new (w : World) (x : Int) (T : TypeId) : Plc (w.alloc (.cells #[.int .i64 x] T)) w.heap.size x := ⟨by simp, by simp⟩
theorem Drawn.fresh {w w' : World} {o : Obj} (h : Drawn w.heap.size (w.alloc o) w') : Below w.heap.size w w' :=
  h.below ((Below.refl _ _).alloc (Nat.le_refl _) o) (by simp) (Nat.le_refl _)
theorem numT_form (o : Option (Nat × Nat)) : ∃ (x : Int) (b : Bool), numT o = .tuple #[.int .i64 x, .bool b] := by
  cases o with
  | none => exact ⟨_, _, rfl⟩
  | some r => exact ⟨_, _, rfl⟩
theorem getZ_neg (bs : List UInt8) (x : Int) (h : x < 0) : getZ bs x = none := by rw [getZ, if_pos (.inl h)]
theorem getZ_nat (bs : List UInt8) (n : Nat) : getZ bs (n : Int) = getB (bs.drop n) := by
  rw [getZ]
  split
  · rename_i h
    rw [getB_nil bs n (by omega)]
  · rw [Int.toNat_natCast]
theorem gtextZ_nat (bs : List UInt8) (n : Nat) : gtextZ bs (n : Int) = gtextB bs n := by
  rw [gtextZ]
  split
  · rename_i h
    simp only [gtextB, getB_nil bs n (show bs.length ≤ n by omega)]
  · rw [Int.toNat_natCast]
end Go.Proofs.Ytognmmmplmideaa
