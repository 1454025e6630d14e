/- spec's PutNum and PutText, said by the bytes that they answer. -/
import Derived.Test.YtcjchbapeoeaeaaTextS
namespace Go.Proofs.Ytcjchbapeoeaeaa
open Go.ChangeShapes Go.WideShapes Go.ChangeAt Go.RowKit
set_option linter.unusedVariables false

/-- What PutNum answers: the number form; nothing of what is below 0. -/
def numZ (x : Int) : List UInt8 := if x < 0 then [] else numB x.toNat
theorem numZ_len (x : Int) : (numZ x).length ≤ 9 := by
  unfold numZ; split
  · simp
  · exact numB_len _
theorem specPutNum_own (x : Int) (u : x ≤ 9223372036854775807) (w : World) :
    Calls Try.prog 54 #[.int .i64 x] w fun e w' => (∃ v, e = .returned v ∧ OwnB w' w.heap.size v (numZ x)) ∧ Below w.heap.size w w' := by
  by_cases h : x < 0
  · refine (specPut_no x h w).mono fun e w' ⟨⟨v, h1, h2⟩, h3⟩ => ⟨⟨v, h1, ?_⟩, h3⟩
    rw [numZ, if_pos h]; exact ownB_of_row h2
  · obtain ⟨n, rfl⟩ := Int.eq_ofNat_of_zero_le (show 0 ≤ x by omega)
    refine (specPut_yes n (by omega) w).mono fun e w' ⟨⟨v, h1, h2⟩, h3⟩ => ⟨⟨v, h1, ?_⟩, h3⟩
    rw [numZ, if_neg h, Int.toNat_natCast]; exact ownB_of_row h2
theorem specPutText_own (s : ByteArray) (h : s.size ≤ 1099511627776) (w : World) :
    Calls Try.prog 56 #[.string s] w fun e w' => (∃ v, e = .returned v ∧ OwnB w' w.heap.size v (textB s.data.toList)) ∧ Below w.heap.size w w' :=
  (specPutText_any s h w).mono fun e w' ⟨⟨v, h1, h2⟩, h3⟩ => ⟨⟨v, h1, ownB_of_row h2⟩, h3⟩
end Go.Proofs.Ytcjchbapeoeaeaa
