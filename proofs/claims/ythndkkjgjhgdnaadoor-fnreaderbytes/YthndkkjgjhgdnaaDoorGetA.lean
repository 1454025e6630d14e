/- spec's GetNum and GetText, said at every place. -/
import Derived.Test.YthndkkjgjhgdnaaDoorGaT
namespace Go.Proofs.YthndkkjgjhgdnaaDoor
open Go.ChangeShapes Go.WideShapes Go.ChangeAt Go.RowKit
set_option linter.unusedVariables false

/-- What GetNum answers at any place. -/
def getZ (l : List UInt8) (x : Int) : Option (Nat × Nat) := if x < 0 ∨ (l.length : Int) ≤ x then none else getB (l.drop x.toNat)
/-- What GetText answers at any place. -/
def gtextZ (l : List UInt8) (x : Int) : Option (List UInt8 × Nat) := if x < 0 ∨ (l.length : Int) ≤ x then none else gtextB l x.toNat
theorem specGetNum_any (v : Value) (bs : List UInt8) (x : Int) (w : World) (hv : Bs w v bs) (hl : bs.length ≤ 1099511627776) :
    Calls Tryd.prog 51 #[v, .int .i64 x] w fun e w' => e = .returned (getT (getZ bs x) x.toNat) ∧ Below w.heap.size w w' := by
  by_cases h : x < 0 ∨ (bs.length : Int) ≤ x
  · refine (specGet_out v bs x w hv h).mono fun e w' ⟨h1, h2⟩ => ⟨?_, by rw [← h2]; exact Below.refl _ _⟩
    rw [h1, getZ, if_pos h]; rfl
  · obtain ⟨n, rfl⟩ := Int.eq_ofNat_of_zero_le (show 0 ≤ x by omega)
    refine (specGet_in v bs n w hv (by omega) (by omega)).mono fun e w' ⟨h1, h2⟩ => ⟨?_, by rw [← h2]; exact Below.refl _ _⟩
    rw [h1, getZ, if_neg h, Int.toNat_natCast]
theorem specGetText_any (v : Value) (bs : List UInt8) (x : Int) (w : World) (hv : Bs w v bs) (hl : bs.length ≤ 1099511627776) :
    Calls Tryd.prog 63 #[v, .int .i64 x] w fun e w' => e = .returned (gtextT (gtextZ bs x)) ∧ Below w.heap.size w w' := by
  by_cases h : x < 0 ∨ (bs.length : Int) ≤ x
  · refine (specGetText_out v bs x w hv h).mono fun e w' ⟨h1, h2⟩ => ⟨?_, by rw [← h2]; exact Below.refl _ _⟩
    rw [h1, gtextZ, if_pos h]
  · obtain ⟨n, rfl⟩ := Int.eq_ofNat_of_zero_le (show 0 ≤ x by omega)
    refine (specGetText_in v bs n w hv (by omega) (by omega)).mono fun e w' ⟨h1, h2⟩ => ⟨?_, by rw [← h2]; exact Below.refl _ _⟩
    rw [h1, gtextZ, if_neg h, Int.toNat_natCast]
theorem getT_form (o : Option (Nat × Nat)) (n : Nat) : ∃ (x y : Int) (b : Bool), getT o n = .tuple #[.int .i64 x, .int .i64 y, .bool b] := by
  cases o with
  | none => exact ⟨_, _, _, rfl⟩
  | some r => exact ⟨_, _, _, rfl⟩
theorem gtextT_form (o : Option (List UInt8 × Nat)) : ∃ (t : ByteArray) (y : Int) (b : Bool), gtextT o = .tuple #[.string t, .int .i64 y, .bool b] := by
  cases o with
  | none => exact ⟨_, _, _, rfl⟩
  | some r => exact ⟨_, _, _, rfl⟩
end Go.Proofs.YthndkkjgjhgdnaaDoor
