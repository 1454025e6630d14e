/- Several texts in one: PlaceA, PlaceB. -/
import Derived.Test.YthndkkjgjhgdnaaDoorRows
import Derived.Handy
import Derived.Outline
import Derived.Deep.RegionWith
namespace Go.Proofs.YthndkkjgjhgdnaaDoor
open Go.ChangeShapes Go.WideShapes Go.ChangeAt Go.RowKit
set_option linter.unusedVariables false

end Go.Proofs.YthndkkjgjhgdnaaDoor
namespace Go.Proofs.YthndkkjgjhgdnaaDoor
open Go.ChangeShapes Go.WideShapes Go.ChangeAt Go.RowKit
set_option linter.unusedVariables false

theorem bcell {W w1 : World} (hb : Below W.heap.size W w1) : (∀ b o, b < W.heap.size → w1.cell? ⟨b, o, none⟩ = W.cell? ⟨b, o, none⟩) ∧ (∀ b o, b < W.heap.size → w1.frozen? ⟨b, o, none⟩ = W.frozen? ⟨b, o, none⟩) :=
  ⟨fun b o h => hb.cell (p := ⟨b, o, none⟩) h, fun b o h => hb.frozen (p := ⟨b, o, none⟩) h⟩

theorem hide {p : Prop} (h : p) : Hid p := h
theorem unhide {p : Prop} (h : Hid p) : p := h

theorem split_no_aid (x : Int) (h : ¬ (0 < x ∧ 1 ≤ x / 4294967296 ∧ x / 4294967296 ≤ 30 ∧ 1 ≤ x % 4294967296 ∧ x % 4294967296 ≤ 60)) (l : -9223372036854775808 ≤ x) (u : x ≤ 9223372036854775807) :
    wrap64 (x.tdiv 4294967296) < 1 ∨ 30 < wrap64 (x.tdiv 4294967296) ∨ x.tmod 4294967296 < 1 ∨ 60 < x.tmod 4294967296 := by
  by_cases h0 : 0 < x
  · rw [Int.tdiv_eq_ediv_of_nonneg (by omega), Int.tmod_eq_emod_of_nonneg (by omega)]
    have : wrap64 (x / 4294967296) = x / 4294967296 := IntWalk.wrap64_in _ (by omega)
    rw [this]
    omega
  · refine .inr (.inr (.inl ?_))
    obtain ⟨y, rfl⟩ : ∃ y, x = -y := ⟨-x, by omega⟩
    rw [Int.neg_tmod, Int.tmod_eq_emod_of_nonneg (by omega)]
    omega
/-- x is a place. -/
def isPl (x : Int) : Prop := 0 < x ∧ 1 ≤ x / 4294967296 ∧ x / 4294967296 ≤ 30 ∧ 1 ≤ x % 4294967296 ∧ x % 4294967296 ≤ 60

end Go.Proofs.YthndkkjgjhgdnaaDoor
