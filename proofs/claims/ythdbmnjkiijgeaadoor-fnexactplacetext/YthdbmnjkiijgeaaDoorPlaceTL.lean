/- The walk of the law FnExactPlaceText: it returns true at every argument, and writes nothing that was there. -/
import Derived.Test.YthdbmnjkiijgeaaDoorPlaceT
namespace Go.Proofs.YthdbmnjkiijgeaaDoor
open Go.ChangeShapes Go.WideShapes Go.ChangeAt Go.RowKit
set_option linter.unusedVariables false
theorem walkFnExactPlaceText (x : Int) (w0 : (Lit.int .i64 x).wf = true) (w : World) :
    Calls Tryd.prog 5 #[.int .i64 x] w fun e w' => e = .returned (.bool true) ∧ Below w.heap.size w w' := by
  obtain ⟨l, u⟩ := bounds_i64 w0
  by_cases h : isPl x
  · go_enter Tryd.func5, Tryd.ntmps5
    go_wp2_with (first | (go_at_call 20; refine (specText_yes _ h _).mono ?_; rintro e w1 ⟨rfl, hb1⟩) | (go_at_call 13; refine (implText_yes _ h _).mono ?_; rintro e w2 ⟨rfl, hb2⟩))
    go_ret
    exact ⟨rfl, hb1.trans (hb2.mono hb1.size)⟩
  · go_enter Tryd.func5, Tryd.ntmps5
    go_wp2_with (first | (go_at_call 20; refine (specText_no _ u h _).mono ?_; rintro e w1 ⟨rfl, rfl⟩) | (go_at_call 13; refine (implText_no _ l u h _).mono ?_; rintro e w2 ⟨rfl, hb⟩))
    go_ret
    exact ⟨rfl, hb⟩
end Go.Proofs.YthdbmnjkiijgeaaDoor
