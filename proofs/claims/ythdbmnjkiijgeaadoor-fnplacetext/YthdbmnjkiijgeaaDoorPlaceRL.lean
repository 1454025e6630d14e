/- The walk of the law FnExactPlaceRead: it returns true at every text, and writes nothing that was there. -/
import Derived.Test.YthdbmnjkiijgeaaDoorPlaceJ
namespace Go.Proofs.YthdbmnjkiijgeaaDoor
open Go.ChangeShapes Go.WideShapes Go.ChangeAt Go.RowKit
set_option linter.unusedVariables false
theorem specRead_yes' (a b : Nat) (h1 : 1 ≤ a) (h2 : a ≤ 30) (h3 : 1 ≤ b) (h4 : b ≤ 60) (w : World) :
    Calls Tryd.prog 19 #[.string (plTextB a b)] w fun e w' => e = .returned (.tuple #[.int .i64 ((a : Int) * 4294967296 + b), .bool true]) ∧ Below w.heap.size w w' := by
  rw [Int.mul_comm]; exact specRead_yes a b h1 h2 h3 h4 w
set_option maxHeartbeats 400000 in
theorem walkFnExactPlaceRead (s : ByteArray) (w0 : s.size ≤ maxLen) (w : World) (hd : Door w) :
    Calls Tryd.prog 6 #[.string s] w fun e w' => e = .returned (.bool true) ∧ Below w.heap.size w w' := by
  by_cases hz : (1048576 : Int) < (s.size : Int)
  · unfold maxLen at w0
    go_enter Tryd.func6, Tryd.ntmps6
    go_wp2
    go_ret
    exact ⟨rfl, Below.refl _ _⟩
  · by_cases h : ∃ a b : Nat, 1 ≤ a ∧ a ≤ 30 ∧ 1 ≤ b ∧ b ≤ 60 ∧ s = plTextB a b
    · obtain ⟨a, b, h1, h2, h3, h4, rfl⟩ := h
      have C1 := hide (specRead_yes' a b h1 h2 h3 h4)
      have C2 := hide (implRead_yes a b h1 h2 h3 h4)
      generalize plTextB a b = s at *
      go_enter Tryd.func6, Tryd.ntmps6
      go_wp2_with fail
      refine (unhide C1 _).mono ?_
      rintro e w1 ⟨rfl, hb1⟩
      have hd1 := hd.below hb1
      go_wp2_with fail
      refine (unhide C2 _ hd1).mono ?_
      rintro e w2 ⟨rfl, hb2⟩
      go_wp2
      go_ret
      exact ⟨rfl, hb1.trans (hb2.mono hb1.size)⟩
    · have h' : ∀ a b : Nat, 1 ≤ a → a ≤ 30 → 1 ≤ b → b ≤ 60 → s ≠ plTextB a b := fun a b h1 h2 h3 h4 e => h ⟨a, b, h1, h2, h3, h4, e⟩
      have C1 := hide (specRead_no s (by omega) h')
      have C2 := hide (implRead_no s (by omega) h')
      clear h h'
      go_enter Tryd.func6, Tryd.ntmps6
      go_wp2_with fail
      refine (unhide C1 _).mono ?_
      rintro e w1 ⟨rfl, hb1⟩
      have hd1 := hd.below hb1
      go_wp2_with fail
      refine (unhide C2 _ hd1).mono ?_
      rintro e w2 ⟨rfl, hb2⟩
      go_wp2
      go_ret
      exact ⟨rfl, hb1.trans (hb2.mono hb1.size)⟩
end Go.Proofs.YthdbmnjkiijgeaaDoor
