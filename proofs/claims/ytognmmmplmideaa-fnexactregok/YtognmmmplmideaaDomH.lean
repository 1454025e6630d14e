/- The laws' helpers on configs. -/
import Derived.Test.YtognmmmplmideaaDomE
import Derived.Test.YtognmmmplmideaaIntsEq
import Derived.Test.YtognmmmplmideaaIntsTo
import Derived.Test.YtognmmmplmideaaIntsMk
namespace Go.Proofs.Ytognmmmplmideaa
open Go.ChangeShapes Go.WideShapes Go.ChangeAt Go.RowKit
set_option linter.unusedVariables false

/-- What is left of a size. -/
def left1 (n : Nat) (left : Int) : Int := if left < (n : Int) then -1 else left - (n : Int)
theorem szIntS_any (v : Value) (xs : List Int) (left : Int) (l0 : 0 ≤ left) (l1 : left ≤ 1048576) (w : World) (hv : Ns w v xs) :
    Calls Try.prog 47 #[v, .int .i64 left] w fun r w' => r = .returned (.int .i64 (left1 xs.length left)) ∧ w' = w := by
  obtain ⟨h0, a, cap, rfl, -, -⟩ := hv
  unfold left1
  by_cases hd : left < (xs.length : Int)
  · rw [if_pos hd]
    have hd' : left - (xs.length : Int) < 0 := by omega
    go_enter Try.func47, Try.ntmps47
    go_wp2
    go_ret
    exact ⟨rfl, rfl⟩
  · rw [if_neg hd]
    have hd' : ¬ (left - (xs.length : Int) < 0) := by omega
    go_enter Try.func47, Try.ntmps47
    go_wp2
    go_ret
    exact ⟨rfl, rfl⟩
theorem szConfig_any (sv : Value) (ds : List Int) (cop left : Int) (l0 : 0 ≤ left) (l1 : left ≤ 1048576) (w : World) (hd : Ns w sv ds) :
    Calls Try.prog 15 #[.agg #[sv, .int .i64 cop], .int .i64 left] w fun r w' => r = .returned (.int .i64 (left1 ds.length left)) ∧ Below w.heap.size w w' := by
  have hb0 : ∀ o, Below w.heap.size w (w.alloc o) := fun o => (Below.refl _ _).alloc (Nat.le_refl _) o
  have C1 := dHide fun o => szIntS_any sv ds left l0 l1 (w.alloc o) (hd.below (hb0 o))
  obtain ⟨h0, a, cap, rfl, -, -⟩ := hd
  unfold left1 at *
  by_cases hl : left < (ds.length : Int)
  · rw [if_pos hl] at C1 ⊢
    go_enter Try.func15, Try.ntmps15
    go_wp2_with fail
    refine (dUnhide C1 _).mono ?_
    rintro e w1 ⟨rfl, rfl⟩
    go_wp2
    go_ret
    exact ⟨rfl, hb0 _⟩
  · rw [if_neg hl] at C1 ⊢
    have hd' : ¬ (left - (ds.length : Int) < 0) := by omega
    go_enter Try.func15, Try.ntmps15
    go_wp2_with fail
    refine (dUnhide C1 _).mono ?_
    rintro e w1 ⟨rfl, rfl⟩
    go_wp2
    go_ret
    exact ⟨rfl, hb0 _⟩
set_option maxHeartbeats 1000000 in
theorem eqConfig_yes (sv sv' : Value) (ds : List Int) (cop : Int) (w : World) (hd : Ns w sv ds) (hd' : Ns w sv' ds) :
    Calls Try.prog 21 #[.agg #[sv, .int .i64 cop], .agg #[sv', .int .i64 cop]] w fun r w' => r = .returned (.bool true) ∧ Below w.heap.size w w' := by
  have hb0 : ∀ o o', Below w.heap.size w ((w.alloc o).alloc o') := fun o o' => ((Below.refl _ _).alloc (Nat.le_refl _) o).alloc (by simp) o'
  have C1 := dHide fun o o' => eqIntS_yes sv sv' ds ((w.alloc o).alloc o') (hd.below (hb0 o o')) (hd'.below (hb0 o o'))
  obtain ⟨h0, a, cap, rfl, -, -⟩ := hd
  obtain ⟨-, a', cap', rfl, -, -⟩ := hd'
  go_enter Try.func21, Try.ntmps21
  go_wp2_with fail
  have hs : (w.alloc (.cells #[.slice a ds.length cap, .int .i64 cop] 43)).heap.size = w.heap.size + 1 := by simp
  have T0 : Two ((w.alloc (.cells #[.slice a ds.length cap, .int .i64 cop] 43)).alloc (.cells #[.slice a' ds.length cap', .int .i64 cop] 43)) w.heap.size (.slice a ds.length cap) (.int .i64 cop) := (Two.new w _ _ _).kept ((Below.refl _ _).alloc (Nat.le_refl _) _)
  have U0 := Two.new (w.alloc (.cells #[.slice a ds.length cap, .int .i64 cop] 43)) (.slice a' ds.length cap') (.int .i64 cop) 43
  rw [hs] at U0
  refine (dUnhide C1 _ _).mono ?_
  rintro e w1 ⟨rfl, b1⟩
  have B1 := belowThen (hb0 _ _) b1
  obtain ⟨k0, k1⟩ := T0.kept b1
  obtain ⟨q0, q1⟩ := U0.kept b1
  clear T0 U0 b1 hb0 C1 hs
  go_wp2
  go_ret
  exact ⟨rfl, B1⟩
end Go.Proofs.Ytognmmmplmideaa
