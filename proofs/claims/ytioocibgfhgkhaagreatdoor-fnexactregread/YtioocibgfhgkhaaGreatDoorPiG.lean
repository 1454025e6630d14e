/- Records as bytes: impl's form of a register, and its pack (printed by tools/mkpi.py). -/
import Derived.Test.YtioocibgfhgkhaaGreatDoorPiD
import Derived.Test.YtioocibgfhgkhaaGreatDoorPutW
import Derived.Test.YtioocibgfhgkhaaGreatDoorGaA
import Derived.Test.YtioocibgfhgkhaaGreatDoorImGb
import Derived.Deep.RegionHeld3
import Derived.Deep.DeepCutAuto
namespace Go.Proofs.YtioocibgfhgkhaaGreatDoor
open Go.ChangeShapes Go.WideShapes Go.ChangeAt Go.RowKit
set_option linter.unusedVariables false
set_option linter.unusedSimpArgs false
set_option maxRecDepth 100000

/-- How a register lasts: three functions. -/
def registerFormL (cb : Nat) : List Value := [.func (.func 48) #[] #[.pointer (some ⟨cb, 0, none⟩)], .func (.func 50) #[] #[], .func (.func 51) #[] #[]]
set_option maxHeartbeats 2000000 in
theorem registerForm_any (a : Option Addr) (n cap : Nat) (x : Int) (w : World) :
    Calls Tryz.prog 28 #[.agg #[.slice a n cap, .int .i64 x]] w fun e w' => ∃ cb, e = .returned (.agg (registerFormL cb).toArray) ∧ Bx w' cb [.slice a n cap, .int .i64 x] ∧ Below w.heap.size w w' := by
  have X0 := Bx.new w [.slice a n cap, .int .i64 x] 32
  have b0 : Below w.heap.size w (w.alloc (.cells #[.slice a n cap, .int .i64 x] 32)) := (Below.refl _ _).alloc (Nat.le_refl _) _
  have Y0 := BxZ.new (w.alloc (.cells #[.slice a n cap, .int .i64 x] 32)) [.nilFunc, .nilFunc, .nilFunc] 64 (B := (w.alloc (.cells #[.slice a n cap, .int .i64 x] 32)).heap.size) (Nat.le_refl _)
  have b1 : Below (w.alloc (.cells #[.slice a n cap, .int .i64 x] 32)).heap.size (w.alloc (.cells #[.slice a n cap, .int .i64 x] 32)) ((w.alloc (.cells #[.slice a n cap, .int .i64 x] 32)).alloc (.cells #[.nilFunc, .nilFunc, .nilFunc] 64)) := (Below.refl _ _).alloc (Nat.le_refl _) _
  have hs : (w.alloc (.cells #[.slice a n cap, .int .i64 x] 32)).heap.size = w.heap.size + 1 := by simp
  have X1 := X0.below b1
  have B1 := belowThen b0 b1
  rw [hs] at Y0
  clear b0 X0 b1
  go_enter Tryz.func28, Tryz.ntmps28
  go_wp2_with (refine wp_putW rfl _ _ _ rfl rfl (registerFormL w.heap.size) rfl rfl Y0 rfl (by kernel_rfl) (by kernel_rfl) ?_; intro w2 Y2 s2 g2 b2)
  refine bodyPost_ret (results_box Tryz.results28 _ _ _ (registerFormL w.heap.size) _ rfl Y2.bx Tryz.underlying64 rfl (by kernel_rfl)) rfl ⟨_, rfl, X1.off g2 (by omega), B1.trans (b2.mono (by omega))⟩
end Go.Proofs.YtioocibgfhgkhaaGreatDoor
