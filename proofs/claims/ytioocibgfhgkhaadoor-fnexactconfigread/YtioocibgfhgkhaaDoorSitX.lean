/- A config that is an answer: its marks are held. -/
import Derived.Test.YtioocibgfhgkhaaDoorGaD
namespace Go.Proofs.YtioocibgfhgkhaaDoor
open Go.ChangeShapes Go.WideShapes Go.ChangeAt Go.RowKit
set_option linter.unusedVariables false
set_option maxRecDepth 100000

set_option maxHeartbeats 1000000 in
theorem heldConfig_ (v : Value) (m : List Int × Int) (k0 : Nat) (w : World) (hk : k0 ≤ 536870912) (hl : cntConfig m ≤ 536870912) (h : RdConfig v (mkConfig k0 m) w) :
    Calls Tryd.prog 12 #[v, .int .i64 (k0 : Int)] w fun e w' => e = .returned (.int .i64 ((k0 + cntConfig m : Nat) : Int)) ∧ Below w.heap.size w w' := by
  have hb0 : ∀ o, Below w.heap.size w (w.alloc o) := fun o => (Below.refl _ _).alloc (Nat.le_refl _) o
  obtain ⟨sv, rfl, h⟩ := h
  have C1 := dHide fun W (hb : Below w.heap.size w W) => heldIntS_ sv m.1 k0 W (by omega) (by unfold cntConfig at hl; unfold cntIntS; omega) (h.below hb)
  obtain ⟨-, a, cap, rfl, -, -⟩ := h
  have e1 : ((k0 + cntConfig m : Nat) : Int) = ((k0 + cntIntS m.1 : Nat) : Int) := rfl
  rw [e1]
  have h1 : ¬ ((k0 + cntIntS m.1 : Nat) : Int) < 0 := by omega
  generalize ((k0 + cntIntS m.1 : Nat) : Int) = q at *
  generalize (mkConfig k0 m).2 = tr at *
  generalize (mkConfig k0 m).1.length = n at *
  clear e1 hk hl
  go_enter Tryd.func12, Tryd.ntmps12
  go_wp2_with fail
  refine (dUnhide C1 _ (hb0 _)).mono ?_
  rintro r w1 ⟨rfl, b1⟩
  have B1 := belowThen (hb0 _) b1
  clear C1 b1 hb0
  go_wp2
  go_ret
  exact ⟨rfl, B1⟩
end Go.Proofs.YtioocibgfhgkhaaDoor
