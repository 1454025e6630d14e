/- Records as bytes: impl's ConfigPack. -/
import Derived.Test.YtioocibgfhgkhaaDoorPiA
import Derived.Test.YtioocibgfhgkhaaDoorPutW
import Derived.Test.YtioocibgfhgkhaaDoorGaA
import Derived.Test.YtioocibgfhgkhaaDoorGaG
import Derived.Deep.RegionHeld3
import Derived.Deep.DeepCutAuto
namespace Go.Proofs.YtioocibgfhgkhaaDoor
open Go.ChangeShapes Go.WideShapes Go.ChangeAt Go.RowKit
set_option linter.unusedVariables false
set_option linter.unusedSimpArgs false
set_option maxRecDepth 100000

theorem natI_cfgI {ds : List Int} {cop : Int} (h : cfgP ds cop) : natI ds := fun x hx => by
  obtain ⟨i, hi, rfl⟩ := List.getElem_of_mem hx
  have := h.2.2 i hi
  omega
/-- How a config lasts: three functions. -/
def cfgForm : List Value := [.func (.func 36) #[] #[], .func (.func 37) #[] #[], .func (.func 38) #[] #[]]
set_option maxHeartbeats 2000000 in
theorem configForm_any (w : World) :
    Calls Tryd.prog 22 #[] w fun e w' => e = .returned (.agg cfgForm.toArray) ∧ Below w.heap.size w w' := by
  have Y0 := BxZ.new w [.nilFunc, .nilFunc, .nilFunc] 51 (B := w.heap.size) (Nat.le_refl _)
  have B0 : Below w.heap.size w (w.alloc (.cells #[.nilFunc, .nilFunc, .nilFunc] 51)) := (Below.refl _ _).alloc (Nat.le_refl _) _
  go_enter Tryd.func22, Tryd.ntmps22
  go_wp2_with (refine wp_putW rfl _ _ _ rfl rfl cfgForm rfl rfl Y0 rfl (by kernel_rfl) (by kernel_rfl) ?_; intro w2 Y2 s2 g2 b2)
  refine bodyPost_ret (results_box Tryd.results22 _ _ _ cfgForm _ rfl Y2.bx Tryd.underlying51 rfl (by kernel_rfl)) rfl ⟨rfl, B0.trans b2⟩
end Go.Proofs.YtioocibgfhgkhaaDoor
