/- A drawn text of a list: l1Pick. -/
import Derived.Test.YthndkkjgjhgdnaaDoorGaA
namespace Go.Proofs.YthndkkjgjhgdnaaDoor
open Go.ChangeShapes Go.WideShapes Go.ChangeAt Go.RowKit
set_option linter.unusedVariables false

theorem l1Pick_any (bk b off cap : Nat) (vs : List ByteArray) (w : World) (h1 : 1 ≤ vs.length) (h2 : vs.length ≤ 1000000) (hv : ∀ i (h : i < vs.length), w.cell? ⟨b, off + i, none⟩ = some (.string vs[i])) (hb : b ≠ bk) (hc : Cur w bk) :
    Calls Tryd.prog 41 #[.pointer (some ⟨bk, 0, none⟩), .slice (some ⟨b, off, none⟩) vs.length cap] w fun e w' => (∃ v, v ∈ vs ∧ e = .returned (.string v)) ∧ Cur w' bk ∧ Drawn bk w w' := by
  have HV := dHide hv
  clear hv
  go_enter Tryd.func41, Tryd.ntmps41
  go_wp2_with fail
  refine (l1Below_any bk vs.length h1 (by omega) w hc).mono ?_
  rintro e w1 ⟨⟨x, hx, rfl⟩, hc1, hd1⟩
  have hcell := hd1.cell (dUnhide HV x hx) hb
  have hm := List.getElem_mem hx
  generalize vs[x] = v at *
  go_wp2
  go_ret
  exact ⟨⟨v, hm, rfl⟩, hc1, hd1⟩
/-- Behind a new block of texts: what l1Pick wants. -/
theorem pickT_new {bk : Nat} {w : World} (hc : Cur w bk) (vs : List ByteArray) (T : TypeId) (h1 : 1 ≤ vs.length) (h2 : vs.length ≤ 1000000) (cap : Nat) :
    Calls Tryd.prog 41 #[.pointer (some ⟨bk, 0, none⟩), .slice (some ⟨w.heap.size, 0, none⟩) vs.length cap] (w.alloc (.cells (vs.map Value.string).toArray T)) fun e w' => (∃ v, v ∈ vs ∧ e = .returned (.string v)) ∧ Cur w' bk ∧ Drawn bk w w' := by
  have hb : Below w.heap.size w (w.alloc (.cells (vs.map Value.string).toArray T)) := (Below.refl _ _).alloc (Nat.le_refl _) _
  have hlt := hc.lt
  refine (l1Pick_any bk w.heap.size 0 cap vs _ h1 h2 (fun i h => ?_) (by omega) (hc.below hb)).mono fun e w' ⟨h, k, d⟩ => ⟨h, k, (Drawn.of_below hb).trans d⟩
  simp
end Go.Proofs.YthndkkjgjhgdnaaDoor
