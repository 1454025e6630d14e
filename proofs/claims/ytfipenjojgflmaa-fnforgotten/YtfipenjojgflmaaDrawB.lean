/- Draws of a place: l1PickInt, l1Once, l1DrawPlace, DrawPlaceMake, DrawPlaceOk answer some number, and write into the cursor's own block alone. -/
import Derived.Test.YtfipenjojgflmaaGaA
namespace Go.Proofs.Ytfipenjojgflmaa
open Go.ChangeShapes Go.WideShapes Go.ChangeAt Go.RowKit
set_option linter.unusedVariables false

set_option maxHeartbeats 400000 in
theorem l1PickInt_any (bk b off cap : Nat) (vs : List Int) (w : World) (h1 : 1 ≤ vs.length) (h2 : vs.length ≤ 1000000) (hv : ∀ i (h : i < vs.length), w.cell? ⟨b, off + i, none⟩ = some (.int .i64 vs[i])) (hb : b ≠ bk) (hc : Cur w bk) :
    Calls Try.prog 74 #[.pointer (some ⟨bk, 0, none⟩), .slice (some ⟨b, off, none⟩) vs.length cap] w fun e w' => (∃ v, v ∈ vs ∧ e = .returned (.int .i64 v)) ∧ Cur w' bk ∧ Drawn bk w w' := by
  have HV := dHide hv
  clear hv
  go_enter Try.func74, Try.ntmps74
  go_wp2_with fail
  refine (l1Below_any bk vs.length h1 (by omega) w hc).mono ?_
  rintro e w1 ⟨⟨x, hx, rfl⟩, hc1, hd1⟩
  have hcell := hd1.cell (dUnhide HV x hx) hb
  have hm := List.getElem_mem hx
  generalize vs[x] = v at *
  go_wp2
  go_ret
  exact ⟨⟨v, hm, rfl⟩, hc1, hd1⟩
theorem l1Once_any (bk n : Nat) (h1 : 1 ≤ n) (h2 : n ≤ 1000000) (w : World) (hc : Cur w bk) :
    Calls Try.prog 43 #[.pointer (some ⟨bk, 0, none⟩), .int .i64 n] w fun e w' => (∃ b : Bool, e = .returned (.bool b)) ∧ Cur w' bk ∧ Drawn bk w w' := by
  go_enter Try.func43, Try.ntmps43
  go_wp2_with fail
  refine (l1Below_any bk n h1 (by omega) w hc).mono ?_
  rintro e w1 ⟨⟨x, hx, rfl⟩, hc1, hd1⟩
  go_wp2
  go_ret
  exact ⟨⟨_, rfl⟩, hc1, hd1⟩
/-- A number that an int holds. -/
def I64 (x : Int) : Prop := -9223372036854775808 ≤ x ∧ x ≤ 9223372036854775807
/-- Behind a new block of numbers: what l1PickInt wants. -/
theorem pick_new {bk : Nat} {w : World} (hc : Cur w bk) (vs : List Int) (T : TypeId) (h1 : 1 ≤ vs.length) (h2 : vs.length ≤ 1000000) (cap : Nat) :
    Calls Try.prog 74 #[.pointer (some ⟨bk, 0, none⟩), .slice (some ⟨w.heap.size, 0, none⟩) vs.length cap] (w.alloc (.cells (vs.map (Value.int .i64)).toArray T)) fun e w' => (∃ v, v ∈ vs ∧ e = .returned (.int .i64 v)) ∧ Cur w' bk ∧ Drawn bk w w' := by
  have hb : Below w.heap.size w (w.alloc (.cells (vs.map (Value.int .i64)).toArray T)) := (Below.refl _ _).alloc (Nat.le_refl _) _
  have hlt := hc.lt
  refine (l1PickInt_any bk w.heap.size 0 cap vs _ h1 h2 (fun i h => ?_) (by omega) (hc.below hb)).mono fun e w' ⟨h, k, d⟩ => ⟨h, k, (Drawn.of_below hb).trans d⟩
  simp
end Go.Proofs.Ytfipenjojgflmaa
