/- errors.As at a target that holds a struct of ours: its walk. -/
import Derived.Test.YtioocibgfhgkhaaDoorAsE
import Derived.WalkKit
import Derived.LaidEql
import Derived.Stop.IfaceNil
import Derived.RowKitTokens
import Derived.Laws.Externs
namespace Go.Proofs.YtioocibgfhgkhaaDoor
open Go.ChangeShapes Go.WideShapes Go.ChangeAt Go.RowKit Go.Stop
set_option linter.unusedVariables false
set_option maxRecDepth 100000

set_option maxHeartbeats 4000000 in
theorem as_at (tb x : Nat) (p q : Int) (w : World) (hx : w.cell? ⟨x, 0, none⟩ = some (.pointer (some ⟨tb, 0, none⟩))) (ht : w.cell? ⟨tb, 0, none⟩ = some (.int .i64 q)) (hf : w.frozen? ⟨tb, 0, none⟩ = false) :
    Calls Tryd.prog 62 #[.iface 76 (.agg #[.int .i64 p]), .iface 78 (.pointer (some ⟨tb, 0, none⟩)), .agg #[hdl 78, .pointer (some ⟨x, 0, none⟩), .int .u64 150], rty 76] w fun e w' => e = .returned (.bool true) ∧ Drawn tb w w' := by
  have tT := asTypeOf
  have mA := mtAsg
  have aA := asAsg
  have vE := asValueE
  have b1 : ∀ o, Below w.heap.size w (w.alloc o) := fun o => (Below.refl _ _).alloc (Nat.le_refl _) o
  have b2 : ∀ o o', Below w.heap.size w ((w.alloc o).alloc o') := fun o o' => belowThen (b1 o) ((Below.refl _ _).alloc (Nat.le_refl _) o')
  have e1 := fun o => asElemV x tb (w.alloc o) (((b1 o).cell (p := ⟨x, 0, none⟩) (dCell_lt hx)).trans hx)
  have s1 := fun o => asSet tb (w.alloc o).heap.size p q ((w.alloc o).alloc (.cells #[.int .i64 p] 76)) (by simp) (((b2 o _).cell (p := ⟨tb, 0, none⟩) (dCell_lt ht)).trans ht) (((b2 o _).frozen (p := ⟨tb, 0, none⟩) (dCell_lt ht)).trans hf)
  have F := dHide fun o => (Drawn.of_below (bk := tb) (b2 o (.cells #[.int .i64 p] 76))).setCell 0 (.int .i64 p)
  simp only [World.size_alloc] at s1
  unfold rty hdl at *
  clear b1 b2 hx ht hf
  go_enter Tryd.func62, Tryd.ntmps62
  go_wp2
  refine wp_loop_rounds 1 ?_
  rw [rounds_succ]
  go_wp2
  go_ret
  exact ⟨rfl, dUnhide F _⟩
/-- The variable that the library's errors holds: the handle of error. -/
def Hnd (w : World) : Prop := w.cell? ⟨0, 0, none⟩ = some (rty 72)
theorem Hnd.below {w w' : World} {B : Nat} (h : Hnd w) (hb : Below B w w') (hB : w.heap.size ≤ B) : Hnd w' := by
  have hl := dCell_lt h
  exact (hb.cell (p := ⟨0, 0, none⟩) (by simp only at hl ⊢; omega)).trans h
set_option maxHeartbeats 4000000 in
theorem as_bad (tb : Nat) (p q : Int) (w : World) (hH : Hnd w) (ht : w.cell? ⟨tb, 0, none⟩ = some (.int .i64 q)) (hf : w.frozen? ⟨tb, 0, none⟩ = false) :
    Calls Tryd.prog 40 #[.iface 76 (.agg #[.int .i64 p]), .iface 78 (.pointer (some ⟨tb, 0, none⟩))] w fun e w' => e = .returned (.bool true) ∧ Drawn tb w w' := by
  have vT := fun w => asValueT tb w
  have tV := asType
  have mK := mtKind
  have kP := asKindP
  have kS := asKindS
  have mE := mtElem
  have eP := asElem
  have mI := mtImpl
  have iE := asImpl
  have b0 : ∀ o, Below w.heap.size w (w.alloc o) := fun o => (Below.refl _ _).alloc (Nat.le_refl _) o
  have b2 : ∀ o o', Below w.heap.size w ((w.alloc o).alloc o') := fun o o' => belowThen (b0 o) ((Below.refl _ _).alloc (Nat.le_refl _) o')
  have hx : ∀ o', ((w.alloc (.cells #[.pointer (some ⟨tb, 0, none⟩)] 78)).alloc o').cell? ⟨w.heap.size, 0, none⟩ = some (.pointer (some ⟨tb, 0, none⟩)) := fun o' => ((Bx.new w [.pointer (some ⟨tb, 0, none⟩)] 78).below ((Below.refl _ _).alloc (Nat.le_refl _) o')) 0 _ rfl
  have iN := fun o' => asIsNil w.heap.size ⟨tb, 0, none⟩ _ (hx o')
  have hg : ∀ o o', ((w.alloc o).alloc o').cell? ⟨0, 0, none⟩ = some (rty 72) := fun o o' => hH.below (b2 o o') (Nat.le_refl _)
  have C := dHide fun o' => as_at tb w.heap.size p q _ (hx o') (((b2 _ o').cell (p := ⟨tb, 0, none⟩) (dCell_lt ht)).trans ht) (((b2 _ o').frozen (p := ⟨tb, 0, none⟩) (dCell_lt ht)).trans hf)
  have F := dHide fun o' => Drawn.of_below (bk := tb) (b2 (.cells #[.pointer (some ⟨tb, 0, none⟩)] 78) o')
  clear hH hx b0 b2 ht hf
  unfold rty hdl at *
  go_enter Tryd.func40, Tryd.ntmps40
  go_wp2_with fail
  refine (dUnhide C _).mono ?_
  rintro e w1 ⟨rfl, d1⟩
  have D := dHide ((dUnhide F _).trans d1)
  clear C F d1
  go_wp2
  go_ret
  exact ⟨rfl, dUnhide D⟩
set_option maxHeartbeats 1000000 in
theorem as_nil (v : Value) (w : World) :
    Calls Tryd.prog 40 #[.nilIface, v] w fun e w' => e = .returned (.bool false) ∧ w' = w := by
  go_enter Tryd.func40, Tryd.ntmps40
  go_wp2
  go_ret
  exact ⟨rfl, rfl⟩
end Go.Proofs.YtioocibgfhgkhaaDoor
