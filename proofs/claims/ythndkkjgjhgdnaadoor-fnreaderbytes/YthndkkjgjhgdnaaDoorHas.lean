/- Several texts in one: AsE, AsF. -/
import Derived.Test.YthndkkjgjhgdnaaDoorGaA
import Derived.Stop.Asserts
import Derived.Deep.MidRow
import GoSem.ClaimJoined
import Derived.WalkKit
import Derived.LaidEql
import Derived.Stop.IfaceNil
import Derived.RowKitTokens
import Derived.Laws.Externs
namespace Go.Proofs.YthndkkjgjhgdnaaDoor
open Go.ChangeShapes Go.WideShapes Go.ChangeAt Go.RowKit Go.Stop
set_option linter.unusedVariables false
set_option maxRecDepth 100000

/-- A type's handle, as the library tells it. -/
def hdl (t : TypeId) : Value := .pointer (some ⟨1, t, none⟩)
def rty (t : TypeId) : Value := .iface 132 (.agg #[hdl t])
theorem asValueT (tb : Nat) (w : World) : (callFunc 70 #[.iface 88 (.pointer (some ⟨tb, 0, none⟩))]).run Tryd.prog w = .ok (.value (.agg #[hdl 88, .pointer (some ⟨w.heap.size, 0, none⟩), .int .u64 150])) (w.alloc (.cells #[.pointer (some ⟨tb, 0, none⟩)] 88)) := by kernel_rfl
theorem asValueE (p : Int) (w : World) : (callFunc 70 #[.iface 86 (.agg #[.int .i64 p])]).run Tryd.prog w = .ok (.value (.agg #[hdl 86, .pointer (some ⟨w.heap.size, 0, none⟩), .int .u64 153])) (w.alloc (.cells #[.int .i64 p] 86)) := by kernel_rfl
theorem asType (x : Addr) (w : World) : (callFunc 71 #[.agg #[hdl 88, .pointer (some x), .int .u64 150]]).run Tryd.prog w = .ok (.value (rty 88)) w := by kernel_rfl
theorem asKindP (w : World) : (callFunc 103 #[hdl 88]).run Tryd.prog w = .ok (.value (.int .u8 22)) w := by kernel_rfl
theorem asKindS (w : World) : (callFunc 103 #[hdl 86]).run Tryd.prog w = .ok (.value (.int .u8 25)) w := by kernel_rfl
theorem asElem (w : World) : (callFunc 115 #[.agg #[hdl 88]]).run Tryd.prog w = .ok (.value (rty 86)) w := by kernel_rfl
theorem asImpl (w : World) : (callFunc 116 #[.agg #[hdl 86], rty 82]).run Tryd.prog w = .ok (.value (.bool true)) w := by kernel_rfl
theorem asAsg (w : World) : (callFunc 113 #[.agg #[hdl 86], rty 86]).run Tryd.prog w = .ok (.value (.bool true)) w := by kernel_rfl
theorem asTypeOf (p : Int) (w : World) : (callFunc 81 #[.iface 86 (.agg #[.int .i64 p])]).run Tryd.prog w = .ok (.value (rty 86)) w := by kernel_rfl
theorem mtKind (v : Value) (w : World) : (Go.method 283 132 (.agg #[v]) "Kind").run Tryd.prog w = .ok (103, v) w := by kernel_rfl
theorem mtElem (v : Value) (w : World) : (Go.method 283 132 v "Elem").run Tryd.prog w = .ok (115, v) w := by kernel_rfl
theorem mtImpl (v : Value) (w : World) : (Go.method 283 132 v "Implements").run Tryd.prog w = .ok (116, v) w := by kernel_rfl
theorem mtAsg (v : Value) (w : World) : (Go.method 283 132 v "AssignableTo").run Tryd.prog w = .ok (113, v) w := by kernel_rfl
open Go.Extern Go.Extern.Rtype in
theorem asIsNil (x : Nat) (tb : Addr) (w : World) (h : w.cell? ⟨x, 0, none⟩ = some (.pointer (some tb))) : (callFunc 72 #[.agg #[hdl 88, .pointer (some ⟨x, 0, none⟩), .int .u64 150]]).run Tryd.prog w = .ok (.value (.bool false)) w := by
  have e : ∀ w : World, (callFunc 72 #[.agg #[hdl 88, .pointer (some ⟨x, 0, none⟩), .int .u64 150]]).run Tryd.prog w = (ReflectliteValue.isNil 88 ⟨x, 0, none⟩ 0 22 >>= fun u => pure (Next.value u)).run Tryd.prog w := fun w => by kernel_rfl
  have ha : ∀ w : World, (isAgg 88).run Tryd.prog w = .ok false w := fun w => by kernel_rfl
  rw [e]
  simp [ReflectliteValue.isNil, loadVar, ha, h, Result.andThen]
open Go.Extern Go.Extern.Rtype in
theorem asElemV (x tb : Nat) (w : World) (h : w.cell? ⟨x, 0, none⟩ = some (.pointer (some ⟨tb, 0, none⟩))) : (callFunc 82 #[.agg #[hdl 88, .pointer (some ⟨x, 0, none⟩), .int .u64 150]]).run Tryd.prog w = .ok (.value (.agg #[hdl 86, .pointer (some ⟨tb, 0, none⟩), .int .u64 409])) w := by
  have e : ∀ w : World, (callFunc 82 #[.agg #[hdl 88, .pointer (some ⟨x, 0, none⟩), .int .u64 150]]).run Tryd.prog w = (ReflectliteValue.elem 88 ⟨x, 0, none⟩ 0 22 >>= fun u => pure (Next.value u)).run Tryd.prog w := fun w => by kernel_rfl
  have ha : ∀ w : World, (isAgg 88).run Tryd.prog w = .ok false w := fun w => by kernel_rfl
  have he : ∀ w : World, (elem? 88).run Tryd.prog w = .ok (some 86) w := fun w => by kernel_rfl
  have hm : ∀ (a : Addr) (w : World), (ReflectliteValue.mk 86 a ReflectliteValue.flagAddr).run Tryd.prog w = .ok (.agg #[hdl 86, .pointer (some a), .int .u64 409]) w := fun a w => by kernel_rfl
  rw [e]
  simp [ReflectliteValue.elem, loadVar, ha, he, h, hm, Result.andThen]
open Go.Extern Go.Extern.Rtype in
theorem asSet (tb y : Nat) (p q : Int) (w : World) (h : w.cell? ⟨y, 0, none⟩ = some (.int .i64 p)) (ht : w.cell? ⟨tb, 0, none⟩ = some (.int .i64 q)) (hf : w.frozen? ⟨tb, 0, none⟩ = false) : (callFunc 83 #[.agg #[hdl 86, .pointer (some ⟨tb, 0, none⟩), .int .u64 409], .agg #[hdl 86, .pointer (some ⟨y, 0, none⟩), .int .u64 153]]).run Tryd.prog w = .ok (.value (.tuple #[])) (w.setCell ⟨tb, 0, none⟩ (.int .i64 p)) := by
  have e : ∀ w : World, (callFunc 83 #[.agg #[hdl 86, .pointer (some ⟨tb, 0, none⟩), .int .u64 409], .agg #[hdl 86, .pointer (some ⟨y, 0, none⟩), .int .u64 153]]).run Tryd.prog w = (loadVar 86 ⟨y, 0, none⟩ >>= fun v => storeVar 86 ⟨tb, 0, none⟩ v >>= fun _ => pure (Next.value (.tuple #[]))).run Tryd.prog w := fun w => by kernel_rfl
  have hl : (loadVar 86 ⟨y, 0, none⟩).run Tryd.prog w = .ok (.agg [.int .i64 p].toArray) w := run_loadVar_mid (P := Tryd.prog) w y 0 86 [.int .i64 p] _ (fun j v hv => by
    cases j with
    | zero => simp at hv; subst hv; simpa using h
    | succ j => simp at hv) Tryd.underlying86 rfl (by kernel_rfl)
  have hs : (storeVar 86 ⟨tb, 0, none⟩ (.agg #[.int .i64 p])).run Tryd.prog w = .ok () (w.setCell ⟨tb, 0, none⟩ (.int .i64 p)) := run_storeVar_mid (P := Tryd.prog) w tb 0 86 #[.int .i64 p] (fun j hj => by
    have : j = 0 := by simpa using hj
    subst this
    exact ⟨by rw [ht]; rfl, hf⟩) (by kernel_rfl) (by kernel_rfl)
  rw [e]
  simp [hl, hs, Result.andThen]
end Go.Proofs.YthndkkjgjhgdnaaDoor
namespace Go.Proofs.YthndkkjgjhgdnaaDoor
open Go.ChangeShapes Go.WideShapes Go.ChangeAt Go.RowKit Go.Stop
set_option linter.unusedVariables false
set_option maxRecDepth 100000

set_option maxHeartbeats 4000000 in
theorem as_at (tb x : Nat) (p q : Int) (w : World) (hx : w.cell? ⟨x, 0, none⟩ = some (.pointer (some ⟨tb, 0, none⟩))) (ht : w.cell? ⟨tb, 0, none⟩ = some (.int .i64 q)) (hf : w.frozen? ⟨tb, 0, none⟩ = false) :
    Calls Tryd.prog 73 #[.iface 86 (.agg #[.int .i64 p]), .iface 88 (.pointer (some ⟨tb, 0, none⟩)), .agg #[hdl 88, .pointer (some ⟨x, 0, none⟩), .int .u64 150], rty 86] w fun e w' => e = .returned (.bool true) ∧ Drawn tb w w' := by
  have tT := asTypeOf
  have mA := mtAsg
  have aA := asAsg
  have vE := asValueE
  have b1 : ∀ o, Below w.heap.size w (w.alloc o) := fun o => (Below.refl _ _).alloc (Nat.le_refl _) o
  have b2 : ∀ o o', Below w.heap.size w ((w.alloc o).alloc o') := fun o o' => belowThen (b1 o) ((Below.refl _ _).alloc (Nat.le_refl _) o')
  have e1 := fun o => asElemV x tb (w.alloc o) (((b1 o).cell (p := ⟨x, 0, none⟩) (dCell_lt hx)).trans hx)
  have s1 := fun o => asSet tb (w.alloc o).heap.size p q ((w.alloc o).alloc (.cells #[.int .i64 p] 86)) (by simp) (((b2 o _).cell (p := ⟨tb, 0, none⟩) (dCell_lt ht)).trans ht) (((b2 o _).frozen (p := ⟨tb, 0, none⟩) (dCell_lt ht)).trans hf)
  have F := dHide fun o => (Drawn.of_below (bk := tb) (b2 o (.cells #[.int .i64 p] 86))).setCell 0 (.int .i64 p)
  simp only [World.size_alloc] at s1
  unfold rty hdl at *
  clear b1 b2 hx ht hf
  go_enter Tryd.func73, Tryd.ntmps73
  go_wp2
  refine wp_loop_rounds 1 ?_
  rw [rounds_succ]
  go_wp2
  go_ret
  exact ⟨rfl, dUnhide F _⟩
/-- The variable that the library's errors holds: the handle of error. -/
def Hnd (w : World) : Prop := w.cell? ⟨0, 0, none⟩ = some (rty 82)
theorem Hnd.below {w w' : World} {B : Nat} (h : Hnd w) (hb : Below B w w') (hB : w.heap.size ≤ B) : Hnd w' := by
  have hl := dCell_lt h
  exact (hb.cell (p := ⟨0, 0, none⟩) (by simp only at hl ⊢; omega)).trans h
set_option maxHeartbeats 4000000 in
theorem as_bad (tb : Nat) (p q : Int) (w : World) (hH : Hnd w) (ht : w.cell? ⟨tb, 0, none⟩ = some (.int .i64 q)) (hf : w.frozen? ⟨tb, 0, none⟩ = false) :
    Calls Tryd.prog 49 #[.iface 86 (.agg #[.int .i64 p]), .iface 88 (.pointer (some ⟨tb, 0, none⟩))] w fun e w' => e = .returned (.bool true) ∧ Drawn tb w w' := by
  have vT := fun w => asValueT tb w
  have tV := asType
  have mK := mtKind
  have kP := asKindP
  have kS := asKindS
  have mE := mtElem
  have eP := asElem
  have mI := mtImpl
  have iE := asImpl
  have b0 : ∀ o, Below w.heap.size w (w.alloc o) := fun o => (Below.refl _ _).alloc (Nat.le_refl _) o
  have b2 : ∀ o o', Below w.heap.size w ((w.alloc o).alloc o') := fun o o' => belowThen (b0 o) ((Below.refl _ _).alloc (Nat.le_refl _) o')
  have hx : ∀ o', ((w.alloc (.cells #[.pointer (some ⟨tb, 0, none⟩)] 88)).alloc o').cell? ⟨w.heap.size, 0, none⟩ = some (.pointer (some ⟨tb, 0, none⟩)) := fun o' => ((Bx.new w [.pointer (some ⟨tb, 0, none⟩)] 88).below ((Below.refl _ _).alloc (Nat.le_refl _) o')) 0 _ rfl
  have iN := fun o' => asIsNil w.heap.size ⟨tb, 0, none⟩ _ (hx o')
  have hg : ∀ o o', ((w.alloc o).alloc o').cell? ⟨0, 0, none⟩ = some (rty 82) := fun o o' => hH.below (b2 o o') (Nat.le_refl _)
  have C := dHide fun o' => as_at tb w.heap.size p q _ (hx o') (((b2 _ o').cell (p := ⟨tb, 0, none⟩) (dCell_lt ht)).trans ht) (((b2 _ o').frozen (p := ⟨tb, 0, none⟩) (dCell_lt ht)).trans hf)
  have F := dHide fun o' => Drawn.of_below (bk := tb) (b2 (.cells #[.pointer (some ⟨tb, 0, none⟩)] 88) o')
  clear hH hx b0 b2 ht hf
  unfold rty hdl at *
  go_enter Tryd.func49, Tryd.ntmps49
  go_wp2_with fail
  refine (dUnhide C _).mono ?_
  rintro e w1 ⟨rfl, d1⟩
  have D := dHide ((dUnhide F _).trans d1)
  clear C F d1
  go_wp2
  go_ret
  exact ⟨rfl, dUnhide D⟩
set_option maxHeartbeats 1000000 in
theorem as_nil (v : Value) (w : World) :
    Calls Tryd.prog 49 #[.nilIface, v] w fun e w' => e = .returned (.bool false) ∧ w' = w := by
  go_enter Tryd.func49, Tryd.ntmps49
  go_wp2
  go_ret
  exact ⟨rfl, rfl⟩
end Go.Proofs.YthndkkjgjhgdnaaDoor
