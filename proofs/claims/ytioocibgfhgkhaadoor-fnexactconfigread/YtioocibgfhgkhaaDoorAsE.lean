/- errors.As at a target that holds a struct of ours: nil, and an error of just that type. -/
import Derived.Test.YtioocibgfhgkhaaDoorGaA
import Derived.Stop.Asserts
import Derived.Deep.MidRow
import GoSem.ClaimJoined
namespace Go.Proofs.YtioocibgfhgkhaaDoor
open Go.ChangeShapes Go.WideShapes Go.ChangeAt Go.RowKit Go.Stop
set_option linter.unusedVariables false
set_option maxRecDepth 100000

/-- A type's handle, as the library tells it. -/
def hdl (t : TypeId) : Value := .pointer (some ⟨1, t, none⟩)
def rty (t : TypeId) : Value := .iface 119 (.agg #[hdl t])
theorem asValueT (tb : Nat) (w : World) : (callFunc 59 #[.iface 78 (.pointer (some ⟨tb, 0, none⟩))]).run Tryd.prog w = .ok (.value (.agg #[hdl 78, .pointer (some ⟨w.heap.size, 0, none⟩), .int .u64 150])) (w.alloc (.cells #[.pointer (some ⟨tb, 0, none⟩)] 78)) := by kernel_rfl
theorem asValueE (p : Int) (w : World) : (callFunc 59 #[.iface 76 (.agg #[.int .i64 p])]).run Tryd.prog w = .ok (.value (.agg #[hdl 76, .pointer (some ⟨w.heap.size, 0, none⟩), .int .u64 153])) (w.alloc (.cells #[.int .i64 p] 76)) := by kernel_rfl
theorem asType (x : Addr) (w : World) : (callFunc 60 #[.agg #[hdl 78, .pointer (some x), .int .u64 150]]).run Tryd.prog w = .ok (.value (rty 78)) w := by kernel_rfl
theorem asKindP (w : World) : (callFunc 92 #[hdl 78]).run Tryd.prog w = .ok (.value (.int .u8 22)) w := by kernel_rfl
theorem asKindS (w : World) : (callFunc 92 #[hdl 76]).run Tryd.prog w = .ok (.value (.int .u8 25)) w := by kernel_rfl
theorem asElem (w : World) : (callFunc 106 #[.agg #[hdl 78]]).run Tryd.prog w = .ok (.value (rty 76)) w := by kernel_rfl
theorem asImpl (w : World) : (callFunc 107 #[.agg #[hdl 76], rty 72]).run Tryd.prog w = .ok (.value (.bool true)) w := by kernel_rfl
theorem asAsg (w : World) : (callFunc 104 #[.agg #[hdl 76], rty 76]).run Tryd.prog w = .ok (.value (.bool true)) w := by kernel_rfl
theorem asTypeOf (p : Int) (w : World) : (callFunc 70 #[.iface 76 (.agg #[.int .i64 p])]).run Tryd.prog w = .ok (.value (rty 76)) w := by kernel_rfl
theorem mtKind (v : Value) (w : World) : (Go.method 272 119 (.agg #[v]) "Kind").run Tryd.prog w = .ok (92, v) w := by kernel_rfl
theorem mtElem (v : Value) (w : World) : (Go.method 272 119 v "Elem").run Tryd.prog w = .ok (106, v) w := by kernel_rfl
theorem mtImpl (v : Value) (w : World) : (Go.method 272 119 v "Implements").run Tryd.prog w = .ok (107, v) w := by kernel_rfl
theorem mtAsg (v : Value) (w : World) : (Go.method 272 119 v "AssignableTo").run Tryd.prog w = .ok (104, v) w := by kernel_rfl
open Go.Extern Go.Extern.Rtype in
theorem asIsNil (x : Nat) (tb : Addr) (w : World) (h : w.cell? ⟨x, 0, none⟩ = some (.pointer (some tb))) : (callFunc 61 #[.agg #[hdl 78, .pointer (some ⟨x, 0, none⟩), .int .u64 150]]).run Tryd.prog w = .ok (.value (.bool false)) w := by
  have e : ∀ w : World, (callFunc 61 #[.agg #[hdl 78, .pointer (some ⟨x, 0, none⟩), .int .u64 150]]).run Tryd.prog w = (ReflectliteValue.isNil 78 ⟨x, 0, none⟩ 0 22 >>= fun u => pure (Next.value u)).run Tryd.prog w := fun w => by kernel_rfl
  have ha : ∀ w : World, (isAgg 78).run Tryd.prog w = .ok false w := fun w => by kernel_rfl
  rw [e]
  simp [ReflectliteValue.isNil, loadVar, ha, h, Result.andThen]
open Go.Extern Go.Extern.Rtype in
theorem asElemV (x tb : Nat) (w : World) (h : w.cell? ⟨x, 0, none⟩ = some (.pointer (some ⟨tb, 0, none⟩))) : (callFunc 71 #[.agg #[hdl 78, .pointer (some ⟨x, 0, none⟩), .int .u64 150]]).run Tryd.prog w = .ok (.value (.agg #[hdl 76, .pointer (some ⟨tb, 0, none⟩), .int .u64 409])) w := by
  have e : ∀ w : World, (callFunc 71 #[.agg #[hdl 78, .pointer (some ⟨x, 0, none⟩), .int .u64 150]]).run Tryd.prog w = (ReflectliteValue.elem 78 ⟨x, 0, none⟩ 0 22 >>= fun u => pure (Next.value u)).run Tryd.prog w := fun w => by kernel_rfl
  have ha : ∀ w : World, (isAgg 78).run Tryd.prog w = .ok false w := fun w => by kernel_rfl
  have he : ∀ w : World, (elem? 78).run Tryd.prog w = .ok (some 76) w := fun w => by kernel_rfl
  have hm : ∀ (a : Addr) (w : World), (ReflectliteValue.mk 76 a ReflectliteValue.flagAddr).run Tryd.prog w = .ok (.agg #[hdl 76, .pointer (some a), .int .u64 409]) w := fun a w => by kernel_rfl
  rw [e]
  simp [ReflectliteValue.elem, loadVar, ha, he, h, hm, Result.andThen]
open Go.Extern Go.Extern.Rtype in
theorem asSet (tb y : Nat) (p q : Int) (w : World) (h : w.cell? ⟨y, 0, none⟩ = some (.int .i64 p)) (ht : w.cell? ⟨tb, 0, none⟩ = some (.int .i64 q)) (hf : w.frozen? ⟨tb, 0, none⟩ = false) : (callFunc 72 #[.agg #[hdl 76, .pointer (some ⟨tb, 0, none⟩), .int .u64 409], .agg #[hdl 76, .pointer (some ⟨y, 0, none⟩), .int .u64 153]]).run Tryd.prog w = .ok (.value (.tuple #[])) (w.setCell ⟨tb, 0, none⟩ (.int .i64 p)) := by
  have e : ∀ w : World, (callFunc 72 #[.agg #[hdl 76, .pointer (some ⟨tb, 0, none⟩), .int .u64 409], .agg #[hdl 76, .pointer (some ⟨y, 0, none⟩), .int .u64 153]]).run Tryd.prog w = (loadVar 76 ⟨y, 0, none⟩ >>= fun v => storeVar 76 ⟨tb, 0, none⟩ v >>= fun _ => pure (Next.value (.tuple #[]))).run Tryd.prog w := fun w => by kernel_rfl
  have hl : (loadVar 76 ⟨y, 0, none⟩).run Tryd.prog w = .ok (.agg [.int .i64 p].toArray) w := run_loadVar_mid (P := Tryd.prog) w y 0 76 [.int .i64 p] _ (fun j v hv => by
    cases j with
    | zero => simp at hv; subst hv; simpa using h
    | succ j => simp at hv) Tryd.underlying76 rfl (by kernel_rfl)
  have hs : (storeVar 76 ⟨tb, 0, none⟩ (.agg #[.int .i64 p])).run Tryd.prog w = .ok () (w.setCell ⟨tb, 0, none⟩ (.int .i64 p)) := run_storeVar_mid (P := Tryd.prog) w tb 0 76 #[.int .i64 p] (fun j hj => by
    have : j = 0 := by simpa using hj
    subst this
    exact ⟨by rw [ht]; rfl, hf⟩) (by kernel_rfl) (by kernel_rfl)
  rw [e]
  simp [hl, hs, Result.andThen]
end Go.Proofs.YtioocibgfhgkhaaDoor
