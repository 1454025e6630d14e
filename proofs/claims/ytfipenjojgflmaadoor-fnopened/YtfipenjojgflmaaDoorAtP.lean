/- sync/atomic on a pointer to a register: Store, Load, CompareAndSwap, where nobody else is. -/
import Derived.Test.YtfipenjojgflmaaDoorGaA
import Derived.Laws.Externs
namespace Go.Proofs.YtfipenjojgflmaaDoor
open Go.ChangeShapes Go.WideShapes Go.ChangeAt Go.RowKit
set_option linter.unusedVariables false

theorem run_storeP (w : World) (b : Nat) (old : Value) (p : Option Addr) (hc : w.cell? ⟨b, 0, none⟩ = some old) (hf : w.frozen? ⟨b, 0, none⟩ = false) :
    (callFunc 68 #[.pointer (some ⟨b, 0, none⟩), .pointer p]).run Tryd.prog w = .ok (.value (.tuple #[])) (w.setCell ⟨b, 0, none⟩ (.pointer p)) := by
  rw [@run_callFunc_extern Tryd.prog 68 _ Extern.Atomic.storeT Tryd.func68 (by kernel_rfl) (by kernel_rfl) (by kernel_rfl) (by kernel_rfl)]
  have e : Extern.Atomic.storeT #[.pointer (some ⟨b, 0, none⟩), .pointer p] = (do store (← asAddr (.pointer (some ⟨b, 0, none⟩))) (.pointer p) .atomic; pure Extern.Atomic.none_) := rfl
  rw [e]
  simp [Extern.Atomic.none_, asAddr, hc, hf, go_sem]
theorem run_loadP (w : World) (b : Nat) (p : Option Addr) (hc : w.cell? ⟨b, 0, none⟩ = some (.pointer p)) :
    (callFunc 73 #[.pointer (some ⟨b, 0, none⟩)]).run Tryd.prog w = .ok (.value (.pointer p)) w := by
  rw [@run_callFunc_extern Tryd.prog 73 _ (Extern.Atomic.loadT .ptr) Tryd.func73 (by kernel_rfl) (by kernel_rfl) (by kernel_rfl) (by kernel_rfl)]
  have e : Extern.Atomic.loadT .ptr #[.pointer (some ⟨b, 0, none⟩)] = (do Extern.Atomic.read .ptr (← asAddr (.pointer (some ⟨b, 0, none⟩)))) := rfl
  rw [e]
  simp [Extern.Atomic.read, asAddr, hc, go_sem]
theorem run_casP (w : World) (b : Nat) (a n : Addr) (T : TypeId) (cs : Array Value) (hb : w.heap[b]? = some (.cells cs T (0, 0))) (hc : w.cell? ⟨b, 0, none⟩ = some (.pointer (some a))) :
    (callFunc 78 #[.pointer (some ⟨b, 0, none⟩), .pointer (some a), .pointer (some n)]).run Tryd.prog w = .ok (.value (.bool true)) (w.setCell ⟨b, 0, none⟩ (.pointer (some n))) := by
  rw [@run_callFunc_extern Tryd.prog 78 _ (Extern.Atomic.casT .ptr) Tryd.func78 (by kernel_rfl) (by kernel_rfl) (by kernel_rfl) (by kernel_rfl)]
  have hf : w.frozen? ⟨b, 0, none⟩ = false := by simp [World.frozen?, hb]
  have e : Extern.Atomic.casT .ptr #[.pointer (some ⟨b, 0, none⟩), .pointer (some a), .pointer (some n)] = (do
    let a' ← asAddr (.pointer (some ⟨b, 0, none⟩))
    if ← Extern.Atomic.touchesFrozen a' then unsupported (.unsafePointer "a write to bytes that a string shares")
    let eq ← match Extern.Atomic.T.ptr, ← Extern.Atomic.read .ptr a', Value.pointer (some a) with
      | _, .int _ x, .int _ y => pure (x == y)
      | .ptr, .pointer x, .pointer y => samePointer x y
      | .int _, .pointer (some _), .int _ 0 | .int _, .int _ 0, .pointer (some _) => pure false
      | .int _, .pointer (some _), _ | .int _, _, .pointer (some _) => unsupported .addressObserved
      | _, _, _ => stuck "atomic.CompareAndSwap: old is no T"
    if eq then store a' (.pointer (some n)) .atomic
    pure (.bool eq)) := rfl
  have hs : (w.shape? b).isSome = true := by simp [World.shape?, hb]
  have hsame : (sameAddr a a).run Tryd.prog w = .ok true w := by simp [sameAddr, go_sem]
  rw [e]
  simp [Extern.Atomic.touchesFrozen, Extern.Atomic.read, asAddr, samePointer, viewAt, hs, hsame, hc, hf, go_sem]
end Go.Proofs.YtfipenjojgflmaaDoor
