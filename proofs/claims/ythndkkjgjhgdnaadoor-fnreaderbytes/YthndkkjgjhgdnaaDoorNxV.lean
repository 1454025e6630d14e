/- Events that may be appended to (split off NxS). -/
import Derived.Test.YthndkkjgjhgdnaaDoorEvS
namespace Go.Proofs.YthndkkjgjhgdnaaDoor
open Go.ChangeShapes Go.WideShapes Go.ChangeAt Go.RowKit
set_option linter.unusedVariables false
set_option maxRecDepth 100000

/-- Events that may be appended to. -/
def ApV (w : World) (base : Nat) (v : Value) (ms : List Ev) : Prop := ApR 68 3 Ev.cl w base v ms
/-- A new block of one event. -/
theorem rwV_one (w : World) (e : Ev) (T : TypeId) (c : Nat) (hc : 1 ≤ c ∧ c ≤ 9223372036854775807) : Rw 3 Ev.cl (w.alloc (.cells #[.int .i64 e.kind, .int .i64 e.pl, .string e.data] T)) (.slice (some ⟨w.heap.size, 0, none⟩) 1 c) [e] := by
  refine ⟨by simp, _, _, rfl, by simpa using hc, .inr ⟨w.heap.size, 0, rfl, fun i hi j u hu => ?_⟩⟩
  obtain rfl : i = 0 := by simp at hi; omega
  simp only [List.getElem_cons_zero, Ev.cl] at hu
  simpa using hu
end Go.Proofs.YthndkkjgjhgdnaaDoor
