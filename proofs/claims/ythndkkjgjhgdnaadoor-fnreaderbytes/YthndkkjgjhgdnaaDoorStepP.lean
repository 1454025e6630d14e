/- New memory as steps of a region that draws: the world behind is told, not written out. -/
import Derived.Test.YthndkkjgjhgdnaaDoorGaA
import Derived.WalkKit
namespace Go.Proofs.YthndkkjgjhgdnaaDoor
open Go.ChangeShapes Go.WideShapes Go.ChangeAt Go.RowKit
set_option linter.unusedVariables false
set_option maxRecDepth 100000

section
variable {T TS : TypeId} {zs : List Value} {w : World} {ops : Array Oper} {o : Oper} {a : Act} {Q : Exit → Act → World → Prop} {K : Act → World → Prop} {F : Prop}
/-- A record's block. -/
def AllocsAs (T : TypeId) (zs : List Value) : Prop := ∀ w : World, (Instr.alloc T true (.tuple #[])).run Tryd.prog w = .ok (.pointer (some ⟨w.heap.size, 0, none⟩)) (w.alloc (.cells zs.toArray T))
/-- A slice of nothing. -/
def MakesNone (TS T : TypeId) : Prop := ∀ w : World, (Instr.buildSlice TS 0 #[]).run Tryd.prog w = .ok (.slice (some ⟨w.heap.size, 0, none⟩) 0 0) (w.alloc (.cells #[] T))
theorem step_alloc (hr : AllocsAs T zs) (hg : o.guard = none) (hop : o.op = .alloc T) (B : Nat) (hB : B ≤ w.heap.size)
    (h : ∀ w' b, BxZ w' B b zs → Below w.heap.size w w' → w.heap.size ≤ b → b < w'.heap.size → K (a.put o.dst (.pointer (some ⟨b, 0, none⟩))) w') :
    if Region.wanted o (yielded ops a.tmps) = true then Oper.wp Tryd.prog o a w K Q else F := by
  have hw : Region.wanted o (yielded ops a.tmps) = true := by simp [Region.wanted, hg]
  rw [if_pos hw]
  have h4 := h _ w.heap.size (BxZ.new w zs T hB) ((Below.refl _ _).alloc (Nat.le_refl _) _) (Nat.le_refl _) (by simp)
  unfold Oper.wp
  simp [execOp, hop, hr w, Result.andThen]
  exact h4
theorem step_made (hr : MakesNone TS T) (hg : o.guard = none) (hop : o.op = .buildSlice TS 0 #[])
    (h : ∀ w' a0, Below w.heap.size w w' → K (a.put o.dst (.slice a0 0 0)) w') :
    if Region.wanted o (yielded ops a.tmps) = true then Oper.wp Tryd.prog o a w K Q else F := by
  have hw : Region.wanted o (yielded ops a.tmps) = true := by simp [Region.wanted, hg]
  rw [if_pos hw]
  have h4 := h _ (some ⟨w.heap.size, 0, none⟩) ((Below.refl _ _).alloc (Nat.le_refl _) (.cells #[] T))
  unfold Oper.wp
  simp [execOp, hop, hr w, Result.andThen]
  exact h4
end
/-- What touches from base on touches no block below. -/
theorem touch_base {α : Type} {T TS : TypeId} {z : Value} {sz bytes : Nat} {cl : α → List Value} {w : World} {base b : Nat} {v : Value} {ms : List α} (E : Elem T TS z sz bytes cl) (h : ApR T sz cl w base v ms) (hb : b < base) : touch v ≠ some b := fun e => by have := (h.touched E e).1; omega
end Go.Proofs.YthndkkjgjhgdnaaDoor
