/- An event among a law's arguments, and the laws' helpers of one event. -/
import Derived.Test.YtmccaaemhndolaaDoorRows
import Derived.Handy
import Derived.WalkKit
import Derived.ProofKit
import Derived.OpenShut
import Derived.ShutString
import Derived.Lib.SmallJoins
namespace Go.Proofs.YtmccaaemhndolaaDoor
open Go.ChangeShapes Go.WideShapes Go.ChangeAt Go.RowKit
set_option maxRecDepth 100000
set_option linter.unusedVariables false
section
variable {H : Type} {enc : TypeId × Value → H} {W : World} {r : Reach} {b0 base : Nat} {sp : Nat → Bool} {held : Bool} {v : Value} {d : DataW H} {p : List MemPlace}

/-- What an event of the arguments is. -/
def IsEv (v : Value) (m : Int × Int × ByteArray) : Prop := v = .agg #[.int .i64 m.1, .int .i64 m.2.1, .string m.2.2] ∧ (-9223372036854775808 ≤ m.2.1 ∧ m.2.1 ≤ 9223372036854775807) ∧ m.2.2.size ≤ 9223372036854775807
theorem open_Event (hv : Value.okWide Tryd.prog W r b0 23 v) (h : DataW.Trod enc Tryd.prog W base sp held 23 v d p) : ∃ m, IsEv v m := by
  obtain ⟨v0, v1, v2, y0, y1, y2, n, rfl, -, -, h0, h1, h2⟩ := Go.Joins.open_agg3 Tryd.underlying23 (by kernel_rfl) (by kernel_rfl) hv h
  obtain ⟨n0, e0, -, w0⟩ := DataW.trod_int Tryd.underlying3 h0
  obtain ⟨n1, e1, -, w1⟩ := DataW.trod_int Tryd.underlying3 h1
  obtain ⟨s2, e2, -, w2⟩ := DataW.trod_string Tryd.underlying9 h2
  cases e0; cases e1; cases e2
  exact ⟨(n0, n1, s2), rfl, bounds_i64 w1, w2⟩
end
theorem toEvent_one (k x : Int) (d : ByteArray) (w : World) :
    Calls Tryd.prog 6 #[.agg #[.int .i64 k, .int .i64 x, .string d]] w fun r w' => r = .returned (.agg #[.int .i64 k, .int .i64 x, .string d]) ∧ Below w.heap.size w w' := by
  go_enter Tryd.func6, Tryd.ntmps6
  go_wp2
  go_returns
  exact ⟨rfl, by go_grown⟩
theorem szEvent_one (k x : Int) (d : ByteArray) (left : Int) (l0 : 0 ≤ left) (l1 : left ≤ 1048576) (hs : d.size ≤ 9223372036854775807) (w : World) :
    Calls Tryd.prog 4 #[.agg #[.int .i64 k, .int .i64 x, .string d], .int .i64 left] w fun r w' => r = .returned (.int .i64 (if left < (d.size : Int) then -1 else left - (d.size : Int))) ∧ Below w.heap.size w w' := by
  by_cases hd : left < (d.size : Int)
  · rw [if_pos hd]
    have hd' : left - (d.size : Int) < 0 := by omega
    go_enter Tryd.func4, Tryd.ntmps4
    go_wp2
    go_returns
    exact ⟨rfl, by go_grown⟩
  · rw [if_neg hd]
    have hd' : ¬ (left - (d.size : Int) < 0) := by omega
    go_enter Tryd.func4, Tryd.ntmps4
    go_wp2
    go_returns
    exact ⟨rfl, by go_grown⟩
end Go.Proofs.YtmccaaemhndolaaDoor
