/- Plain values among a law's arguments; what is left of a measure. -/
import Derived.Test.YtognmmmplmideaaSitP
namespace Go.Proofs.Ytognmmmplmideaa
open Go.ChangeShapes Go.WideShapes Go.ChangeAt Go.RowKit
set_option linter.unusedVariables false

/-- What is left of a measure. -/
def lft (left : Int) (n : Nat) : Int := if left < (n : Int) then -1 else left - (n : Int)
theorem lft_no {left : Int} {n : Nat} (h : left < (n : Int)) : lft left n = -1 := if_pos h
theorem lft_yes {left : Int} {n : Nat} (h : ¬ left < (n : Int)) : lft left n = left - (n : Int) := if_neg h
/-- Plain values among a law's arguments. -/
def okInt (m : Int) : Prop := -9223372036854775808 ≤ m ∧ m ≤ 9223372036854775807
def IsInt (v : Value) (m : Int) (w : World) : Prop := v = .int .i64 m ∧ okInt m
def okStr (m : ByteArray) : Prop := m.size ≤ 9223372036854775807
def IsStr (v : Value) (m : ByteArray) (w : World) : Prop := v = .string m ∧ okStr m
def okBool (m : Bool) : Prop := True
def IsBool (v : Value) (m : Bool) (w : World) : Prop := v = .bool m ∧ okBool m
end Go.Proofs.Ytognmmmplmideaa
