/- RegOk: when a register is right; spec's. -/
import Derived.Test.YthndkkjgjhgdnaaDoorRgB
import Derived.Test.YthndkkjgjhgdnaaDoorGaC
import Derived.Test.YthndkkjgjhgdnaaDoorGbP
namespace Go.Proofs.YthndkkjgjhgdnaaDoor
open Go.ChangeShapes Go.WideShapes Go.ChangeAt Go.RowKit
set_option linter.unusedVariables false
set_option linter.unusedSimpArgs false
set_option maxRecDepth 100000

/-- An era in its place. -/
def erC (ds : List Int) (cop : Int) (y : Er) (n i : Nat) (prev : Bool) : Prop :=
  holdsP ds cop y.nodes ∧ (0 ≤ y.last ∧ y.last ≤ 60) ∧ (y.closed = false → y.last = 0) ∧ (y.closed = true → i + 1 ≠ n ∧ (0 < i → prev = true))
/-- Whether the era before is closed. -/
def prevC (ms : List Er) (i : Nat) : Bool := (ms.getD (i - 1) ⟨[], false, 0⟩).closed
/-- A place whose epoch is there. -/
def plIn (n : Nat) (x : Int) : Prop := isPl x ∧ x / 4294967296 ≤ (n : Int)
/-- A register that is right. -/
def regP (ds : List Int) (cop : Int) (m : Rg) : Prop := cfgP ds cop ∧ m.eras.length ≤ 30 ∧ (m.trim = 0 ∨ plIn m.eras.length m.trim) ∧ ∀ i (h : i < m.eras.length), erC ds cop m.eras[i] m.eras.length i (prevC m.eras i)
end Go.Proofs.YthndkkjgjhgdnaaDoor
