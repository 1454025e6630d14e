/- Drawn lists of nodes: l4Put, l1Max. -/
import Derived.Test.YthndkkjgjhgdnaaDoorGaC
import Derived.Test.YthndkkjgjhgdnaaDoorGaD
namespace Go.Proofs.YthndkkjgjhgdnaaDoor
open Go.ChangeShapes Go.WideShapes Go.ChangeAt Go.RowKit
set_option linter.unusedVariables false
set_option linter.unusedSimpArgs false

/-- What is put: a list of what was there and of y. -/
def PutL (xs zs : List Int) (y : Int) : Prop := ∀ z ∈ zs, z = y ∨ z ∈ xs
end Go.Proofs.YthndkkjgjhgdnaaDoor
