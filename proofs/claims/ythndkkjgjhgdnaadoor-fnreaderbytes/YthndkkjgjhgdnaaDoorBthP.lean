/- Those of a list that are in another one, too: spec's l9Both. -/
import Derived.Test.YthndkkjgjhgdnaaDoorGaC
namespace Go.Proofs.YthndkkjgjhgdnaaDoor
open Go.ChangeShapes Go.WideShapes Go.ChangeAt Go.RowKit
set_option linter.unusedVariables false
set_option linter.unusedSimpArgs false
set_option maxRecDepth 100000

/-- Those of a list that are in another one, too. -/
def bothL (xs set : List Int) : List Int := lessL xs (lessL xs set)
theorem bothL_len (xs set : List Int) : (bothL xs set).length ≤ xs.length := lessL_len _ _
end Go.Proofs.YthndkkjgjhgdnaaDoor
