/- Eras and registers, as the exact laws handle them: measured, compared. -/
import Derived.Test.YthndkkjgjhgdnaaDoorGk8
import Derived.Test.YthndkkjgjhgdnaaDoorGaA
import Derived.Deep.RegionHeld3
import Derived.Deep.DeepCutAuto
namespace Go.Proofs.YthndkkjgjhgdnaaDoor
open Go.ChangeShapes Go.WideShapes Go.ChangeAt Go.RowKit
set_option linter.unusedVariables false
set_option linter.unusedSimpArgs false
set_option maxRecDepth 100000

end Go.Proofs.YthndkkjgjhgdnaaDoor
