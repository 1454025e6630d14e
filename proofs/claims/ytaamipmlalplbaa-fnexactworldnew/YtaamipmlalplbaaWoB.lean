/- Worlds, measured as the exact laws do (printed by tools/mkwo.py). -/
import Derived.Test.YtaamipmlalplbaaWoA
import Derived.Deep.DeepCutAuto
namespace Go.Proofs.Ytaamipmlalplbaa
open Go.ChangeShapes Go.WideShapes Go.ChangeAt Go.RowKit
set_option linter.unusedVariables false
set_option linter.unusedSimpArgs false
set_option maxRecDepth 100000

end Go.Proofs.Ytaamipmlalplbaa
