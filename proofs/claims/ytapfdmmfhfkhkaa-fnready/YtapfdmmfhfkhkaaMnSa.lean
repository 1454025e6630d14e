/- Mends, as the exact laws handle them: measured, compared. -/
import Derived.Test.YtapfdmmfhfkhkaaMnA
import Derived.Test.YtapfdmmfhfkhkaaGaA
import Derived.Deep.RegionHeld3
import Derived.Deep.DeepCutAuto
namespace Go.Proofs.Ytapfdmmfhfkhkaa
open Go.ChangeShapes Go.WideShapes Go.ChangeAt Go.RowKit
set_option linter.unusedVariables false
set_option linter.unusedSimpArgs false
set_option maxRecDepth 100000

end Go.Proofs.Ytapfdmmfhfkhkaa
