/- Eras and registers, as the exact laws handle them: held. -/
import Derived.Test.YtioocibgfhgkhaaSitT
namespace Go.Proofs.Ytioocibgfhgkhaa
open Go.ChangeShapes Go.WideShapes Go.ChangeAt Go.RowKit
set_option linter.unusedVariables false
set_option linter.unusedSimpArgs false
set_option maxRecDepth 100000

end Go.Proofs.Ytioocibgfhgkhaa
