/- The laws' own helper 'at': some number from 0 to 255. -/
import Derived.Test.YtognmmmplmideaaBuA
namespace Go.Proofs.Ytognmmmplmideaa
open Go.ChangeShapes Go.WideShapes Go.ChangeAt Go.RowKit
set_option linter.unusedVariables false

end Go.Proofs.Ytognmmmplmideaa
