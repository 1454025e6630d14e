/- impl's StoreOk. -/
import Derived.Test.YtjbfpmackocgnaaGreatGbI
import Derived.Test.YtjbfpmackocgnaaGreatGbF
namespace Go.Proofs.YtjbfpmackocgnaaGreat
open Go.ChangeShapes Go.WideShapes Go.ChangeAt Go.RowKit
set_option linter.unusedVariables false
set_option linter.unusedSimpArgs false
set_option maxRecDepth 100000

end Go.Proofs.YtjbfpmackocgnaaGreat
