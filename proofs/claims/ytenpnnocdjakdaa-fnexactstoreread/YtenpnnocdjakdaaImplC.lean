/- impl's chapter 3: EntryOk, EntryPack, EntryRead, Better answer as the plain functions say, at every argument, and write nothing that was there. -/
import Derived.Test.YtenpnnocdjakdaaImpCe
import Derived.Test.YtenpnnocdjakdaaRdrD
import Derived.Test.YtenpnnocdjakdaaBuA
namespace Go.Proofs.Ytenpnnocdjakdaa
open Go.ChangeShapes Go.WideShapes Go.ChangeAt Go.RowKit
set_option linter.unusedVariables false

end Go.Proofs.Ytenpnnocdjakdaa
