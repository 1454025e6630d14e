/- Several texts in one: EntO, OpenE. -/
import Derived.Test.YtapfdmmfhfkhkaaGaD
import Derived.Test.YtapfdmmfhfkhkaaGbE
import Derived.Test.YtapfdmmfhfkhkaaGbF
namespace Go.Proofs.Ytapfdmmfhfkhkaa
open Go.ChangeShapes Go.WideShapes Go.ChangeAt Go.RowKit
set_option maxRecDepth 100000
variable {H : Type} {enc : TypeId × Value → H} {W : World} {r : Reach} {b0 base : Nat} {sp : Nat → Bool} {held : Bool} {v : Value} {d : DataW H} {p : List MemPlace}

end Go.Proofs.Ytapfdmmfhfkhkaa
namespace Go.Proofs.Ytapfdmmfhfkhkaa
open Go.ChangeShapes Go.WideShapes Go.ChangeAt Go.RowKit
set_option linter.unusedVariables false
set_option maxRecDepth 100000
variable {H : Type} {enc : TypeId × Value → H} {W : World} {r : Reach} {b0 base : Nat} {sp : Nat → Bool} {held : Bool} {v : Value} {d : DataW H} {p : List MemPlace}

end Go.Proofs.Ytapfdmmfhfkhkaa
