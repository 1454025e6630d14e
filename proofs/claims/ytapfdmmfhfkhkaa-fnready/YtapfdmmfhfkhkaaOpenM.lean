/- Mends among a law's arguments. -/
import Derived.Test.YtapfdmmfhfkhkaaGaD
import Derived.Test.YtapfdmmfhfkhkaaGbO
import Derived.Test.YtapfdmmfhfkhkaaMnA
namespace Go.Proofs.Ytapfdmmfhfkhkaa
open Go.ChangeShapes Go.WideShapes Go.ChangeAt Go.RowKit
set_option linter.unusedVariables false
set_option maxRecDepth 100000
variable {H : Type} {enc : TypeId × Value → H} {W : World} {r : Reach} {b0 base : Nat} {held : Bool} {v : Value} {d : DataW H} {p : List MemPlace}

def okMend (m : Mn) : Prop := (-9223372036854775808 ≤ m.bye ∧ m.bye ≤ 9223372036854775807) ∧ (-9223372036854775808 ≤ m.epoch ∧ m.epoch ≤ 9223372036854775807) ∧ allInt m.sealed ∧ fitE m.seen ∧ ∀ l ∈ m.wrote, allInt l
end Go.Proofs.Ytapfdmmfhfkhkaa
