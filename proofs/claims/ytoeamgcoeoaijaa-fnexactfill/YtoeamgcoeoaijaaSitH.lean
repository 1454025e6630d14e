/- What a law's frame tells of a store, of an entry. -/
import Derived.Test.YtoeamgcoeoaijaaGbG
import Derived.Test.YtoeamgcoeoaijaaSitY
import Derived.Test.YtoeamgcoeoaijaaGbO
namespace Go.Proofs.Ytoeamgcoeoaijaa
open Go.ChangeShapes Go.WideShapes Go.ChangeAt Go.RowKit
set_option linter.unusedVariables false

def okStore (m : St) : Prop := fitS m
def IsStore (v : Value) (m : St) (w : World) : Prop := RdStore v m w ∧ okStore m
def okEntry (m : Ent) : Prop := m.fits
def IsEntry (v : Value) (m : Ent) (w : World) : Prop := v = m.val ∧ okEntry m
theorem txtE_of {es : List Ent} (h : fitE es) : txtE es := fun e he => (h e he).2.2.2.2
theorem txtS_of {m : St} (h : okStore m) : txtS m := ⟨txtE_of h.1, txtE_of h.2.1⟩
end Go.Proofs.Ytoeamgcoeoaijaa
