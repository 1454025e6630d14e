/- Drawn entries. -/
import Derived.Test.YthndkkjgjhgdnaaDoorDrawB
import Derived.Test.YthndkkjgjhgdnaaDoorDrawP
import Derived.Test.YthndkkjgjhgdnaaDoorAppB
import Derived.Test.YthndkkjgjhgdnaaDoorGaA
import Derived.Test.YthndkkjgjhgdnaaDoorGbE
namespace Go.Proofs.YthndkkjgjhgdnaaDoor
open Go.ChangeShapes Go.WideShapes Go.ChangeAt Go.RowKit
set_option linter.unusedVariables false

theorem Cur.setNew {bk : Nat} {W : World} (h : Cur W bk) {b : Nat} (hb : bk < b) (o : Nat) (u : Value) : Cur (W.setCell ⟨b, o, none⟩ u) bk :=
  h.grown (grown_set W b o u) (fun k e => by cases e; exact hb)
end Go.Proofs.YthndkkjgjhgdnaaDoor
