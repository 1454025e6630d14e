/- Readers: spec's l10Copy, l10Nodes, l10Tell, ReaderOk, l10Best. -/
import Derived.Test.YthndkkjgjhgdnaaDoorGk2
import Derived.Test.YthndkkjgjhgdnaaDoorGk14
import Derived.Test.YthndkkjgjhgdnaaDoorGk16
import Derived.Test.YthndkkjgjhgdnaaDoorGk12
import Derived.Test.YthndkkjgjhgdnaaDoorGbF
import Derived.Deep.RegionHeld3
import Derived.Deep.DeepCutAuto
namespace Go.Proofs.YthndkkjgjhgdnaaDoor
open Go.ChangeShapes Go.WideShapes Go.ChangeAt Go.RowKit
set_option linter.unusedVariables false
set_option linter.unusedSimpArgs false
set_option maxRecDepth 100000

/-- What a step of a reader leaves. -/
def AnsV (w : World) (m : Rr) (e : Ending) (w' : World) : Prop := ∃ (a : Option Addr) (c : Nat), e = .returned (.agg #[.int .i64 m.epoch, .int .i64 m.off, .slice a m.out.length c]) ∧ ApV w' w.heap.size (.slice a m.out.length c) m.out ∧ Below w.heap.size w w'
end Go.Proofs.YthndkkjgjhgdnaaDoor
