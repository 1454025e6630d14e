/- Records as bytes: spec's ConfigPack. -/
import Derived.Test.YtioocibgfhgkhaaDoorPkA
import Derived.Test.YtioocibgfhgkhaaDoorGaC
import Derived.Test.YtioocibgfhgkhaaDoorGaA
import Derived.Deep.RegionHeld3
import Derived.Deep.DeepCutAuto
namespace Go.Proofs.YtioocibgfhgkhaaDoor
open Go.ChangeShapes Go.WideShapes Go.ChangeAt Go.RowKit
set_option linter.unusedVariables false
set_option linter.unusedSimpArgs false
set_option maxRecDepth 100000

/-- The bytes of a config. -/
def cfgB (ds : List Int) (cop : Int) : List UInt8 := lstB ds ++ numB cop.toNat
open Classical in
/-- ConfigPack. -/
noncomputable def cfgM (ds : List Int) (cop : Int) : List UInt8 × Bool := if cfgP ds cop then (cfgB ds cop, true) else ([], false)
theorem cfgM_yes {ds : List Int} {cop : Int} (h : cfgP ds cop) : cfgM ds cop = (cfgB ds cop, true) := if_pos h
theorem cfgM_no {ds : List Int} {cop : Int} (h : ¬ cfgP ds cop) : cfgM ds cop = ([], false) := if_neg h
end Go.Proofs.YtioocibgfhgkhaaDoor
