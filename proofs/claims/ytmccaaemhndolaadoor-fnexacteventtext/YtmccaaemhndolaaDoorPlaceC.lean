/- Contracts of impl's EpochOf and OffOf: they answer as the plain functions of this text say, at every argument, and write nothing that was there. -/
import Derived.Test.YtmccaaemhndolaaDoorPlaceB
namespace Go.Proofs.YtmccaaemhndolaaDoor
open Go.ChangeShapes Go.WideShapes Go.ChangeAt Go.RowKit
set_option linter.unusedVariables false

theorem field_epoch (a b : Int) (w : World) : (Instr.field 34 (.agg #[.int .i64 a, .int .i64 b]) 0).run Tryd.prog w = .ok (.int .i64 a) w := by kernel_rfl
theorem field_off (a b : Int) (w : World) : (Instr.field 34 (.agg #[.int .i64 a, .int .i64 b]) 1).run Tryd.prog w = .ok (.int .i64 b) w := by kernel_rfl
end Go.Proofs.YtmccaaemhndolaaDoor
