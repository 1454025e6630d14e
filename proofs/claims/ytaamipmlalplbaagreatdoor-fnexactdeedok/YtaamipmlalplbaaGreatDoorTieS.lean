/- The tie of the two errors to the program's text, its closed facts one by one (a great program: the given text's one theorem outgrows the kernel's memory). -/
import Derived.Test.YtaamipmlalplbaaGreatDoorRows
import Derived.LaidByTextLater
import Derived.SevenTiedAt
namespace Go.Proofs.YtaamipmlalplbaaGreatDoor
open Go
set_option maxHeartbeats 8000000
theorem noOwnUnsafeS : Tryz.pinned.checked.prog.headLifts.contains "ownunsafe" = false := by kernel_rfl
theorem tieS1 : Tryz.prog.worded (varsWordLater true) = true := by kernel_rfl
theorem tieS2 : Tryz.prog.worded (varsWordLater !true) = false := by kernel_rfl
theorem tieS3 : Tryz.prog.worded rootWordLater = true := by kernel_rfl
theorem tieS4 : ([("loop.example/g00178/impl.errRefused", (Rows.laid_loop_example_g00178_impl_errRefused : DataW Unit)), ("loop.example/g00178/impl.errNoRegister", Rows.laid_loop_example_g00178_impl_errNoRegister)]).map (fun x => Tryz.prog.kindOfLater x.1) = ([.sentinel, .sentinel] : List LaidKind).map some := by kernel_rfl
theorem tieS5 : (Tryz.prog.funcNamed "gosem.cut.vars").isSome = true := by kernel_rfl
theorem tieS6 : varsNamedLaterB Tryz.prog (varsId Tryz.prog) [("loop.example/g00178/impl.errRefused", (Rows.laid_loop_example_g00178_impl_errRefused : DataW Unit)), ("loop.example/g00178/impl.errNoRegister", Rows.laid_loop_example_g00178_impl_errNoRegister)] = true := by kernel_rfl
theorem tieS7 (os : Os) (tape : Tape) : varsDone Tryz.prog 400 (varsId Tryz.prog) os tape = true := by kernel_rfl
theorem tieS8 (os : Os) (tape : Tape) : (DataW.laidRun Tryz.prog (varsWorld Tryz.prog 400 (varsId Tryz.prog) os tape).memory 8 (([("loop.example/g00178/impl.errRefused", (Rows.laid_loop_example_g00178_impl_errRefused : DataW Unit)), ("loop.example/g00178/impl.errNoRegister", Rows.laid_loop_example_g00178_impl_errNoRegister)]).map (·.1))).map (·.1) = some [("loop.example/g00178/impl.errRefused", (Rows.laid_loop_example_g00178_impl_errRefused : DataW Unit)), ("loop.example/g00178/impl.errNoRegister", Rows.laid_loop_example_g00178_impl_errNoRegister)] := by kernel_rfl
theorem tieS9 (os : Os) (tape : Tape) : (DataW.laidRun Tryz.prog (varsWorld Tryz.prog 400 (varsId Tryz.prog) os tape).memory 8 (([("loop.example/g00178/impl.errRefused", (Rows.laid_loop_example_g00178_impl_errRefused : DataW Unit)), ("loop.example/g00178/impl.errNoRegister", Rows.laid_loop_example_g00178_impl_errNoRegister)]).map (·.1))).map (fun x => decide x.2.Nodup && laidRowsB Tryz.prog (varsWorld Tryz.prog 400 (varsId Tryz.prog) os tape).memory x.2) = some true := by kernel_rfl
theorem tieS : Tryz.prog.laidByTextLater [("loop.example/g00178/impl.errRefused", (Rows.laid_loop_example_g00178_impl_errRefused : DataW Unit)), ("loop.example/g00178/impl.errNoRegister", Rows.laid_loop_example_g00178_impl_errNoRegister)] [.sentinel, .sentinel] true :=
  Program.laidByTextLater_by_run 400 8 tieS1 tieS2 tieS3 tieS4 tieS5 tieS6 tieS7 tieS8 tieS9
end Go.Proofs.YtaamipmlalplbaaGreatDoor
