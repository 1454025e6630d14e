/- What a row that lists three of the library's tables and the package's two errors hands to its walk: the table of powers of ten and the errors. -/
import Derived.Test.YtmgomacmaidmlaaGreatDoorDoorS
import Derived.Test.YtmgomacmaidmlaaGreatDoorNumT
import Derived.Stop.LaidErr
namespace Go.Proofs.YtmgomacmaidmlaaGreatDoor
open Go.ChangeShapes Go.WideShapes Go.ChangeAt Go.RowKit

theorem tabV_of {x0 x1 : String × DataW Unit} {r : List (String × DataW Unit)} {w : World} (hL : laidMetH Tryz.prog (x0 :: x1 :: ("internal/strconv.uint64pow10", Rows.laid_internal_strconv_uint64pow10) :: r) w)
    (hp : ((x0 :: x1 :: ("internal/strconv.uint64pow10", Rows.laid_internal_strconv_uint64pow10) :: r).all fun x => x.2.handleName?.isNone) = true) : Lib.TabIs Tryz.prog w "internal/strconv.uint64pow10" .u64 Lib.pow10Tab := by
  rw [MakeChecks.laidMetH_plain _ _ _ hp] at hL
  exact Lib.tabIs_of_head (g := 3) (t := 281) (e := 217) (n := 20) (by kernel_rfl) (by kernel_rfl) Tryz.underlying281 Tryz.underlying217 (by kernel_rfl) (by kernel_rfl) (show laidMet Tryz.prog (("internal/strconv.uint64pow10", Lib.tabData .u64 Lib.pow10Tab) :: r) w from hL.tail.tail)
theorem errsV_of {x0 x1 x2 : String × DataW Unit} {w : World} (hL : laidMetH Tryz.prog [x0, x1, x2, ("loop.example/g00178/impl.errNoRegister", Rows.laid_loop_example_g00178_impl_errNoRegister), ("loop.example/g00178/impl.errRefused", Rows.laid_loop_example_g00178_impl_errRefused)] w)
    (hp : ([x0, x1, x2, ("loop.example/g00178/impl.errNoRegister", Rows.laid_loop_example_g00178_impl_errNoRegister), ("loop.example/g00178/impl.errRefused", Rows.laid_loop_example_g00178_impl_errRefused)].all fun x => x.2.handleName?.isNone) = true) : ∃ a0 a1, ErrsS w a0 a1 := by
  rw [MakeChecks.laidMetH_plain _ _ _ hp] at hL
  obtain ⟨a0, a1, s0, s1, c0, c1, t0, t1, h0, h1, -⟩ := laid_sentinels2 hL.tail.tail.tail gNR tNR gRF tRF Tryz.underlying56 rowES Tryz.underlying361 Tryz.underlying386 rfl rfl Tryz.underlying9 cES cStr7
  exact ⟨a0, a1, h0, h1⟩
end Go.Proofs.YtmgomacmaidmlaaGreatDoor
