/-
  NARROWER THAN 'FOR EVERY INPUT', by the rows' own cells (each row's printed sentence says how): FnRun: ifaces, laid · FnExactDeedOk: ifaces, laid · FnExactWorldDo: ifaces, laid · FnExactWorldRun: ifaces, laid.
  DERIVED. THE GIVEN ROWS OF THIS SEAT. 4 by the template 'for every input the law returns true; each argument reads behind the call as it read before'; 0 by the template 'total and deterministic' (their statements: YtaamipmlalplbaaGreatDoorTotals.lean).
  GIVEN WITH THE SEED: the statements are not yours to turn. If you find one false, say at which input.
  Laid BY PROGRAM, IN A SANDBOX (cutbox-rows.mjs): the forced cells as the released guide's own fill.sh prints them over the translation e0691d079dc5e7bf… (all of the seat's roots in one cut). By AI agents, Wed Nov 11 2026. No macro, syntax, notation, axiom, sorry.
-/
import Derived.Test.YtaamipmlalplbaaGreatDoorChecked
import GoSem.Claim
import GoSem.ClaimJoined
import GoSem.ClaimMapViews
import Derived.JoinedTies
import Derived.KernelRfl
namespace Go.Proofs.YtaamipmlalplbaaGreatDoor
/- THE CELL 'sum', in the pinned program and in every row, IS THE sha256 OF THE DUMP (.gsa) THAT YtaamipmlalplbaaGreatDoorProg.lean LOADS. Nothing in Lean hashes anything: it is a label: what it is worth is what the hold of that sum in a sandbox is worth. -/
noncomputable def Tryz.pinned : Pinned := { name := "ytaamipmlalplbaagreatdoor", sum := "e0691d079dc5e7bfacbaf6821ee2f77be45a494b144ebfc4267a7b24c44084fd", checked := Tryz.checked }
namespace Rows
def none {H : Type} : Left H := { results := [], args := [] }

/- WHAT THE LISTED PACKAGE-LEVEL VARIABLES READ AS WHEN THE CALL BEGINS. Each datum BY PROGRAM (the guide's laid-datum.mjs) off the statement by which the dump's own 'gosem.cut.vars' lays the variable. In a bare row this is a premise. The card (YtaamipmlalplbaaGreatDoorCards.lean) ties it to the program's text. -/
def laid_loop_example_g00178_impl_errRefused {H : Type} : DataW H := .iface "*errors.errorString" (.ptr (.agg [.lit (.string [114, 101, 102, 117, 115, 101, 100, 32, 98, 121, 32, 116, 104, 101, 32, 114, 101, 103, 105, 115, 116, 101, 114])]))
def laid_loop_example_g00178_impl_errNoRegister {H : Type} : DataW H := .iface "*errors.errorString" (.ptr (.agg [.lit (.string [110, 111, 116, 32, 97, 32, 114, 101, 103, 105, 115, 116, 101, 114])]))

/-- 'laws.FnRun': WHATEVER THE INPUT: true; the input reads as it did. -/
def fnRunSpec : ChangeSpec := { name := "fnRun", vars := ["loop.example/g00178/impl.errRefused", "loop.example/g00178/impl.errNoRegister"], fn := fun _ => fun
  | [d, g1, g2] => { results := [.lit (.bool true)], args := [d], vars := [g1, g2] }
  | _ => none }
def fnRunRow : OpenClaim := { program := "ytaamipmlalplbaagreatdoor", sum := "e0691d079dc5e7bfacbaf6821ee2f77be45a494b144ebfc4267a7b24c44084fd", func := "loop.example/g00178/laws.FnRun", spec := "fnRun", inPlace := ["sync/atomic.StorePointer", "sync/atomic.LoadPointer", "sync/atomic.CompareAndSwapPointer", "internal/reflectlite.TypeOf", "slices.overlaps[loop.example/g00178/impl.Sent]", "slices.overlaps[loop.example/g00178/impl.Entry]", "slices.overlaps[int]"], unfollowed := true, recurses := true, named := ["loop.example/g00178/impl.errRefused", "loop.example/g00178/impl.errNoRegister"], ifaces := true, apart := false, laid := [("loop.example/g00178/impl.errRefused", laid_loop_example_g00178_impl_errRefused), ("loop.example/g00178/impl.errNoRegister", laid_loop_example_g00178_impl_errNoRegister)] }
def FnRunSaid : Prop := fnRunRow.holds Tryz.pinned (OpenSpec.ofChange fnRunSpec)

/-- ITS FALSE NEIGHBOUR: 'it returns false'. Refute it at one input. -/
def fnRunWrong : ChangeSpec := { name := "fnRun", vars := ["loop.example/g00178/impl.errRefused", "loop.example/g00178/impl.errNoRegister"], fn := fun _ => fun
  | [d, g1, g2] => { results := [.lit (.bool false)], args := [d], vars := [g1, g2] }
  | _ => none }
def FnRunWrongFalsely : Prop := fnRunRow.holds Tryz.pinned (OpenSpec.ofChange fnRunWrong)

/-- 'laws.FnExactDeedOk': WHATEVER THE INPUT: true; the input reads as it did. -/
def fnExactDeedOkSpec : ChangeSpec := { name := "fnExactDeedOk", vars := ["loop.example/g00178/impl.errRefused", "loop.example/g00178/impl.errNoRegister"], fn := fun _ => fun
  | [d, g1, g2] => { results := [.lit (.bool true)], args := [d], vars := [g1, g2] }
  | _ => none }
def fnExactDeedOkRow : OpenClaim := { program := "ytaamipmlalplbaagreatdoor", sum := "e0691d079dc5e7bfacbaf6821ee2f77be45a494b144ebfc4267a7b24c44084fd", func := "loop.example/g00178/laws.FnExactDeedOk", spec := "fnExactDeedOk", inPlace := ["sync/atomic.StorePointer", "sync/atomic.LoadPointer", "sync/atomic.CompareAndSwapPointer", "internal/reflectlite.TypeOf", "slices.overlaps[loop.example/g00178/impl.Sent]", "slices.overlaps[loop.example/g00178/impl.Entry]", "slices.overlaps[int]"], unfollowed := true, recurses := true, named := ["loop.example/g00178/impl.errRefused", "loop.example/g00178/impl.errNoRegister"], ifaces := true, apart := false, laid := [("loop.example/g00178/impl.errRefused", laid_loop_example_g00178_impl_errRefused), ("loop.example/g00178/impl.errNoRegister", laid_loop_example_g00178_impl_errNoRegister)] }
def FnExactDeedOkSaid : Prop := fnExactDeedOkRow.holds Tryz.pinned (OpenSpec.ofChange fnExactDeedOkSpec)

/-- ITS FALSE NEIGHBOUR: 'it returns false'. Refute it at one input. -/
def fnExactDeedOkWrong : ChangeSpec := { name := "fnExactDeedOk", vars := ["loop.example/g00178/impl.errRefused", "loop.example/g00178/impl.errNoRegister"], fn := fun _ => fun
  | [d, g1, g2] => { results := [.lit (.bool false)], args := [d], vars := [g1, g2] }
  | _ => none }
def FnExactDeedOkWrongFalsely : Prop := fnExactDeedOkRow.holds Tryz.pinned (OpenSpec.ofChange fnExactDeedOkWrong)

/-- 'laws.FnExactWorldDo': WHATEVER THE INPUT: true; the input reads as it did. -/
def fnExactWorldDoSpec : ChangeSpec := { name := "fnExactWorldDo", vars := ["loop.example/g00178/impl.errRefused", "loop.example/g00178/impl.errNoRegister"], fn := fun _ => fun
  | [d1, d2, g1, g2] => { results := [.lit (.bool true)], args := [d1, d2], vars := [g1, g2] }
  | _ => none }
def fnExactWorldDoRow : OpenClaim := { program := "ytaamipmlalplbaagreatdoor", sum := "e0691d079dc5e7bfacbaf6821ee2f77be45a494b144ebfc4267a7b24c44084fd", func := "loop.example/g00178/laws.FnExactWorldDo", spec := "fnExactWorldDo", inPlace := ["sync/atomic.StorePointer", "sync/atomic.LoadPointer", "sync/atomic.CompareAndSwapPointer", "internal/reflectlite.TypeOf", "slices.overlaps[loop.example/g00178/impl.Sent]", "slices.overlaps[loop.example/g00178/impl.Entry]", "slices.overlaps[int]"], unfollowed := true, recurses := true, named := ["loop.example/g00178/impl.errRefused", "loop.example/g00178/impl.errNoRegister"], ifaces := true, apart := false, laid := [("loop.example/g00178/impl.errRefused", laid_loop_example_g00178_impl_errRefused), ("loop.example/g00178/impl.errNoRegister", laid_loop_example_g00178_impl_errNoRegister)] }
def FnExactWorldDoSaid : Prop := fnExactWorldDoRow.holds Tryz.pinned (OpenSpec.ofChange fnExactWorldDoSpec)

/-- ITS FALSE NEIGHBOUR: 'it returns false'. Refute it at one input. -/
def fnExactWorldDoWrong : ChangeSpec := { name := "fnExactWorldDo", vars := ["loop.example/g00178/impl.errRefused", "loop.example/g00178/impl.errNoRegister"], fn := fun _ => fun
  | [d1, d2, g1, g2] => { results := [.lit (.bool false)], args := [d1, d2], vars := [g1, g2] }
  | _ => none }
def FnExactWorldDoWrongFalsely : Prop := fnExactWorldDoRow.holds Tryz.pinned (OpenSpec.ofChange fnExactWorldDoWrong)

/-- 'laws.FnExactWorldRun': WHATEVER THE INPUT: true; the input reads as it did. -/
def fnExactWorldRunSpec : ChangeSpec := { name := "fnExactWorldRun", vars := ["loop.example/g00178/impl.errRefused", "loop.example/g00178/impl.errNoRegister"], fn := fun _ => fun
  | [d1, d2, g1, g2] => { results := [.lit (.bool true)], args := [d1, d2], vars := [g1, g2] }
  | _ => none }
def fnExactWorldRunRow : OpenClaim := { program := "ytaamipmlalplbaagreatdoor", sum := "e0691d079dc5e7bfacbaf6821ee2f77be45a494b144ebfc4267a7b24c44084fd", func := "loop.example/g00178/laws.FnExactWorldRun", spec := "fnExactWorldRun", inPlace := ["sync/atomic.StorePointer", "sync/atomic.LoadPointer", "sync/atomic.CompareAndSwapPointer", "internal/reflectlite.TypeOf", "slices.overlaps[loop.example/g00178/impl.Sent]", "slices.overlaps[loop.example/g00178/impl.Entry]", "slices.overlaps[int]"], unfollowed := true, recurses := true, named := ["loop.example/g00178/impl.errRefused", "loop.example/g00178/impl.errNoRegister"], ifaces := true, apart := false, laid := [("loop.example/g00178/impl.errRefused", laid_loop_example_g00178_impl_errRefused), ("loop.example/g00178/impl.errNoRegister", laid_loop_example_g00178_impl_errNoRegister)] }
def FnExactWorldRunSaid : Prop := fnExactWorldRunRow.holds Tryz.pinned (OpenSpec.ofChange fnExactWorldRunSpec)

/-- ITS FALSE NEIGHBOUR: 'it returns false'. Refute it at one input. -/
def fnExactWorldRunWrong : ChangeSpec := { name := "fnExactWorldRun", vars := ["loop.example/g00178/impl.errRefused", "loop.example/g00178/impl.errNoRegister"], fn := fun _ => fun
  | [d1, d2, g1, g2] => { results := [.lit (.bool false)], args := [d1, d2], vars := [g1, g2] }
  | _ => none }
def FnExactWorldRunWrongFalsely : Prop := fnExactWorldRunRow.holds Tryz.pinned (OpenSpec.ofChange fnExactWorldRunWrong)

/- THE SECOND FORM. 'bulk': how many values and letters a reading holds, each counted each time it is reached (what is shared counts as often as it is met; a slice's spare places count too). A statement '..UptoSaid' is the law's where the arguments, and the package variables that the reading takes, are together of bulk at most 1048576: NARROWER than '..Said'. Prove '..Said' where nothing that the law and all that it calls make is longer than what came in: it says more and counts as full. Else prove '..UptoSaid'. A law counts once. -/
mutual
def uptoBulk {H : Type} : DataW H → Nat
  | .lit (.string bytes) => bytes.length + 1
  | .lit _ => 1
  | .nil => 1
  | .ptr d => uptoBulk d + 1
  | .slice elems spare => uptoBulkAll elems + uptoBulkAll spare + 1
  | .agg parts => uptoBulkAll parts + 1
  | .iface _ d => uptoBulk d + 1
  | .map entries => uptoBulkEntries entries + 1
  | .held _ => 1
def uptoBulkAll {H : Type} : List (DataW H) → Nat
  | [] => 0
  | d :: r => uptoBulk d + uptoBulkAll r
def uptoBulkEntries {H : Type} : List (Lit × DataW H) → Nat
  | [] => 0
  | x :: r => uptoBulkEntry x + uptoBulkEntries r
def uptoBulkEntry {H : Type} : Lit × DataW H → Nat
  | (.string bytes, d) => bytes.length + uptoBulk d + 1
  | (_, d) => uptoBulk d + 1
 end
def uptoSmall : (H : Type) → List (DataW H) → Bool := fun _ ds => decide (uptoBulkAll ds ≤ 1048576)
def OpenSpec.upto (s : _root_.Go.ChangeSpec) : _root_.Go.OpenSpec := { _root_.Go.OpenSpec.ofChange s with cond := some uptoSmall }

/-- 'laws.FnRun', WHERE WHAT IT READS IS OF BULK AT MOST 1048576: true; the input reads as it did. -/
def fnRunUptoRow : OpenClaim := { program := "ytaamipmlalplbaagreatdoor", sum := "e0691d079dc5e7bfacbaf6821ee2f77be45a494b144ebfc4267a7b24c44084fd", func := "loop.example/g00178/laws.FnRun", spec := "fnRun", inPlace := ["sync/atomic.StorePointer", "sync/atomic.LoadPointer", "sync/atomic.CompareAndSwapPointer", "internal/reflectlite.TypeOf", "slices.overlaps[loop.example/g00178/impl.Sent]", "slices.overlaps[loop.example/g00178/impl.Entry]", "slices.overlaps[int]"], unfollowed := true, recurses := true, named := ["loop.example/g00178/impl.errRefused", "loop.example/g00178/impl.errNoRegister"], ifaces := true, apart := false, laid := [("loop.example/g00178/impl.errRefused", laid_loop_example_g00178_impl_errRefused), ("loop.example/g00178/impl.errNoRegister", laid_loop_example_g00178_impl_errNoRegister)], narrowed := true }
def FnRunUptoSaid : Prop := fnRunUptoRow.holds Tryz.pinned (OpenSpec.upto fnRunSpec)

/-- 'laws.FnExactDeedOk', WHERE WHAT IT READS IS OF BULK AT MOST 1048576: true; the input reads as it did. -/
def fnExactDeedOkUptoRow : OpenClaim := { program := "ytaamipmlalplbaagreatdoor", sum := "e0691d079dc5e7bfacbaf6821ee2f77be45a494b144ebfc4267a7b24c44084fd", func := "loop.example/g00178/laws.FnExactDeedOk", spec := "fnExactDeedOk", inPlace := ["sync/atomic.StorePointer", "sync/atomic.LoadPointer", "sync/atomic.CompareAndSwapPointer", "internal/reflectlite.TypeOf", "slices.overlaps[loop.example/g00178/impl.Sent]", "slices.overlaps[loop.example/g00178/impl.Entry]", "slices.overlaps[int]"], unfollowed := true, recurses := true, named := ["loop.example/g00178/impl.errRefused", "loop.example/g00178/impl.errNoRegister"], ifaces := true, apart := false, laid := [("loop.example/g00178/impl.errRefused", laid_loop_example_g00178_impl_errRefused), ("loop.example/g00178/impl.errNoRegister", laid_loop_example_g00178_impl_errNoRegister)], narrowed := true }
def FnExactDeedOkUptoSaid : Prop := fnExactDeedOkUptoRow.holds Tryz.pinned (OpenSpec.upto fnExactDeedOkSpec)

/-- 'laws.FnExactWorldDo', WHERE WHAT IT READS IS OF BULK AT MOST 1048576: true; the input reads as it did. -/
def fnExactWorldDoUptoRow : OpenClaim := { program := "ytaamipmlalplbaagreatdoor", sum := "e0691d079dc5e7bfacbaf6821ee2f77be45a494b144ebfc4267a7b24c44084fd", func := "loop.example/g00178/laws.FnExactWorldDo", spec := "fnExactWorldDo", inPlace := ["sync/atomic.StorePointer", "sync/atomic.LoadPointer", "sync/atomic.CompareAndSwapPointer", "internal/reflectlite.TypeOf", "slices.overlaps[loop.example/g00178/impl.Sent]", "slices.overlaps[loop.example/g00178/impl.Entry]", "slices.overlaps[int]"], unfollowed := true, recurses := true, named := ["loop.example/g00178/impl.errRefused", "loop.example/g00178/impl.errNoRegister"], ifaces := true, apart := false, laid := [("loop.example/g00178/impl.errRefused", laid_loop_example_g00178_impl_errRefused), ("loop.example/g00178/impl.errNoRegister", laid_loop_example_g00178_impl_errNoRegister)], narrowed := true }
def FnExactWorldDoUptoSaid : Prop := fnExactWorldDoUptoRow.holds Tryz.pinned (OpenSpec.upto fnExactWorldDoSpec)

/-- 'laws.FnExactWorldRun', WHERE WHAT IT READS IS OF BULK AT MOST 1048576: true; the input reads as it did. -/
def fnExactWorldRunUptoRow : OpenClaim := { program := "ytaamipmlalplbaagreatdoor", sum := "e0691d079dc5e7bfacbaf6821ee2f77be45a494b144ebfc4267a7b24c44084fd", func := "loop.example/g00178/laws.FnExactWorldRun", spec := "fnExactWorldRun", inPlace := ["sync/atomic.StorePointer", "sync/atomic.LoadPointer", "sync/atomic.CompareAndSwapPointer", "internal/reflectlite.TypeOf", "slices.overlaps[loop.example/g00178/impl.Sent]", "slices.overlaps[loop.example/g00178/impl.Entry]", "slices.overlaps[int]"], unfollowed := true, recurses := true, named := ["loop.example/g00178/impl.errRefused", "loop.example/g00178/impl.errNoRegister"], ifaces := true, apart := false, laid := [("loop.example/g00178/impl.errRefused", laid_loop_example_g00178_impl_errRefused), ("loop.example/g00178/impl.errNoRegister", laid_loop_example_g00178_impl_errNoRegister)], narrowed := true }
def FnExactWorldRunUptoSaid : Prop := fnExactWorldRunUptoRow.holds Tryz.pinned (OpenSpec.upto fnExactWorldRunSpec)

end Rows
end Go.Proofs.YtaamipmlalplbaaGreatDoor
