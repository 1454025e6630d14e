/-
  No cell of these rows narrows 'for every input' (looked for: loops, veiled, ifaces, maps, wideKeys, modest, calm, conditions, laid).
  DERIVED. THE GIVEN ROWS OF THIS SEAT. 5 by the template 'for every input the law returns true; each argument reads behind the call as it read before'; 0 by the template 'total and deterministic' (their statements: YtjbfpmackocgnaaGreatTotals.lean).
  GIVEN WITH THE SEED: the statements are not yours to turn. If you find one false, say at which input.
  Laid BY PROGRAM, IN A SANDBOX (cutbox-rows.mjs): the forced cells as the released guide's own fill.sh prints them over the translation 9c5578077d6518ab… (all of the seat's roots in one cut). By AI agents, Wed Nov 11 2026. No macro, syntax, notation, axiom, sorry.
-/
import Derived.Test.YtjbfpmackocgnaaGreatChecked
import GoSem.Claim
import GoSem.ClaimJoined
import GoSem.ClaimMapViews
import Derived.JoinedTies
import Derived.KernelRfl
namespace Go.Proofs.YtjbfpmackocgnaaGreat
/- THE CELL 'sum', in the pinned program and in every row, IS THE sha256 OF THE DUMP (.gsa) THAT YtjbfpmackocgnaaGreatProg.lean LOADS. Nothing in Lean hashes anything: it is a label: what it is worth is what the hold of that sum in a sandbox is worth. -/
noncomputable def Tryz.pinned : Pinned := { name := "ytjbfpmackocgnaagreat", sum := "9c5578077d6518ab58cca17d1dfd59e64750b31ce4e2c282dc72db83314c6796", checked := Tryz.checked }
namespace Rows
def none {H : Type} : Left H := { results := [], args := [] }

/-- 'laws.FnSealing': WHATEVER THE INPUT: true; the input reads as it did. -/
def fnSealingSpec : ChangeSpec := { name := "fnSealing", fn := fun _ => fun
  | [d] => { results := [.lit (.bool true)], args := [d] }
  | _ => none }
def fnSealingRow : OpenClaim := { program := "ytjbfpmackocgnaagreat", sum := "9c5578077d6518ab58cca17d1dfd59e64750b31ce4e2c282dc72db83314c6796", func := "loop.example/g00178/laws.FnSealing", spec := "fnSealing", inPlace := ["slices.overlaps[int]", "slices.overlaps[loop.example/g00178/impl.Entry]"], unfollowed := true, recurses := true, apart := false }
def FnSealingSaid : Prop := fnSealingRow.holds Tryz.pinned (OpenSpec.ofChange fnSealingSpec)

/-- ITS FALSE NEIGHBOUR: 'it returns false'. Refute it at one input. -/
def fnSealingWrong : ChangeSpec := { name := "fnSealing", fn := fun _ => fun
  | [d] => { results := [.lit (.bool false)], args := [d] }
  | _ => none }
def FnSealingWrongFalsely : Prop := fnSealingRow.holds Tryz.pinned (OpenSpec.ofChange fnSealingWrong)

/-- 'laws.FnPlanned': WHATEVER THE INPUT: true; the input reads as it did. -/
def fnPlannedSpec : ChangeSpec := { name := "fnPlanned", fn := fun _ => fun
  | [d] => { results := [.lit (.bool true)], args := [d] }
  | _ => none }
def fnPlannedRow : OpenClaim := { program := "ytjbfpmackocgnaagreat", sum := "9c5578077d6518ab58cca17d1dfd59e64750b31ce4e2c282dc72db83314c6796", func := "loop.example/g00178/laws.FnPlanned", spec := "fnPlanned", unfollowed := true, recurses := true, apart := false }
def FnPlannedSaid : Prop := fnPlannedRow.holds Tryz.pinned (OpenSpec.ofChange fnPlannedSpec)

/-- ITS FALSE NEIGHBOUR: 'it returns false'. Refute it at one input. -/
def fnPlannedWrong : ChangeSpec := { name := "fnPlanned", fn := fun _ => fun
  | [d] => { results := [.lit (.bool false)], args := [d] }
  | _ => none }
def FnPlannedWrongFalsely : Prop := fnPlannedRow.holds Tryz.pinned (OpenSpec.ofChange fnPlannedWrong)

/-- 'laws.FnMendAck': WHATEVER THE INPUT: true; the input reads as it did. -/
def fnMendAckSpec : ChangeSpec := { name := "fnMendAck", fn := fun _ => fun
  | [d] => { results := [.lit (.bool true)], args := [d] }
  | _ => none }
def fnMendAckRow : OpenClaim := { program := "ytjbfpmackocgnaagreat", sum := "9c5578077d6518ab58cca17d1dfd59e64750b31ce4e2c282dc72db83314c6796", func := "loop.example/g00178/laws.FnMendAck", spec := "fnMendAck", inPlace := ["slices.overlaps[int]"], unfollowed := true, recurses := true, apart := false }
def FnMendAckSaid : Prop := fnMendAckRow.holds Tryz.pinned (OpenSpec.ofChange fnMendAckSpec)

/-- ITS FALSE NEIGHBOUR: 'it returns false'. Refute it at one input. -/
def fnMendAckWrong : ChangeSpec := { name := "fnMendAck", fn := fun _ => fun
  | [d] => { results := [.lit (.bool false)], args := [d] }
  | _ => none }
def FnMendAckWrongFalsely : Prop := fnMendAckRow.holds Tryz.pinned (OpenSpec.ofChange fnMendAckWrong)

/-- 'laws.FnExactMendSeal': WHATEVER THE INPUT: true; the input reads as it did. -/
def fnExactMendSealSpec : ChangeSpec := { name := "fnExactMendSeal", fn := fun _ => fun
  | [d1, d2, d3, d4] => { results := [.lit (.bool true)], args := [d1, d2, d3, d4] }
  | _ => none }
def fnExactMendSealRow : OpenClaim := { program := "ytjbfpmackocgnaagreat", sum := "9c5578077d6518ab58cca17d1dfd59e64750b31ce4e2c282dc72db83314c6796", func := "loop.example/g00178/laws.FnExactMendSeal", spec := "fnExactMendSeal", inPlace := ["slices.overlaps[int]", "slices.overlaps[loop.example/g00178/impl.Entry]"], unfollowed := true, recurses := true, apart := false }
def FnExactMendSealSaid : Prop := fnExactMendSealRow.holds Tryz.pinned (OpenSpec.ofChange fnExactMendSealSpec)

/-- ITS FALSE NEIGHBOUR: 'it returns false'. Refute it at one input. -/
def fnExactMendSealWrong : ChangeSpec := { name := "fnExactMendSeal", fn := fun _ => fun
  | [d1, d2, d3, d4] => { results := [.lit (.bool false)], args := [d1, d2, d3, d4] }
  | _ => none }
def FnExactMendSealWrongFalsely : Prop := fnExactMendSealRow.holds Tryz.pinned (OpenSpec.ofChange fnExactMendSealWrong)

/-- 'laws.FnExactMendPlan': WHATEVER THE INPUT: true; the input reads as it did. -/
def fnExactMendPlanSpec : ChangeSpec := { name := "fnExactMendPlan", fn := fun _ => fun
  | [d1, d2, d3] => { results := [.lit (.bool true)], args := [d1, d2, d3] }
  | _ => none }
def fnExactMendPlanRow : OpenClaim := { program := "ytjbfpmackocgnaagreat", sum := "9c5578077d6518ab58cca17d1dfd59e64750b31ce4e2c282dc72db83314c6796", func := "loop.example/g00178/laws.FnExactMendPlan", spec := "fnExactMendPlan", unfollowed := true, recurses := true, apart := false }
def FnExactMendPlanSaid : Prop := fnExactMendPlanRow.holds Tryz.pinned (OpenSpec.ofChange fnExactMendPlanSpec)

/-- ITS FALSE NEIGHBOUR: 'it returns false'. Refute it at one input. -/
def fnExactMendPlanWrong : ChangeSpec := { name := "fnExactMendPlan", fn := fun _ => fun
  | [d1, d2, d3] => { results := [.lit (.bool false)], args := [d1, d2, d3] }
  | _ => none }
def FnExactMendPlanWrongFalsely : Prop := fnExactMendPlanRow.holds Tryz.pinned (OpenSpec.ofChange fnExactMendPlanWrong)

/- THE SECOND FORM. 'bulk': how many values and letters a reading holds, each counted each time it is reached (what is shared counts as often as it is met; a slice's spare places count too). A statement '..UptoSaid' is the law's where the arguments, and the package variables that the reading takes, are together of bulk at most 1048576: NARROWER than '..Said'. Prove '..Said' where nothing that the law and all that it calls make is longer than what came in: it says more and counts as full. Else prove '..UptoSaid'. A law counts once. -/
mutual
def uptoBulk {H : Type} : DataW H → Nat
  | .lit (.string bytes) => bytes.length + 1
  | .lit _ => 1
  | .nil => 1
  | .ptr d => uptoBulk d + 1
  | .slice elems spare => uptoBulkAll elems + uptoBulkAll spare + 1
  | .agg parts => uptoBulkAll parts + 1
  | .iface _ d => uptoBulk d + 1
  | .map entries => uptoBulkEntries entries + 1
  | .held _ => 1
def uptoBulkAll {H : Type} : List (DataW H) → Nat
  | [] => 0
  | d :: r => uptoBulk d + uptoBulkAll r
def uptoBulkEntries {H : Type} : List (Lit × DataW H) → Nat
  | [] => 0
  | x :: r => uptoBulkEntry x + uptoBulkEntries r
def uptoBulkEntry {H : Type} : Lit × DataW H → Nat
  | (.string bytes, d) => bytes.length + uptoBulk d + 1
  | (_, d) => uptoBulk d + 1
 end
def uptoSmall : (H : Type) → List (DataW H) → Bool := fun _ ds => decide (uptoBulkAll ds ≤ 1048576)
def OpenSpec.upto (s : _root_.Go.ChangeSpec) : _root_.Go.OpenSpec := { _root_.Go.OpenSpec.ofChange s with cond := some uptoSmall }

/-- 'laws.FnSealing', WHERE WHAT IT READS IS OF BULK AT MOST 1048576: true; the input reads as it did. -/
def fnSealingUptoRow : OpenClaim := { program := "ytjbfpmackocgnaagreat", sum := "9c5578077d6518ab58cca17d1dfd59e64750b31ce4e2c282dc72db83314c6796", func := "loop.example/g00178/laws.FnSealing", spec := "fnSealing", inPlace := ["slices.overlaps[int]", "slices.overlaps[loop.example/g00178/impl.Entry]"], unfollowed := true, recurses := true, apart := false, narrowed := true }
def FnSealingUptoSaid : Prop := fnSealingUptoRow.holds Tryz.pinned (OpenSpec.upto fnSealingSpec)

/-- 'laws.FnPlanned', WHERE WHAT IT READS IS OF BULK AT MOST 1048576: true; the input reads as it did. -/
def fnPlannedUptoRow : OpenClaim := { program := "ytjbfpmackocgnaagreat", sum := "9c5578077d6518ab58cca17d1dfd59e64750b31ce4e2c282dc72db83314c6796", func := "loop.example/g00178/laws.FnPlanned", spec := "fnPlanned", unfollowed := true, recurses := true, apart := false, narrowed := true }
def FnPlannedUptoSaid : Prop := fnPlannedUptoRow.holds Tryz.pinned (OpenSpec.upto fnPlannedSpec)

/-- 'laws.FnMendAck', WHERE WHAT IT READS IS OF BULK AT MOST 1048576: true; the input reads as it did. -/
def fnMendAckUptoRow : OpenClaim := { program := "ytjbfpmackocgnaagreat", sum := "9c5578077d6518ab58cca17d1dfd59e64750b31ce4e2c282dc72db83314c6796", func := "loop.example/g00178/laws.FnMendAck", spec := "fnMendAck", inPlace := ["slices.overlaps[int]"], unfollowed := true, recurses := true, apart := false, narrowed := true }
def FnMendAckUptoSaid : Prop := fnMendAckUptoRow.holds Tryz.pinned (OpenSpec.upto fnMendAckSpec)

/-- 'laws.FnExactMendSeal', WHERE WHAT IT READS IS OF BULK AT MOST 1048576: true; the input reads as it did. -/
def fnExactMendSealUptoRow : OpenClaim := { program := "ytjbfpmackocgnaagreat", sum := "9c5578077d6518ab58cca17d1dfd59e64750b31ce4e2c282dc72db83314c6796", func := "loop.example/g00178/laws.FnExactMendSeal", spec := "fnExactMendSeal", inPlace := ["slices.overlaps[int]", "slices.overlaps[loop.example/g00178/impl.Entry]"], unfollowed := true, recurses := true, apart := false, narrowed := true }
def FnExactMendSealUptoSaid : Prop := fnExactMendSealUptoRow.holds Tryz.pinned (OpenSpec.upto fnExactMendSealSpec)

/-- 'laws.FnExactMendPlan', WHERE WHAT IT READS IS OF BULK AT MOST 1048576: true; the input reads as it did. -/
def fnExactMendPlanUptoRow : OpenClaim := { program := "ytjbfpmackocgnaagreat", sum := "9c5578077d6518ab58cca17d1dfd59e64750b31ce4e2c282dc72db83314c6796", func := "loop.example/g00178/laws.FnExactMendPlan", spec := "fnExactMendPlan", unfollowed := true, recurses := true, apart := false, narrowed := true }
def FnExactMendPlanUptoSaid : Prop := fnExactMendPlanUptoRow.holds Tryz.pinned (OpenSpec.upto fnExactMendPlanSpec)

end Rows
end Go.Proofs.YtjbfpmackocgnaaGreat
