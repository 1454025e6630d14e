/-
  No cell of these rows narrows 'for every input' (looked for: loops, veiled, ifaces, maps, wideKeys, modest, calm, conditions, laid).
  DERIVED. THE GIVEN ROWS OF THIS SEAT. 6 by the template 'for every input the law returns true; each argument reads behind the call as it read before'; 0 by the template 'total and deterministic' (their statements: YtcjchbapeoeaeaaTotals.lean).
  GIVEN WITH THE SEED: the statements are not yours to turn. If you find one false, say at which input.
  Laid BY PROGRAM, IN A SANDBOX (cutbox-rows.mjs): the forced cells as the released guide's own fill.sh prints them over the translation 02d4a2e4f169fe9d… (all of the seat's roots in one cut). By AI agents, Wed Nov 11 2026. No macro, syntax, notation, axiom, sorry.
-/
import Derived.Test.YtcjchbapeoeaeaaChecked
import GoSem.Claim
import GoSem.ClaimJoined
import GoSem.ClaimMapViews
import Derived.JoinedTies
import Derived.KernelRfl
namespace Go.Proofs.Ytcjchbapeoeaeaa
/- THE CELL 'sum', in the pinned program and in every row, IS THE sha256 OF THE DUMP (.gsa) THAT YtcjchbapeoeaeaaProg.lean LOADS. Nothing in Lean hashes anything: it is a label: what it is worth is what the hold of that sum in a sandbox is worth. -/
noncomputable def Try.pinned : Pinned := { name := "ytcjchbapeoeaeaa", sum := "02d4a2e4f169fe9df8764ffeca64f1dd55698a05b7824e1e752eb90c93b2961d", checked := Try.checked }
namespace Rows
def none {H : Type} : Left H := { results := [], args := [] }

/-- 'laws.FnEntries': WHATEVER THE INPUT: true; the input reads as it did. -/
def fnEntriesSpec : ChangeSpec := { name := "fnEntries", fn := fun _ => fun
  | [d] => { results := [.lit (.bool true)], args := [d] }
  | _ => none }
def fnEntriesRow : OpenClaim := { program := "ytcjchbapeoeaeaa", sum := "02d4a2e4f169fe9df8764ffeca64f1dd55698a05b7824e1e752eb90c93b2961d", func := "loop.example/g00178/laws.FnEntries", spec := "fnEntries", apart := false }
def FnEntriesSaid : Prop := fnEntriesRow.holds Try.pinned (OpenSpec.ofChange fnEntriesSpec)

/-- ITS FALSE NEIGHBOUR: 'it returns false'. Refute it at one input. -/
def fnEntriesWrong : ChangeSpec := { name := "fnEntries", fn := fun _ => fun
  | [d] => { results := [.lit (.bool false)], args := [d] }
  | _ => none }
def FnEntriesWrongFalsely : Prop := fnEntriesRow.holds Try.pinned (OpenSpec.ofChange fnEntriesWrong)

/-- 'laws.FnBetter': WHATEVER THE INPUT: true; the input reads as it did. -/
def fnBetterSpec : ChangeSpec := { name := "fnBetter", fn := fun _ => fun
  | [d] => { results := [.lit (.bool true)], args := [d] }
  | _ => none }
def fnBetterRow : OpenClaim := { program := "ytcjchbapeoeaeaa", sum := "02d4a2e4f169fe9df8764ffeca64f1dd55698a05b7824e1e752eb90c93b2961d", func := "loop.example/g00178/laws.FnBetter", spec := "fnBetter", apart := false }
def FnBetterSaid : Prop := fnBetterRow.holds Try.pinned (OpenSpec.ofChange fnBetterSpec)

/-- ITS FALSE NEIGHBOUR: 'it returns false'. Refute it at one input. -/
def fnBetterWrong : ChangeSpec := { name := "fnBetter", fn := fun _ => fun
  | [d] => { results := [.lit (.bool false)], args := [d] }
  | _ => none }
def FnBetterWrongFalsely : Prop := fnBetterRow.holds Try.pinned (OpenSpec.ofChange fnBetterWrong)

/-- 'laws.FnExactEntryOk': WHATEVER THE INPUT: true; the input reads as it did. -/
def fnExactEntryOkSpec : ChangeSpec := { name := "fnExactEntryOk", fn := fun _ => fun
  | [d] => { results := [.lit (.bool true)], args := [d] }
  | _ => none }
def fnExactEntryOkRow : OpenClaim := { program := "ytcjchbapeoeaeaa", sum := "02d4a2e4f169fe9df8764ffeca64f1dd55698a05b7824e1e752eb90c93b2961d", func := "loop.example/g00178/laws.FnExactEntryOk", spec := "fnExactEntryOk", apart := false }
def FnExactEntryOkSaid : Prop := fnExactEntryOkRow.holds Try.pinned (OpenSpec.ofChange fnExactEntryOkSpec)

/-- ITS FALSE NEIGHBOUR: 'it returns false'. Refute it at one input. -/
def fnExactEntryOkWrong : ChangeSpec := { name := "fnExactEntryOk", fn := fun _ => fun
  | [d] => { results := [.lit (.bool false)], args := [d] }
  | _ => none }
def FnExactEntryOkWrongFalsely : Prop := fnExactEntryOkRow.holds Try.pinned (OpenSpec.ofChange fnExactEntryOkWrong)

/-- 'laws.FnExactEntryPack': WHATEVER THE INPUT: true; the input reads as it did. -/
def fnExactEntryPackSpec : ChangeSpec := { name := "fnExactEntryPack", fn := fun _ => fun
  | [d] => { results := [.lit (.bool true)], args := [d] }
  | _ => none }
def fnExactEntryPackRow : OpenClaim := { program := "ytcjchbapeoeaeaa", sum := "02d4a2e4f169fe9df8764ffeca64f1dd55698a05b7824e1e752eb90c93b2961d", func := "loop.example/g00178/laws.FnExactEntryPack", spec := "fnExactEntryPack", apart := false }
def FnExactEntryPackSaid : Prop := fnExactEntryPackRow.holds Try.pinned (OpenSpec.ofChange fnExactEntryPackSpec)

/-- ITS FALSE NEIGHBOUR: 'it returns false'. Refute it at one input. -/
def fnExactEntryPackWrong : ChangeSpec := { name := "fnExactEntryPack", fn := fun _ => fun
  | [d] => { results := [.lit (.bool false)], args := [d] }
  | _ => none }
def FnExactEntryPackWrongFalsely : Prop := fnExactEntryPackRow.holds Try.pinned (OpenSpec.ofChange fnExactEntryPackWrong)

/-- 'laws.FnExactEntryRead': WHATEVER THE INPUT: true; the input reads as it did. -/
def fnExactEntryReadSpec : ChangeSpec := { name := "fnExactEntryRead", fn := fun _ => fun
  | [d1, d2] => { results := [.lit (.bool true)], args := [d1, d2] }
  | _ => none }
def fnExactEntryReadRow : OpenClaim := { program := "ytcjchbapeoeaeaa", sum := "02d4a2e4f169fe9df8764ffeca64f1dd55698a05b7824e1e752eb90c93b2961d", func := "loop.example/g00178/laws.FnExactEntryRead", spec := "fnExactEntryRead", apart := false }
def FnExactEntryReadSaid : Prop := fnExactEntryReadRow.holds Try.pinned (OpenSpec.ofChange fnExactEntryReadSpec)

/-- ITS FALSE NEIGHBOUR: 'it returns false'. Refute it at one input. -/
def fnExactEntryReadWrong : ChangeSpec := { name := "fnExactEntryRead", fn := fun _ => fun
  | [d1, d2] => { results := [.lit (.bool false)], args := [d1, d2] }
  | _ => none }
def FnExactEntryReadWrongFalsely : Prop := fnExactEntryReadRow.holds Try.pinned (OpenSpec.ofChange fnExactEntryReadWrong)

/-- 'laws.FnExactBetter': WHATEVER THE INPUT: true; the input reads as it did. -/
def fnExactBetterSpec : ChangeSpec := { name := "fnExactBetter", fn := fun _ => fun
  | [d1, d2] => { results := [.lit (.bool true)], args := [d1, d2] }
  | _ => none }
def fnExactBetterRow : OpenClaim := { program := "ytcjchbapeoeaeaa", sum := "02d4a2e4f169fe9df8764ffeca64f1dd55698a05b7824e1e752eb90c93b2961d", func := "loop.example/g00178/laws.FnExactBetter", spec := "fnExactBetter", apart := false }
def FnExactBetterSaid : Prop := fnExactBetterRow.holds Try.pinned (OpenSpec.ofChange fnExactBetterSpec)

/-- ITS FALSE NEIGHBOUR: 'it returns false'. Refute it at one input. -/
def fnExactBetterWrong : ChangeSpec := { name := "fnExactBetter", fn := fun _ => fun
  | [d1, d2] => { results := [.lit (.bool false)], args := [d1, d2] }
  | _ => none }
def FnExactBetterWrongFalsely : Prop := fnExactBetterRow.holds Try.pinned (OpenSpec.ofChange fnExactBetterWrong)

/- THE SECOND FORM. 'bulk': how many values and letters a reading holds, each counted each time it is reached (what is shared counts as often as it is met; a slice's spare places count too). A statement '..UptoSaid' is the law's where the arguments, and the package variables that the reading takes, are together of bulk at most 1048576: NARROWER than '..Said'. Prove '..Said' where nothing that the law and all that it calls make is longer than what came in: it says more and counts as full. Else prove '..UptoSaid'. A law counts once. -/
mutual
def uptoBulk {H : Type} : DataW H → Nat
  | .lit (.string bytes) => bytes.length + 1
  | .lit _ => 1
  | .nil => 1
  | .ptr d => uptoBulk d + 1
  | .slice elems spare => uptoBulkAll elems + uptoBulkAll spare + 1
  | .agg parts => uptoBulkAll parts + 1
  | .iface _ d => uptoBulk d + 1
  | .map entries => uptoBulkEntries entries + 1
  | .held _ => 1
def uptoBulkAll {H : Type} : List (DataW H) → Nat
  | [] => 0
  | d :: r => uptoBulk d + uptoBulkAll r
def uptoBulkEntries {H : Type} : List (Lit × DataW H) → Nat
  | [] => 0
  | x :: r => uptoBulkEntry x + uptoBulkEntries r
def uptoBulkEntry {H : Type} : Lit × DataW H → Nat
  | (.string bytes, d) => bytes.length + uptoBulk d + 1
  | (_, d) => uptoBulk d + 1
 end
def uptoSmall : (H : Type) → List (DataW H) → Bool := fun _ ds => decide (uptoBulkAll ds ≤ 1048576)
def OpenSpec.upto (s : _root_.Go.ChangeSpec) : _root_.Go.OpenSpec := { _root_.Go.OpenSpec.ofChange s with cond := some uptoSmall }

/-- 'laws.FnEntries', WHERE WHAT IT READS IS OF BULK AT MOST 1048576: true; the input reads as it did. -/
def fnEntriesUptoRow : OpenClaim := { program := "ytcjchbapeoeaeaa", sum := "02d4a2e4f169fe9df8764ffeca64f1dd55698a05b7824e1e752eb90c93b2961d", func := "loop.example/g00178/laws.FnEntries", spec := "fnEntries", apart := false, narrowed := true }
def FnEntriesUptoSaid : Prop := fnEntriesUptoRow.holds Try.pinned (OpenSpec.upto fnEntriesSpec)

/-- 'laws.FnBetter', WHERE WHAT IT READS IS OF BULK AT MOST 1048576: true; the input reads as it did. -/
def fnBetterUptoRow : OpenClaim := { program := "ytcjchbapeoeaeaa", sum := "02d4a2e4f169fe9df8764ffeca64f1dd55698a05b7824e1e752eb90c93b2961d", func := "loop.example/g00178/laws.FnBetter", spec := "fnBetter", apart := false, narrowed := true }
def FnBetterUptoSaid : Prop := fnBetterUptoRow.holds Try.pinned (OpenSpec.upto fnBetterSpec)

/-- 'laws.FnExactEntryOk', WHERE WHAT IT READS IS OF BULK AT MOST 1048576: true; the input reads as it did. -/
def fnExactEntryOkUptoRow : OpenClaim := { program := "ytcjchbapeoeaeaa", sum := "02d4a2e4f169fe9df8764ffeca64f1dd55698a05b7824e1e752eb90c93b2961d", func := "loop.example/g00178/laws.FnExactEntryOk", spec := "fnExactEntryOk", apart := false, narrowed := true }
def FnExactEntryOkUptoSaid : Prop := fnExactEntryOkUptoRow.holds Try.pinned (OpenSpec.upto fnExactEntryOkSpec)

/-- 'laws.FnExactEntryPack', WHERE WHAT IT READS IS OF BULK AT MOST 1048576: true; the input reads as it did. -/
def fnExactEntryPackUptoRow : OpenClaim := { program := "ytcjchbapeoeaeaa", sum := "02d4a2e4f169fe9df8764ffeca64f1dd55698a05b7824e1e752eb90c93b2961d", func := "loop.example/g00178/laws.FnExactEntryPack", spec := "fnExactEntryPack", apart := false, narrowed := true }
def FnExactEntryPackUptoSaid : Prop := fnExactEntryPackUptoRow.holds Try.pinned (OpenSpec.upto fnExactEntryPackSpec)

/-- 'laws.FnExactEntryRead', WHERE WHAT IT READS IS OF BULK AT MOST 1048576: true; the input reads as it did. -/
def fnExactEntryReadUptoRow : OpenClaim := { program := "ytcjchbapeoeaeaa", sum := "02d4a2e4f169fe9df8764ffeca64f1dd55698a05b7824e1e752eb90c93b2961d", func := "loop.example/g00178/laws.FnExactEntryRead", spec := "fnExactEntryRead", apart := false, narrowed := true }
def FnExactEntryReadUptoSaid : Prop := fnExactEntryReadUptoRow.holds Try.pinned (OpenSpec.upto fnExactEntryReadSpec)

/-- 'laws.FnExactBetter', WHERE WHAT IT READS IS OF BULK AT MOST 1048576: true; the input reads as it did. -/
def fnExactBetterUptoRow : OpenClaim := { program := "ytcjchbapeoeaeaa", sum := "02d4a2e4f169fe9df8764ffeca64f1dd55698a05b7824e1e752eb90c93b2961d", func := "loop.example/g00178/laws.FnExactBetter", spec := "fnExactBetter", apart := false, narrowed := true }
def FnExactBetterUptoSaid : Prop := fnExactBetterUptoRow.holds Try.pinned (OpenSpec.upto fnExactBetterSpec)

end Rows
end Go.Proofs.Ytcjchbapeoeaeaa
