/-
  No cell of these rows narrows 'for every input' (looked for: loops, veiled, ifaces, maps, wideKeys, modest, calm, conditions, laid).
  DERIVED. THE GIVEN ROWS OF THIS SEAT. 10 by the template 'for every input the law returns true; each argument reads behind the call as it read before'; 0 by the template 'total and deterministic' (their statements: YtjbfpmackocgnaaTotals.lean).
  GIVEN WITH THE SEED: the statements are not yours to turn. If you find one false, say at which input.
  Laid BY PROGRAM, IN A SANDBOX (cutbox-rows.mjs): the forced cells as the released guide's own fill.sh prints them over the translation 6b94f22485b058f7… (all of the seat's roots in one cut). By AI agents, Wed Nov 11 2026. No macro, syntax, notation, axiom, sorry.
-/
import Derived.Test.YtjbfpmackocgnaaChecked
import GoSem.Claim
import GoSem.ClaimJoined
import GoSem.ClaimMapViews
import Derived.JoinedTies
import Derived.KernelRfl
namespace Go.Proofs.Ytjbfpmackocgnaa
/- THE CELL 'sum', in the pinned program and in every row, IS THE sha256 OF THE DUMP (.gsa) THAT YtjbfpmackocgnaaProg.lean LOADS. Nothing in Lean hashes anything: it is a label: what it is worth is what the hold of that sum in a sandbox is worth. -/
noncomputable def Try.pinned : Pinned := { name := "ytjbfpmackocgnaa", sum := "6b94f22485b058f71998cd7e7e43d8bdd8f03e8f4af9806e266d9840d5daf5d9", checked := Try.checked }
namespace Rows
def none {H : Type} : Left H := { results := [], args := [] }

/-- 'laws.FnAdded': WHATEVER THE INPUT: true; the input reads as it did. -/
def fnAddedSpec : ChangeSpec := { name := "fnAdded", fn := fun _ => fun
  | [d] => { results := [.lit (.bool true)], args := [d] }
  | _ => none }
def fnAddedRow : OpenClaim := { program := "ytjbfpmackocgnaa", sum := "6b94f22485b058f71998cd7e7e43d8bdd8f03e8f4af9806e266d9840d5daf5d9", func := "loop.example/g00178/laws.FnAdded", spec := "fnAdded", unfollowed := true, recurses := true, apart := false }
def FnAddedSaid : Prop := fnAddedRow.holds Try.pinned (OpenSpec.ofChange fnAddedSpec)

/-- ITS FALSE NEIGHBOUR: 'it returns false'. Refute it at one input. -/
def fnAddedWrong : ChangeSpec := { name := "fnAdded", fn := fun _ => fun
  | [d] => { results := [.lit (.bool false)], args := [d] }
  | _ => none }
def FnAddedWrongFalsely : Prop := fnAddedRow.holds Try.pinned (OpenSpec.ofChange fnAddedWrong)

/-- 'laws.FnAcked': WHATEVER THE INPUT: true; the input reads as it did. -/
def fnAckedSpec : ChangeSpec := { name := "fnAcked", fn := fun _ => fun
  | [d] => { results := [.lit (.bool true)], args := [d] }
  | _ => none }
def fnAckedRow : OpenClaim := { program := "ytjbfpmackocgnaa", sum := "6b94f22485b058f71998cd7e7e43d8bdd8f03e8f4af9806e266d9840d5daf5d9", func := "loop.example/g00178/laws.FnAcked", spec := "fnAcked", inPlace := ["slices.overlaps[int]"], unfollowed := true, recurses := true, apart := false }
def FnAckedSaid : Prop := fnAckedRow.holds Try.pinned (OpenSpec.ofChange fnAckedSpec)

/-- ITS FALSE NEIGHBOUR: 'it returns false'. Refute it at one input. -/
def fnAckedWrong : ChangeSpec := { name := "fnAcked", fn := fun _ => fun
  | [d] => { results := [.lit (.bool false)], args := [d] }
  | _ => none }
def FnAckedWrongFalsely : Prop := fnAckedRow.holds Try.pinned (OpenSpec.ofChange fnAckedWrong)

/-- 'laws.FnMendEntry': WHATEVER THE INPUT: true; the input reads as it did. -/
def fnMendEntrySpec : ChangeSpec := { name := "fnMendEntry", fn := fun _ => fun
  | [d] => { results := [.lit (.bool true)], args := [d] }
  | _ => none }
def fnMendEntryRow : OpenClaim := { program := "ytjbfpmackocgnaa", sum := "6b94f22485b058f71998cd7e7e43d8bdd8f03e8f4af9806e266d9840d5daf5d9", func := "loop.example/g00178/laws.FnMendEntry", spec := "fnMendEntry", apart := false }
def FnMendEntrySaid : Prop := fnMendEntryRow.holds Try.pinned (OpenSpec.ofChange fnMendEntrySpec)

/-- ITS FALSE NEIGHBOUR: 'it returns false'. Refute it at one input. -/
def fnMendEntryWrong : ChangeSpec := { name := "fnMendEntry", fn := fun _ => fun
  | [d] => { results := [.lit (.bool false)], args := [d] }
  | _ => none }
def FnMendEntryWrongFalsely : Prop := fnMendEntryRow.holds Try.pinned (OpenSpec.ofChange fnMendEntryWrong)

/-- 'laws.FnReady': WHATEVER THE INPUT: true; the input reads as it did. -/
def fnReadySpec : ChangeSpec := { name := "fnReady", fn := fun _ => fun
  | [d] => { results := [.lit (.bool true)], args := [d] }
  | _ => none }
def fnReadyRow : OpenClaim := { program := "ytjbfpmackocgnaa", sum := "6b94f22485b058f71998cd7e7e43d8bdd8f03e8f4af9806e266d9840d5daf5d9", func := "loop.example/g00178/laws.FnReady", spec := "fnReady", unfollowed := true, recurses := true, apart := false }
def FnReadySaid : Prop := fnReadyRow.holds Try.pinned (OpenSpec.ofChange fnReadySpec)

/-- ITS FALSE NEIGHBOUR: 'it returns false'. Refute it at one input. -/
def fnReadyWrong : ChangeSpec := { name := "fnReady", fn := fun _ => fun
  | [d] => { results := [.lit (.bool false)], args := [d] }
  | _ => none }
def FnReadyWrongFalsely : Prop := fnReadyRow.holds Try.pinned (OpenSpec.ofChange fnReadyWrong)

/-- 'laws.FnExactMendOk': WHATEVER THE INPUT: true; the input reads as it did. -/
def fnExactMendOkSpec : ChangeSpec := { name := "fnExactMendOk", fn := fun _ => fun
  | [d1, d2] => { results := [.lit (.bool true)], args := [d1, d2] }
  | _ => none }
def fnExactMendOkRow : OpenClaim := { program := "ytjbfpmackocgnaa", sum := "6b94f22485b058f71998cd7e7e43d8bdd8f03e8f4af9806e266d9840d5daf5d9", func := "loop.example/g00178/laws.FnExactMendOk", spec := "fnExactMendOk", unfollowed := true, recurses := true, apart := false }
def FnExactMendOkSaid : Prop := fnExactMendOkRow.holds Try.pinned (OpenSpec.ofChange fnExactMendOkSpec)

/-- ITS FALSE NEIGHBOUR: 'it returns false'. Refute it at one input. -/
def fnExactMendOkWrong : ChangeSpec := { name := "fnExactMendOk", fn := fun _ => fun
  | [d1, d2] => { results := [.lit (.bool false)], args := [d1, d2] }
  | _ => none }
def FnExactMendOkWrongFalsely : Prop := fnExactMendOkRow.holds Try.pinned (OpenSpec.ofChange fnExactMendOkWrong)

/-- 'laws.FnExactMendNew': WHATEVER THE INPUT: true; the input reads as it did. -/
def fnExactMendNewSpec : ChangeSpec := { name := "fnExactMendNew", fn := fun _ => fun
  | [d1, d2] => { results := [.lit (.bool true)], args := [d1, d2] }
  | _ => none }
def fnExactMendNewRow : OpenClaim := { program := "ytjbfpmackocgnaa", sum := "6b94f22485b058f71998cd7e7e43d8bdd8f03e8f4af9806e266d9840d5daf5d9", func := "loop.example/g00178/laws.FnExactMendNew", spec := "fnExactMendNew", apart := false }
def FnExactMendNewSaid : Prop := fnExactMendNewRow.holds Try.pinned (OpenSpec.ofChange fnExactMendNewSpec)

/-- ITS FALSE NEIGHBOUR: 'it returns false'. Refute it at one input. -/
def fnExactMendNewWrong : ChangeSpec := { name := "fnExactMendNew", fn := fun _ => fun
  | [d1, d2] => { results := [.lit (.bool false)], args := [d1, d2] }
  | _ => none }
def FnExactMendNewWrongFalsely : Prop := fnExactMendNewRow.holds Try.pinned (OpenSpec.ofChange fnExactMendNewWrong)

/-- 'laws.FnExactMendEntry': WHATEVER THE INPUT: true; the input reads as it did. -/
def fnExactMendEntrySpec : ChangeSpec := { name := "fnExactMendEntry", fn := fun _ => fun
  | [d1, d2] => { results := [.lit (.bool true)], args := [d1, d2] }
  | _ => none }
def fnExactMendEntryRow : OpenClaim := { program := "ytjbfpmackocgnaa", sum := "6b94f22485b058f71998cd7e7e43d8bdd8f03e8f4af9806e266d9840d5daf5d9", func := "loop.example/g00178/laws.FnExactMendEntry", spec := "fnExactMendEntry", apart := false }
def FnExactMendEntrySaid : Prop := fnExactMendEntryRow.holds Try.pinned (OpenSpec.ofChange fnExactMendEntrySpec)

/-- ITS FALSE NEIGHBOUR: 'it returns false'. Refute it at one input. -/
def fnExactMendEntryWrong : ChangeSpec := { name := "fnExactMendEntry", fn := fun _ => fun
  | [d1, d2] => { results := [.lit (.bool false)], args := [d1, d2] }
  | _ => none }
def FnExactMendEntryWrongFalsely : Prop := fnExactMendEntryRow.holds Try.pinned (OpenSpec.ofChange fnExactMendEntryWrong)

/-- 'laws.FnExactMendAck': WHATEVER THE INPUT: true; the input reads as it did. -/
def fnExactMendAckSpec : ChangeSpec := { name := "fnExactMendAck", fn := fun _ => fun
  | [d1, d2, d3, d4] => { results := [.lit (.bool true)], args := [d1, d2, d3, d4] }
  | _ => none }
def fnExactMendAckRow : OpenClaim := { program := "ytjbfpmackocgnaa", sum := "6b94f22485b058f71998cd7e7e43d8bdd8f03e8f4af9806e266d9840d5daf5d9", func := "loop.example/g00178/laws.FnExactMendAck", spec := "fnExactMendAck", inPlace := ["slices.overlaps[int]"], unfollowed := true, recurses := true, apart := false }
def FnExactMendAckSaid : Prop := fnExactMendAckRow.holds Try.pinned (OpenSpec.ofChange fnExactMendAckSpec)

/-- ITS FALSE NEIGHBOUR: 'it returns false'. Refute it at one input. -/
def fnExactMendAckWrong : ChangeSpec := { name := "fnExactMendAck", fn := fun _ => fun
  | [d1, d2, d3, d4] => { results := [.lit (.bool false)], args := [d1, d2, d3, d4] }
  | _ => none }
def FnExactMendAckWrongFalsely : Prop := fnExactMendAckRow.holds Try.pinned (OpenSpec.ofChange fnExactMendAckWrong)

/-- 'laws.FnExactMendForget': WHATEVER THE INPUT: true; the input reads as it did. -/
def fnExactMendForgetSpec : ChangeSpec := { name := "fnExactMendForget", fn := fun _ => fun
  | [d1, d2, d3] => { results := [.lit (.bool true)], args := [d1, d2, d3] }
  | _ => none }
def fnExactMendForgetRow : OpenClaim := { program := "ytjbfpmackocgnaa", sum := "6b94f22485b058f71998cd7e7e43d8bdd8f03e8f4af9806e266d9840d5daf5d9", func := "loop.example/g00178/laws.FnExactMendForget", spec := "fnExactMendForget", unfollowed := true, recurses := true, apart := false }
def FnExactMendForgetSaid : Prop := fnExactMendForgetRow.holds Try.pinned (OpenSpec.ofChange fnExactMendForgetSpec)

/-- ITS FALSE NEIGHBOUR: 'it returns false'. Refute it at one input. -/
def fnExactMendForgetWrong : ChangeSpec := { name := "fnExactMendForget", fn := fun _ => fun
  | [d1, d2, d3] => { results := [.lit (.bool false)], args := [d1, d2, d3] }
  | _ => none }
def FnExactMendForgetWrongFalsely : Prop := fnExactMendForgetRow.holds Try.pinned (OpenSpec.ofChange fnExactMendForgetWrong)

/-- 'laws.FnExactMendReady': WHATEVER THE INPUT: true; the input reads as it did. -/
def fnExactMendReadySpec : ChangeSpec := { name := "fnExactMendReady", fn := fun _ => fun
  | [d1, d2] => { results := [.lit (.bool true)], args := [d1, d2] }
  | _ => none }
def fnExactMendReadyRow : OpenClaim := { program := "ytjbfpmackocgnaa", sum := "6b94f22485b058f71998cd7e7e43d8bdd8f03e8f4af9806e266d9840d5daf5d9", func := "loop.example/g00178/laws.FnExactMendReady", spec := "fnExactMendReady", unfollowed := true, recurses := true, apart := false }
def FnExactMendReadySaid : Prop := fnExactMendReadyRow.holds Try.pinned (OpenSpec.ofChange fnExactMendReadySpec)

/-- ITS FALSE NEIGHBOUR: 'it returns false'. Refute it at one input. -/
def fnExactMendReadyWrong : ChangeSpec := { name := "fnExactMendReady", fn := fun _ => fun
  | [d1, d2] => { results := [.lit (.bool false)], args := [d1, d2] }
  | _ => none }
def FnExactMendReadyWrongFalsely : Prop := fnExactMendReadyRow.holds Try.pinned (OpenSpec.ofChange fnExactMendReadyWrong)

/- THE SECOND FORM. 'bulk': how many values and letters a reading holds, each counted each time it is reached (what is shared counts as often as it is met; a slice's spare places count too). A statement '..UptoSaid' is the law's where the arguments, and the package variables that the reading takes, are together of bulk at most 1048576: NARROWER than '..Said'. Prove '..Said' where nothing that the law and all that it calls make is longer than what came in: it says more and counts as full. Else prove '..UptoSaid'. A law counts once. -/
mutual
def uptoBulk {H : Type} : DataW H → Nat
  | .lit (.string bytes) => bytes.length + 1
  | .lit _ => 1
  | .nil => 1
  | .ptr d => uptoBulk d + 1
  | .slice elems spare => uptoBulkAll elems + uptoBulkAll spare + 1
  | .agg parts => uptoBulkAll parts + 1
  | .iface _ d => uptoBulk d + 1
  | .map entries => uptoBulkEntries entries + 1
  | .held _ => 1
def uptoBulkAll {H : Type} : List (DataW H) → Nat
  | [] => 0
  | d :: r => uptoBulk d + uptoBulkAll r
def uptoBulkEntries {H : Type} : List (Lit × DataW H) → Nat
  | [] => 0
  | x :: r => uptoBulkEntry x + uptoBulkEntries r
def uptoBulkEntry {H : Type} : Lit × DataW H → Nat
  | (.string bytes, d) => bytes.length + uptoBulk d + 1
  | (_, d) => uptoBulk d + 1
 end
def uptoSmall : (H : Type) → List (DataW H) → Bool := fun _ ds => decide (uptoBulkAll ds ≤ 1048576)
def OpenSpec.upto (s : _root_.Go.ChangeSpec) : _root_.Go.OpenSpec := { _root_.Go.OpenSpec.ofChange s with cond := some uptoSmall }

/-- 'laws.FnAdded', WHERE WHAT IT READS IS OF BULK AT MOST 1048576: true; the input reads as it did. -/
def fnAddedUptoRow : OpenClaim := { program := "ytjbfpmackocgnaa", sum := "6b94f22485b058f71998cd7e7e43d8bdd8f03e8f4af9806e266d9840d5daf5d9", func := "loop.example/g00178/laws.FnAdded", spec := "fnAdded", unfollowed := true, recurses := true, apart := false, narrowed := true }
def FnAddedUptoSaid : Prop := fnAddedUptoRow.holds Try.pinned (OpenSpec.upto fnAddedSpec)

/-- 'laws.FnAcked', WHERE WHAT IT READS IS OF BULK AT MOST 1048576: true; the input reads as it did. -/
def fnAckedUptoRow : OpenClaim := { program := "ytjbfpmackocgnaa", sum := "6b94f22485b058f71998cd7e7e43d8bdd8f03e8f4af9806e266d9840d5daf5d9", func := "loop.example/g00178/laws.FnAcked", spec := "fnAcked", inPlace := ["slices.overlaps[int]"], unfollowed := true, recurses := true, apart := false, narrowed := true }
def FnAckedUptoSaid : Prop := fnAckedUptoRow.holds Try.pinned (OpenSpec.upto fnAckedSpec)

/-- 'laws.FnMendEntry', WHERE WHAT IT READS IS OF BULK AT MOST 1048576: true; the input reads as it did. -/
def fnMendEntryUptoRow : OpenClaim := { program := "ytjbfpmackocgnaa", sum := "6b94f22485b058f71998cd7e7e43d8bdd8f03e8f4af9806e266d9840d5daf5d9", func := "loop.example/g00178/laws.FnMendEntry", spec := "fnMendEntry", apart := false, narrowed := true }
def FnMendEntryUptoSaid : Prop := fnMendEntryUptoRow.holds Try.pinned (OpenSpec.upto fnMendEntrySpec)

/-- 'laws.FnReady', WHERE WHAT IT READS IS OF BULK AT MOST 1048576: true; the input reads as it did. -/
def fnReadyUptoRow : OpenClaim := { program := "ytjbfpmackocgnaa", sum := "6b94f22485b058f71998cd7e7e43d8bdd8f03e8f4af9806e266d9840d5daf5d9", func := "loop.example/g00178/laws.FnReady", spec := "fnReady", unfollowed := true, recurses := true, apart := false, narrowed := true }
def FnReadyUptoSaid : Prop := fnReadyUptoRow.holds Try.pinned (OpenSpec.upto fnReadySpec)

/-- 'laws.FnExactMendOk', WHERE WHAT IT READS IS OF BULK AT MOST 1048576: true; the input reads as it did. -/
def fnExactMendOkUptoRow : OpenClaim := { program := "ytjbfpmackocgnaa", sum := "6b94f22485b058f71998cd7e7e43d8bdd8f03e8f4af9806e266d9840d5daf5d9", func := "loop.example/g00178/laws.FnExactMendOk", spec := "fnExactMendOk", unfollowed := true, recurses := true, apart := false, narrowed := true }
def FnExactMendOkUptoSaid : Prop := fnExactMendOkUptoRow.holds Try.pinned (OpenSpec.upto fnExactMendOkSpec)

/-- 'laws.FnExactMendNew', WHERE WHAT IT READS IS OF BULK AT MOST 1048576: true; the input reads as it did. -/
def fnExactMendNewUptoRow : OpenClaim := { program := "ytjbfpmackocgnaa", sum := "6b94f22485b058f71998cd7e7e43d8bdd8f03e8f4af9806e266d9840d5daf5d9", func := "loop.example/g00178/laws.FnExactMendNew", spec := "fnExactMendNew", apart := false, narrowed := true }
def FnExactMendNewUptoSaid : Prop := fnExactMendNewUptoRow.holds Try.pinned (OpenSpec.upto fnExactMendNewSpec)

/-- 'laws.FnExactMendEntry', WHERE WHAT IT READS IS OF BULK AT MOST 1048576: true; the input reads as it did. -/
def fnExactMendEntryUptoRow : OpenClaim := { program := "ytjbfpmackocgnaa", sum := "6b94f22485b058f71998cd7e7e43d8bdd8f03e8f4af9806e266d9840d5daf5d9", func := "loop.example/g00178/laws.FnExactMendEntry", spec := "fnExactMendEntry", apart := false, narrowed := true }
def FnExactMendEntryUptoSaid : Prop := fnExactMendEntryUptoRow.holds Try.pinned (OpenSpec.upto fnExactMendEntrySpec)

/-- 'laws.FnExactMendAck', WHERE WHAT IT READS IS OF BULK AT MOST 1048576: true; the input reads as it did. -/
def fnExactMendAckUptoRow : OpenClaim := { program := "ytjbfpmackocgnaa", sum := "6b94f22485b058f71998cd7e7e43d8bdd8f03e8f4af9806e266d9840d5daf5d9", func := "loop.example/g00178/laws.FnExactMendAck", spec := "fnExactMendAck", inPlace := ["slices.overlaps[int]"], unfollowed := true, recurses := true, apart := false, narrowed := true }
def FnExactMendAckUptoSaid : Prop := fnExactMendAckUptoRow.holds Try.pinned (OpenSpec.upto fnExactMendAckSpec)

/-- 'laws.FnExactMendForget', WHERE WHAT IT READS IS OF BULK AT MOST 1048576: true; the input reads as it did. -/
def fnExactMendForgetUptoRow : OpenClaim := { program := "ytjbfpmackocgnaa", sum := "6b94f22485b058f71998cd7e7e43d8bdd8f03e8f4af9806e266d9840d5daf5d9", func := "loop.example/g00178/laws.FnExactMendForget", spec := "fnExactMendForget", unfollowed := true, recurses := true, apart := false, narrowed := true }
def FnExactMendForgetUptoSaid : Prop := fnExactMendForgetUptoRow.holds Try.pinned (OpenSpec.upto fnExactMendForgetSpec)

/-- 'laws.FnExactMendReady', WHERE WHAT IT READS IS OF BULK AT MOST 1048576: true; the input reads as it did. -/
def fnExactMendReadyUptoRow : OpenClaim := { program := "ytjbfpmackocgnaa", sum := "6b94f22485b058f71998cd7e7e43d8bdd8f03e8f4af9806e266d9840d5daf5d9", func := "loop.example/g00178/laws.FnExactMendReady", spec := "fnExactMendReady", unfollowed := true, recurses := true, apart := false, narrowed := true }
def FnExactMendReadyUptoSaid : Prop := fnExactMendReadyUptoRow.holds Try.pinned (OpenSpec.upto fnExactMendReadySpec)

end Rows
end Go.Proofs.Ytjbfpmackocgnaa
