/-
  No cell of these rows narrows 'for every input' (looked for: loops, veiled, ifaces, maps, wideKeys, modest, calm, conditions, laid).
  DERIVED. THE GIVEN ROWS OF THIS SEAT. 9 by the template 'for every input the law returns true; each argument reads behind the call as it read before'; 0 by the template 'total and deterministic' (their statements: YtfipenjojgflmaaTotals.lean).
  GIVEN WITH THE SEED: the statements are not yours to turn. If you find one false, say at which input.
  Laid BY PROGRAM, IN A SANDBOX (cutbox-rows.mjs): the forced cells as the released guide's own fill.sh prints them over the translation 84971b329fc057ac… (all of the seat's roots in one cut). By AI agents, Wed Nov 11 2026. No macro, syntax, notation, axiom, sorry.
-/
import Derived.Test.YtfipenjojgflmaaChecked
import GoSem.Claim
import GoSem.ClaimJoined
import GoSem.ClaimMapViews
import Derived.JoinedTies
import Derived.KernelRfl
namespace Go.Proofs.Ytfipenjojgflmaa
/- THE CELL 'sum', in the pinned program and in every row, IS THE sha256 OF THE DUMP (.gsa) THAT YtfipenjojgflmaaProg.lean LOADS. Nothing in Lean hashes anything: it is a label: what it is worth is what the hold of that sum in a sandbox is worth. -/
noncomputable def Try.pinned : Pinned := { name := "ytfipenjojgflmaa", sum := "84971b329fc057ac0e2a24f6f72011da972126f661c702536a06cd051ba03e9c", checked := Try.checked }
namespace Rows
def none {H : Type} : Left H := { results := [], args := [] }

/-- 'laws.FnAdded': WHATEVER THE INPUT: true; the input reads as it did. -/
def fnAddedSpec : ChangeSpec := { name := "fnAdded", fn := fun _ => fun
  | [d] => { results := [.lit (.bool true)], args := [d] }
  | _ => none }
def fnAddedRow : OpenClaim := { program := "ytfipenjojgflmaa", sum := "84971b329fc057ac0e2a24f6f72011da972126f661c702536a06cd051ba03e9c", func := "loop.example/g00178/laws.FnAdded", spec := "fnAdded", unfollowed := true, recurses := true, apart := false }
def FnAddedSaid : Prop := fnAddedRow.holds Try.pinned (OpenSpec.ofChange fnAddedSpec)

/-- ITS FALSE NEIGHBOUR: 'it returns false'. Refute it at one input. -/
def fnAddedWrong : ChangeSpec := { name := "fnAdded", fn := fun _ => fun
  | [d] => { results := [.lit (.bool false)], args := [d] }
  | _ => none }
def FnAddedWrongFalsely : Prop := fnAddedRow.holds Try.pinned (OpenSpec.ofChange fnAddedWrong)

/-- 'laws.FnAcked': WHATEVER THE INPUT: true; the input reads as it did. -/
def fnAckedSpec : ChangeSpec := { name := "fnAcked", fn := fun _ => fun
  | [d] => { results := [.lit (.bool true)], args := [d] }
  | _ => none }
def fnAckedRow : OpenClaim := { program := "ytfipenjojgflmaa", sum := "84971b329fc057ac0e2a24f6f72011da972126f661c702536a06cd051ba03e9c", func := "loop.example/g00178/laws.FnAcked", spec := "fnAcked", inPlace := ["slices.overlaps[int]"], unfollowed := true, recurses := true, apart := false }
def FnAckedSaid : Prop := fnAckedRow.holds Try.pinned (OpenSpec.ofChange fnAckedSpec)

/-- ITS FALSE NEIGHBOUR: 'it returns false'. Refute it at one input. -/
def fnAckedWrong : ChangeSpec := { name := "fnAcked", fn := fun _ => fun
  | [d] => { results := [.lit (.bool false)], args := [d] }
  | _ => none }
def FnAckedWrongFalsely : Prop := fnAckedRow.holds Try.pinned (OpenSpec.ofChange fnAckedWrong)

/-- 'laws.FnForgotten': WHATEVER THE INPUT: true; the input reads as it did. -/
def fnForgottenSpec : ChangeSpec := { name := "fnForgotten", fn := fun _ => fun
  | [d] => { results := [.lit (.bool true)], args := [d] }
  | _ => none }
def fnForgottenRow : OpenClaim := { program := "ytfipenjojgflmaa", sum := "84971b329fc057ac0e2a24f6f72011da972126f661c702536a06cd051ba03e9c", func := "loop.example/g00178/laws.FnForgotten", spec := "fnForgotten", unfollowed := true, recurses := true, apart := false }
def FnForgottenSaid : Prop := fnForgottenRow.holds Try.pinned (OpenSpec.ofChange fnForgottenSpec)

/-- ITS FALSE NEIGHBOUR: 'it returns false'. Refute it at one input. -/
def fnForgottenWrong : ChangeSpec := { name := "fnForgotten", fn := fun _ => fun
  | [d] => { results := [.lit (.bool false)], args := [d] }
  | _ => none }
def FnForgottenWrongFalsely : Prop := fnForgottenRow.holds Try.pinned (OpenSpec.ofChange fnForgottenWrong)

/-- 'laws.FnSureTo': WHATEVER THE INPUT: true; the input reads as it did. -/
def fnSureToSpec : ChangeSpec := { name := "fnSureTo", fn := fun _ => fun
  | [d] => { results := [.lit (.bool true)], args := [d] }
  | _ => none }
def fnSureToRow : OpenClaim := { program := "ytfipenjojgflmaa", sum := "84971b329fc057ac0e2a24f6f72011da972126f661c702536a06cd051ba03e9c", func := "loop.example/g00178/laws.FnSureTo", spec := "fnSureTo", apart := false }
def FnSureToSaid : Prop := fnSureToRow.holds Try.pinned (OpenSpec.ofChange fnSureToSpec)

/-- ITS FALSE NEIGHBOUR: 'it returns false'. Refute it at one input. -/
def fnSureToWrong : ChangeSpec := { name := "fnSureTo", fn := fun _ => fun
  | [d] => { results := [.lit (.bool false)], args := [d] }
  | _ => none }
def FnSureToWrongFalsely : Prop := fnSureToRow.holds Try.pinned (OpenSpec.ofChange fnSureToWrong)

/-- 'laws.FnExactWriterOk': WHATEVER THE INPUT: true; the input reads as it did. -/
def fnExactWriterOkSpec : ChangeSpec := { name := "fnExactWriterOk", fn := fun _ => fun
  | [d1, d2] => { results := [.lit (.bool true)], args := [d1, d2] }
  | _ => none }
def fnExactWriterOkRow : OpenClaim := { program := "ytfipenjojgflmaa", sum := "84971b329fc057ac0e2a24f6f72011da972126f661c702536a06cd051ba03e9c", func := "loop.example/g00178/laws.FnExactWriterOk", spec := "fnExactWriterOk", unfollowed := true, recurses := true, apart := false }
def FnExactWriterOkSaid : Prop := fnExactWriterOkRow.holds Try.pinned (OpenSpec.ofChange fnExactWriterOkSpec)

/-- ITS FALSE NEIGHBOUR: 'it returns false'. Refute it at one input. -/
def fnExactWriterOkWrong : ChangeSpec := { name := "fnExactWriterOk", fn := fun _ => fun
  | [d1, d2] => { results := [.lit (.bool false)], args := [d1, d2] }
  | _ => none }
def FnExactWriterOkWrongFalsely : Prop := fnExactWriterOkRow.holds Try.pinned (OpenSpec.ofChange fnExactWriterOkWrong)

/-- 'laws.FnExactWriterAdd': WHATEVER THE INPUT: true; the input reads as it did. -/
def fnExactWriterAddSpec : ChangeSpec := { name := "fnExactWriterAdd", fn := fun _ => fun
  | [d1, d2, d3] => { results := [.lit (.bool true)], args := [d1, d2, d3] }
  | _ => none }
def fnExactWriterAddRow : OpenClaim := { program := "ytfipenjojgflmaa", sum := "84971b329fc057ac0e2a24f6f72011da972126f661c702536a06cd051ba03e9c", func := "loop.example/g00178/laws.FnExactWriterAdd", spec := "fnExactWriterAdd", unfollowed := true, recurses := true, apart := false }
def FnExactWriterAddSaid : Prop := fnExactWriterAddRow.holds Try.pinned (OpenSpec.ofChange fnExactWriterAddSpec)

/-- ITS FALSE NEIGHBOUR: 'it returns false'. Refute it at one input. -/
def fnExactWriterAddWrong : ChangeSpec := { name := "fnExactWriterAdd", fn := fun _ => fun
  | [d1, d2, d3] => { results := [.lit (.bool false)], args := [d1, d2, d3] }
  | _ => none }
def FnExactWriterAddWrongFalsely : Prop := fnExactWriterAddRow.holds Try.pinned (OpenSpec.ofChange fnExactWriterAddWrong)

/-- 'laws.FnExactWriterAck': WHATEVER THE INPUT: true; the input reads as it did. -/
def fnExactWriterAckSpec : ChangeSpec := { name := "fnExactWriterAck", fn := fun _ => fun
  | [d1, d2, d3, d4] => { results := [.lit (.bool true)], args := [d1, d2, d3, d4] }
  | _ => none }
def fnExactWriterAckRow : OpenClaim := { program := "ytfipenjojgflmaa", sum := "84971b329fc057ac0e2a24f6f72011da972126f661c702536a06cd051ba03e9c", func := "loop.example/g00178/laws.FnExactWriterAck", spec := "fnExactWriterAck", inPlace := ["slices.overlaps[int]"], unfollowed := true, recurses := true, apart := false }
def FnExactWriterAckSaid : Prop := fnExactWriterAckRow.holds Try.pinned (OpenSpec.ofChange fnExactWriterAckSpec)

/-- ITS FALSE NEIGHBOUR: 'it returns false'. Refute it at one input. -/
def fnExactWriterAckWrong : ChangeSpec := { name := "fnExactWriterAck", fn := fun _ => fun
  | [d1, d2, d3, d4] => { results := [.lit (.bool false)], args := [d1, d2, d3, d4] }
  | _ => none }
def FnExactWriterAckWrongFalsely : Prop := fnExactWriterAckRow.holds Try.pinned (OpenSpec.ofChange fnExactWriterAckWrong)

/-- 'laws.FnExactWriterForget': WHATEVER THE INPUT: true; the input reads as it did. -/
def fnExactWriterForgetSpec : ChangeSpec := { name := "fnExactWriterForget", fn := fun _ => fun
  | [d1, d2, d3] => { results := [.lit (.bool true)], args := [d1, d2, d3] }
  | _ => none }
def fnExactWriterForgetRow : OpenClaim := { program := "ytfipenjojgflmaa", sum := "84971b329fc057ac0e2a24f6f72011da972126f661c702536a06cd051ba03e9c", func := "loop.example/g00178/laws.FnExactWriterForget", spec := "fnExactWriterForget", unfollowed := true, recurses := true, apart := false }
def FnExactWriterForgetSaid : Prop := fnExactWriterForgetRow.holds Try.pinned (OpenSpec.ofChange fnExactWriterForgetSpec)

/-- ITS FALSE NEIGHBOUR: 'it returns false'. Refute it at one input. -/
def fnExactWriterForgetWrong : ChangeSpec := { name := "fnExactWriterForget", fn := fun _ => fun
  | [d1, d2, d3] => { results := [.lit (.bool false)], args := [d1, d2, d3] }
  | _ => none }
def FnExactWriterForgetWrongFalsely : Prop := fnExactWriterForgetRow.holds Try.pinned (OpenSpec.ofChange fnExactWriterForgetWrong)

/-- 'laws.FnExactWriterSure': WHATEVER THE INPUT: true; the input reads as it did. -/
def fnExactWriterSureSpec : ChangeSpec := { name := "fnExactWriterSure", fn := fun _ => fun
  | [d] => { results := [.lit (.bool true)], args := [d] }
  | _ => none }
def fnExactWriterSureRow : OpenClaim := { program := "ytfipenjojgflmaa", sum := "84971b329fc057ac0e2a24f6f72011da972126f661c702536a06cd051ba03e9c", func := "loop.example/g00178/laws.FnExactWriterSure", spec := "fnExactWriterSure", apart := false }
def FnExactWriterSureSaid : Prop := fnExactWriterSureRow.holds Try.pinned (OpenSpec.ofChange fnExactWriterSureSpec)

/-- ITS FALSE NEIGHBOUR: 'it returns false'. Refute it at one input. -/
def fnExactWriterSureWrong : ChangeSpec := { name := "fnExactWriterSure", fn := fun _ => fun
  | [d] => { results := [.lit (.bool false)], args := [d] }
  | _ => none }
def FnExactWriterSureWrongFalsely : Prop := fnExactWriterSureRow.holds Try.pinned (OpenSpec.ofChange fnExactWriterSureWrong)

/- THE SECOND FORM. 'bulk': how many values and letters a reading holds, each counted each time it is reached (what is shared counts as often as it is met; a slice's spare places count too). A statement '..UptoSaid' is the law's where the arguments, and the package variables that the reading takes, are together of bulk at most 1048576: NARROWER than '..Said'. Prove '..Said' where nothing that the law and all that it calls make is longer than what came in: it says more and counts as full. Else prove '..UptoSaid'. A law counts once. -/
mutual
def uptoBulk {H : Type} : DataW H → Nat
  | .lit (.string bytes) => bytes.length + 1
  | .lit _ => 1
  | .nil => 1
  | .ptr d => uptoBulk d + 1
  | .slice elems spare => uptoBulkAll elems + uptoBulkAll spare + 1
  | .agg parts => uptoBulkAll parts + 1
  | .iface _ d => uptoBulk d + 1
  | .map entries => uptoBulkEntries entries + 1
  | .held _ => 1
def uptoBulkAll {H : Type} : List (DataW H) → Nat
  | [] => 0
  | d :: r => uptoBulk d + uptoBulkAll r
def uptoBulkEntries {H : Type} : List (Lit × DataW H) → Nat
  | [] => 0
  | x :: r => uptoBulkEntry x + uptoBulkEntries r
def uptoBulkEntry {H : Type} : Lit × DataW H → Nat
  | (.string bytes, d) => bytes.length + uptoBulk d + 1
  | (_, d) => uptoBulk d + 1
 end
def uptoSmall : (H : Type) → List (DataW H) → Bool := fun _ ds => decide (uptoBulkAll ds ≤ 1048576)
def OpenSpec.upto (s : _root_.Go.ChangeSpec) : _root_.Go.OpenSpec := { _root_.Go.OpenSpec.ofChange s with cond := some uptoSmall }

/-- 'laws.FnAdded', WHERE WHAT IT READS IS OF BULK AT MOST 1048576: true; the input reads as it did. -/
def fnAddedUptoRow : OpenClaim := { program := "ytfipenjojgflmaa", sum := "84971b329fc057ac0e2a24f6f72011da972126f661c702536a06cd051ba03e9c", func := "loop.example/g00178/laws.FnAdded", spec := "fnAdded", unfollowed := true, recurses := true, apart := false, narrowed := true }
def FnAddedUptoSaid : Prop := fnAddedUptoRow.holds Try.pinned (OpenSpec.upto fnAddedSpec)

/-- 'laws.FnAcked', WHERE WHAT IT READS IS OF BULK AT MOST 1048576: true; the input reads as it did. -/
def fnAckedUptoRow : OpenClaim := { program := "ytfipenjojgflmaa", sum := "84971b329fc057ac0e2a24f6f72011da972126f661c702536a06cd051ba03e9c", func := "loop.example/g00178/laws.FnAcked", spec := "fnAcked", inPlace := ["slices.overlaps[int]"], unfollowed := true, recurses := true, apart := false, narrowed := true }
def FnAckedUptoSaid : Prop := fnAckedUptoRow.holds Try.pinned (OpenSpec.upto fnAckedSpec)

/-- 'laws.FnForgotten', WHERE WHAT IT READS IS OF BULK AT MOST 1048576: true; the input reads as it did. -/
def fnForgottenUptoRow : OpenClaim := { program := "ytfipenjojgflmaa", sum := "84971b329fc057ac0e2a24f6f72011da972126f661c702536a06cd051ba03e9c", func := "loop.example/g00178/laws.FnForgotten", spec := "fnForgotten", unfollowed := true, recurses := true, apart := false, narrowed := true }
def FnForgottenUptoSaid : Prop := fnForgottenUptoRow.holds Try.pinned (OpenSpec.upto fnForgottenSpec)

/-- 'laws.FnSureTo', WHERE WHAT IT READS IS OF BULK AT MOST 1048576: true; the input reads as it did. -/
def fnSureToUptoRow : OpenClaim := { program := "ytfipenjojgflmaa", sum := "84971b329fc057ac0e2a24f6f72011da972126f661c702536a06cd051ba03e9c", func := "loop.example/g00178/laws.FnSureTo", spec := "fnSureTo", apart := false, narrowed := true }
def FnSureToUptoSaid : Prop := fnSureToUptoRow.holds Try.pinned (OpenSpec.upto fnSureToSpec)

/-- 'laws.FnExactWriterOk', WHERE WHAT IT READS IS OF BULK AT MOST 1048576: true; the input reads as it did. -/
def fnExactWriterOkUptoRow : OpenClaim := { program := "ytfipenjojgflmaa", sum := "84971b329fc057ac0e2a24f6f72011da972126f661c702536a06cd051ba03e9c", func := "loop.example/g00178/laws.FnExactWriterOk", spec := "fnExactWriterOk", unfollowed := true, recurses := true, apart := false, narrowed := true }
def FnExactWriterOkUptoSaid : Prop := fnExactWriterOkUptoRow.holds Try.pinned (OpenSpec.upto fnExactWriterOkSpec)

/-- 'laws.FnExactWriterAdd', WHERE WHAT IT READS IS OF BULK AT MOST 1048576: true; the input reads as it did. -/
def fnExactWriterAddUptoRow : OpenClaim := { program := "ytfipenjojgflmaa", sum := "84971b329fc057ac0e2a24f6f72011da972126f661c702536a06cd051ba03e9c", func := "loop.example/g00178/laws.FnExactWriterAdd", spec := "fnExactWriterAdd", unfollowed := true, recurses := true, apart := false, narrowed := true }
def FnExactWriterAddUptoSaid : Prop := fnExactWriterAddUptoRow.holds Try.pinned (OpenSpec.upto fnExactWriterAddSpec)

/-- 'laws.FnExactWriterAck', WHERE WHAT IT READS IS OF BULK AT MOST 1048576: true; the input reads as it did. -/
def fnExactWriterAckUptoRow : OpenClaim := { program := "ytfipenjojgflmaa", sum := "84971b329fc057ac0e2a24f6f72011da972126f661c702536a06cd051ba03e9c", func := "loop.example/g00178/laws.FnExactWriterAck", spec := "fnExactWriterAck", inPlace := ["slices.overlaps[int]"], unfollowed := true, recurses := true, apart := false, narrowed := true }
def FnExactWriterAckUptoSaid : Prop := fnExactWriterAckUptoRow.holds Try.pinned (OpenSpec.upto fnExactWriterAckSpec)

/-- 'laws.FnExactWriterForget', WHERE WHAT IT READS IS OF BULK AT MOST 1048576: true; the input reads as it did. -/
def fnExactWriterForgetUptoRow : OpenClaim := { program := "ytfipenjojgflmaa", sum := "84971b329fc057ac0e2a24f6f72011da972126f661c702536a06cd051ba03e9c", func := "loop.example/g00178/laws.FnExactWriterForget", spec := "fnExactWriterForget", unfollowed := true, recurses := true, apart := false, narrowed := true }
def FnExactWriterForgetUptoSaid : Prop := fnExactWriterForgetUptoRow.holds Try.pinned (OpenSpec.upto fnExactWriterForgetSpec)

/-- 'laws.FnExactWriterSure', WHERE WHAT IT READS IS OF BULK AT MOST 1048576: true; the input reads as it did. -/
def fnExactWriterSureUptoRow : OpenClaim := { program := "ytfipenjojgflmaa", sum := "84971b329fc057ac0e2a24f6f72011da972126f661c702536a06cd051ba03e9c", func := "loop.example/g00178/laws.FnExactWriterSure", spec := "fnExactWriterSure", apart := false, narrowed := true }
def FnExactWriterSureUptoSaid : Prop := fnExactWriterSureUptoRow.holds Try.pinned (OpenSpec.upto fnExactWriterSureSpec)

end Rows
end Go.Proofs.Ytfipenjojgflmaa
