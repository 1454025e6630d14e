/-
  No cell of these rows narrows 'for every input' (looked for: loops, veiled, ifaces, maps, wideKeys, modest, calm, conditions, laid).
  DERIVED. THE GIVEN ROWS OF THIS SEAT. 4 by the template 'for every input the law returns true; each argument reads behind the call as it read before'; 0 by the template 'total and deterministic' (their statements: YtognmmmplmideaaTotals.lean).
  GIVEN WITH THE SEED: the statements are not yours to turn. If you find one false, say at which input.
  Laid BY PROGRAM, IN A SANDBOX (cutbox-rows.mjs): the forced cells as the released guide's own fill.sh prints them over the translation 1564185e30e4ce3e… (all of the seat's roots in one cut). By AI agents, Wed Nov 11 2026. No macro, syntax, notation, axiom, sorry.
-/
import Derived.Test.YtognmmmplmideaaChecked
import GoSem.Claim
import GoSem.ClaimJoined
import GoSem.ClaimMapViews
import Derived.JoinedTies
import Derived.KernelRfl
namespace Go.Proofs.Ytognmmmplmideaa
/- THE CELL 'sum', in the pinned program and in every row, IS THE sha256 OF THE DUMP (.gsa) THAT YtognmmmplmideaaProg.lean LOADS. Nothing in Lean hashes anything: it is a label: what it is worth is what the hold of that sum in a sandbox is worth. -/
noncomputable def Try.pinned : Pinned := { name := "ytognmmmplmideaa", sum := "1564185e30e4ce3e7f6bfe3702eda09bc512b9925521e61c53d5302b117d7251", checked := Try.checked }
namespace Rows
def none {H : Type} : Left H := { results := [], args := [] }

/-- 'laws.FnStoreBytes': WHATEVER THE INPUT: true; the input reads as it did. -/
def fnStoreBytesSpec : ChangeSpec := { name := "fnStoreBytes", fn := fun _ => fun
  | [d] => { results := [.lit (.bool true)], args := [d] }
  | _ => none }
def fnStoreBytesRow : OpenClaim := { program := "ytognmmmplmideaa", sum := "1564185e30e4ce3e7f6bfe3702eda09bc512b9925521e61c53d5302b117d7251", func := "loop.example/g00178/laws.FnStoreBytes", spec := "fnStoreBytes", unfollowed := true, recurses := true, apart := false }
def FnStoreBytesSaid : Prop := fnStoreBytesRow.holds Try.pinned (OpenSpec.ofChange fnStoreBytesSpec)

/-- ITS FALSE NEIGHBOUR: 'it returns false'. Refute it at one input. -/
def fnStoreBytesWrong : ChangeSpec := { name := "fnStoreBytes", fn := fun _ => fun
  | [d] => { results := [.lit (.bool false)], args := [d] }
  | _ => none }
def FnStoreBytesWrongFalsely : Prop := fnStoreBytesRow.holds Try.pinned (OpenSpec.ofChange fnStoreBytesWrong)

/-- 'laws.FnExactRegOk': WHATEVER THE INPUT: true; the input reads as it did. -/
def fnExactRegOkSpec : ChangeSpec := { name := "fnExactRegOk", fn := fun _ => fun
  | [d1, d2] => { results := [.lit (.bool true)], args := [d1, d2] }
  | _ => none }
def fnExactRegOkRow : OpenClaim := { program := "ytognmmmplmideaa", sum := "1564185e30e4ce3e7f6bfe3702eda09bc512b9925521e61c53d5302b117d7251", func := "loop.example/g00178/laws.FnExactRegOk", spec := "fnExactRegOk", unfollowed := true, recurses := true, apart := false }
def FnExactRegOkSaid : Prop := fnExactRegOkRow.holds Try.pinned (OpenSpec.ofChange fnExactRegOkSpec)

/-- ITS FALSE NEIGHBOUR: 'it returns false'. Refute it at one input. -/
def fnExactRegOkWrong : ChangeSpec := { name := "fnExactRegOk", fn := fun _ => fun
  | [d1, d2] => { results := [.lit (.bool false)], args := [d1, d2] }
  | _ => none }
def FnExactRegOkWrongFalsely : Prop := fnExactRegOkRow.holds Try.pinned (OpenSpec.ofChange fnExactRegOkWrong)

/-- 'laws.FnExactFirstOpen': WHATEVER THE INPUT: true; the input reads as it did. -/
def fnExactFirstOpenSpec : ChangeSpec := { name := "fnExactFirstOpen", fn := fun _ => fun
  | [d] => { results := [.lit (.bool true)], args := [d] }
  | _ => none }
def fnExactFirstOpenRow : OpenClaim := { program := "ytognmmmplmideaa", sum := "1564185e30e4ce3e7f6bfe3702eda09bc512b9925521e61c53d5302b117d7251", func := "loop.example/g00178/laws.FnExactFirstOpen", spec := "fnExactFirstOpen", unfollowed := true, recurses := true, apart := false }
def FnExactFirstOpenSaid : Prop := fnExactFirstOpenRow.holds Try.pinned (OpenSpec.ofChange fnExactFirstOpenSpec)

/-- ITS FALSE NEIGHBOUR: 'it returns false'. Refute it at one input. -/
def fnExactFirstOpenWrong : ChangeSpec := { name := "fnExactFirstOpen", fn := fun _ => fun
  | [d] => { results := [.lit (.bool false)], args := [d] }
  | _ => none }
def FnExactFirstOpenWrongFalsely : Prop := fnExactFirstOpenRow.holds Try.pinned (OpenSpec.ofChange fnExactFirstOpenWrong)

/-- 'laws.FnExactEraNodes': WHATEVER THE INPUT: true; the input reads as it did. -/
def fnExactEraNodesSpec : ChangeSpec := { name := "fnExactEraNodes", fn := fun _ => fun
  | [d1, d2] => { results := [.lit (.bool true)], args := [d1, d2] }
  | _ => none }
def fnExactEraNodesRow : OpenClaim := { program := "ytognmmmplmideaa", sum := "1564185e30e4ce3e7f6bfe3702eda09bc512b9925521e61c53d5302b117d7251", func := "loop.example/g00178/laws.FnExactEraNodes", spec := "fnExactEraNodes", apart := false }
def FnExactEraNodesSaid : Prop := fnExactEraNodesRow.holds Try.pinned (OpenSpec.ofChange fnExactEraNodesSpec)

/-- ITS FALSE NEIGHBOUR: 'it returns false'. Refute it at one input. -/
def fnExactEraNodesWrong : ChangeSpec := { name := "fnExactEraNodes", fn := fun _ => fun
  | [d1, d2] => { results := [.lit (.bool false)], args := [d1, d2] }
  | _ => none }
def FnExactEraNodesWrongFalsely : Prop := fnExactEraNodesRow.holds Try.pinned (OpenSpec.ofChange fnExactEraNodesWrong)

/- THE SECOND FORM. 'bulk': how many values and letters a reading holds, each counted each time it is reached (what is shared counts as often as it is met; a slice's spare places count too). A statement '..UptoSaid' is the law's where the arguments, and the package variables that the reading takes, are together of bulk at most 1048576: NARROWER than '..Said'. Prove '..Said' where nothing that the law and all that it calls make is longer than what came in: it says more and counts as full. Else prove '..UptoSaid'. A law counts once. -/
mutual
def uptoBulk {H : Type} : DataW H → Nat
  | .lit (.string bytes) => bytes.length + 1
  | .lit _ => 1
  | .nil => 1
  | .ptr d => uptoBulk d + 1
  | .slice elems spare => uptoBulkAll elems + uptoBulkAll spare + 1
  | .agg parts => uptoBulkAll parts + 1
  | .iface _ d => uptoBulk d + 1
  | .map entries => uptoBulkEntries entries + 1
  | .held _ => 1
def uptoBulkAll {H : Type} : List (DataW H) → Nat
  | [] => 0
  | d :: r => uptoBulk d + uptoBulkAll r
def uptoBulkEntries {H : Type} : List (Lit × DataW H) → Nat
  | [] => 0
  | x :: r => uptoBulkEntry x + uptoBulkEntries r
def uptoBulkEntry {H : Type} : Lit × DataW H → Nat
  | (.string bytes, d) => bytes.length + uptoBulk d + 1
  | (_, d) => uptoBulk d + 1
 end
def uptoSmall : (H : Type) → List (DataW H) → Bool := fun _ ds => decide (uptoBulkAll ds ≤ 1048576)
def OpenSpec.upto (s : _root_.Go.ChangeSpec) : _root_.Go.OpenSpec := { _root_.Go.OpenSpec.ofChange s with cond := some uptoSmall }

/-- 'laws.FnStoreBytes', WHERE WHAT IT READS IS OF BULK AT MOST 1048576: true; the input reads as it did. -/
def fnStoreBytesUptoRow : OpenClaim := { program := "ytognmmmplmideaa", sum := "1564185e30e4ce3e7f6bfe3702eda09bc512b9925521e61c53d5302b117d7251", func := "loop.example/g00178/laws.FnStoreBytes", spec := "fnStoreBytes", unfollowed := true, recurses := true, apart := false, narrowed := true }
def FnStoreBytesUptoSaid : Prop := fnStoreBytesUptoRow.holds Try.pinned (OpenSpec.upto fnStoreBytesSpec)

/-- 'laws.FnExactRegOk', WHERE WHAT IT READS IS OF BULK AT MOST 1048576: true; the input reads as it did. -/
def fnExactRegOkUptoRow : OpenClaim := { program := "ytognmmmplmideaa", sum := "1564185e30e4ce3e7f6bfe3702eda09bc512b9925521e61c53d5302b117d7251", func := "loop.example/g00178/laws.FnExactRegOk", spec := "fnExactRegOk", unfollowed := true, recurses := true, apart := false, narrowed := true }
def FnExactRegOkUptoSaid : Prop := fnExactRegOkUptoRow.holds Try.pinned (OpenSpec.upto fnExactRegOkSpec)

/-- 'laws.FnExactFirstOpen', WHERE WHAT IT READS IS OF BULK AT MOST 1048576: true; the input reads as it did. -/
def fnExactFirstOpenUptoRow : OpenClaim := { program := "ytognmmmplmideaa", sum := "1564185e30e4ce3e7f6bfe3702eda09bc512b9925521e61c53d5302b117d7251", func := "loop.example/g00178/laws.FnExactFirstOpen", spec := "fnExactFirstOpen", unfollowed := true, recurses := true, apart := false, narrowed := true }
def FnExactFirstOpenUptoSaid : Prop := fnExactFirstOpenUptoRow.holds Try.pinned (OpenSpec.upto fnExactFirstOpenSpec)

/-- 'laws.FnExactEraNodes', WHERE WHAT IT READS IS OF BULK AT MOST 1048576: true; the input reads as it did. -/
def fnExactEraNodesUptoRow : OpenClaim := { program := "ytognmmmplmideaa", sum := "1564185e30e4ce3e7f6bfe3702eda09bc512b9925521e61c53d5302b117d7251", func := "loop.example/g00178/laws.FnExactEraNodes", spec := "fnExactEraNodes", apart := false, narrowed := true }
def FnExactEraNodesUptoSaid : Prop := fnExactEraNodesUptoRow.holds Try.pinned (OpenSpec.upto fnExactEraNodesSpec)

end Rows
end Go.Proofs.Ytognmmmplmideaa
