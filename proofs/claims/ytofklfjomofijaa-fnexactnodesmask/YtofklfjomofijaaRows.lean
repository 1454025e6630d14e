/-
  No cell of these rows narrows 'for every input' (looked for: loops, veiled, ifaces, maps, wideKeys, modest, calm, conditions, laid).
  DERIVED. THE GIVEN ROWS OF THIS SEAT. 5 by the template 'for every input the law returns true; each argument reads behind the call as it read before'; 0 by the template 'total and deterministic' (their statements: YtofklfjomofijaaTotals.lean).
  GIVEN WITH THE SEED: the statements are not yours to turn. If you find one false, say at which input.
  Laid BY PROGRAM, IN A SANDBOX (cutbox-rows.mjs): the forced cells as the released guide's own fill.sh prints them over the translation f8ac5812375e3b93… (all of the seat's roots in one cut). By AI agents, Wed Nov 11 2026. No macro, syntax, notation, axiom, sorry.
-/
import Derived.Test.YtofklfjomofijaaChecked
import GoSem.Claim
import GoSem.ClaimJoined
import GoSem.ClaimMapViews
import Derived.JoinedTies
import Derived.KernelRfl
namespace Go.Proofs.Ytofklfjomofijaa
/- THE CELL 'sum', in the pinned program and in every row, IS THE sha256 OF THE DUMP (.gsa) THAT YtofklfjomofijaaProg.lean LOADS. Nothing in Lean hashes anything: it is a label: what it is worth is what the hold of that sum in a sandbox is worth. -/
noncomputable def Try.pinned : Pinned := { name := "ytofklfjomofijaa", sum := "f8ac5812375e3b93c21b4a6a70502966a12508314ac86b0fee7e41839f25dc59", checked := Try.checked }
namespace Rows
def none {H : Type} : Left H := { results := [], args := [] }

/-- 'laws.FnMask': WHATEVER THE INPUT: true; the input reads as it did. -/
def fnMaskSpec : ChangeSpec := { name := "fnMask", fn := fun _ => fun
  | [d] => { results := [.lit (.bool true)], args := [d] }
  | _ => none }
def fnMaskRow : OpenClaim := { program := "ytofklfjomofijaa", sum := "f8ac5812375e3b93c21b4a6a70502966a12508314ac86b0fee7e41839f25dc59", func := "loop.example/g00178/laws.FnMask", spec := "fnMask", unfollowed := true, recurses := true, apart := false }
def FnMaskSaid : Prop := fnMaskRow.holds Try.pinned (OpenSpec.ofChange fnMaskSpec)

/-- ITS FALSE NEIGHBOUR: 'it returns false'. Refute it at one input. -/
def fnMaskWrong : ChangeSpec := { name := "fnMask", fn := fun _ => fun
  | [d] => { results := [.lit (.bool false)], args := [d] }
  | _ => none }
def FnMaskWrongFalsely : Prop := fnMaskRow.holds Try.pinned (OpenSpec.ofChange fnMaskWrong)

/-- 'laws.FnChosen': WHATEVER THE INPUT: true; the input reads as it did. -/
def fnChosenSpec : ChangeSpec := { name := "fnChosen", fn := fun _ => fun
  | [d] => { results := [.lit (.bool true)], args := [d] }
  | _ => none }
def fnChosenRow : OpenClaim := { program := "ytofklfjomofijaa", sum := "f8ac5812375e3b93c21b4a6a70502966a12508314ac86b0fee7e41839f25dc59", func := "loop.example/g00178/laws.FnChosen", spec := "fnChosen", unfollowed := true, recurses := true, apart := false }
def FnChosenSaid : Prop := fnChosenRow.holds Try.pinned (OpenSpec.ofChange fnChosenSpec)

/-- ITS FALSE NEIGHBOUR: 'it returns false'. Refute it at one input. -/
def fnChosenWrong : ChangeSpec := { name := "fnChosen", fn := fun _ => fun
  | [d] => { results := [.lit (.bool false)], args := [d] }
  | _ => none }
def FnChosenWrongFalsely : Prop := fnChosenRow.holds Try.pinned (OpenSpec.ofChange fnChosenWrong)

/-- 'laws.FnExactMaskNodes': WHATEVER THE INPUT: true; the input reads as it did. -/
def fnExactMaskNodesSpec : ChangeSpec := { name := "fnExactMaskNodes", fn := fun _ => fun
  | [d] => { results := [.lit (.bool true)], args := [d] }
  | _ => none }
def fnExactMaskNodesRow : OpenClaim := { program := "ytofklfjomofijaa", sum := "f8ac5812375e3b93c21b4a6a70502966a12508314ac86b0fee7e41839f25dc59", func := "loop.example/g00178/laws.FnExactMaskNodes", spec := "fnExactMaskNodes", unfollowed := true, recurses := true, apart := false }
def FnExactMaskNodesSaid : Prop := fnExactMaskNodesRow.holds Try.pinned (OpenSpec.ofChange fnExactMaskNodesSpec)

/-- ITS FALSE NEIGHBOUR: 'it returns false'. Refute it at one input. -/
def fnExactMaskNodesWrong : ChangeSpec := { name := "fnExactMaskNodes", fn := fun _ => fun
  | [d] => { results := [.lit (.bool false)], args := [d] }
  | _ => none }
def FnExactMaskNodesWrongFalsely : Prop := fnExactMaskNodesRow.holds Try.pinned (OpenSpec.ofChange fnExactMaskNodesWrong)

/-- 'laws.FnExactNodesMask': WHATEVER THE INPUT: true; the input reads as it did. -/
def fnExactNodesMaskSpec : ChangeSpec := { name := "fnExactNodesMask", fn := fun _ => fun
  | [d] => { results := [.lit (.bool true)], args := [d] }
  | _ => none }
def fnExactNodesMaskRow : OpenClaim := { program := "ytofklfjomofijaa", sum := "f8ac5812375e3b93c21b4a6a70502966a12508314ac86b0fee7e41839f25dc59", func := "loop.example/g00178/laws.FnExactNodesMask", spec := "fnExactNodesMask", apart := false }
def FnExactNodesMaskSaid : Prop := fnExactNodesMaskRow.holds Try.pinned (OpenSpec.ofChange fnExactNodesMaskSpec)

/-- ITS FALSE NEIGHBOUR: 'it returns false'. Refute it at one input. -/
def fnExactNodesMaskWrong : ChangeSpec := { name := "fnExactNodesMask", fn := fun _ => fun
  | [d] => { results := [.lit (.bool false)], args := [d] }
  | _ => none }
def FnExactNodesMaskWrongFalsely : Prop := fnExactNodesMaskRow.holds Try.pinned (OpenSpec.ofChange fnExactNodesMaskWrong)

/-- 'laws.FnExactChoose': WHATEVER THE INPUT: true; the input reads as it did. -/
def fnExactChooseSpec : ChangeSpec := { name := "fnExactChoose", fn := fun _ => fun
  | [d1, d2, d3] => { results := [.lit (.bool true)], args := [d1, d2, d3] }
  | _ => none }
def fnExactChooseRow : OpenClaim := { program := "ytofklfjomofijaa", sum := "f8ac5812375e3b93c21b4a6a70502966a12508314ac86b0fee7e41839f25dc59", func := "loop.example/g00178/laws.FnExactChoose", spec := "fnExactChoose", unfollowed := true, recurses := true, apart := false }
def FnExactChooseSaid : Prop := fnExactChooseRow.holds Try.pinned (OpenSpec.ofChange fnExactChooseSpec)

/-- ITS FALSE NEIGHBOUR: 'it returns false'. Refute it at one input. -/
def fnExactChooseWrong : ChangeSpec := { name := "fnExactChoose", fn := fun _ => fun
  | [d1, d2, d3] => { results := [.lit (.bool false)], args := [d1, d2, d3] }
  | _ => none }
def FnExactChooseWrongFalsely : Prop := fnExactChooseRow.holds Try.pinned (OpenSpec.ofChange fnExactChooseWrong)

/- THE SECOND FORM. 'bulk': how many values and letters a reading holds, each counted each time it is reached (what is shared counts as often as it is met; a slice's spare places count too). A statement '..UptoSaid' is the law's where the arguments, and the package variables that the reading takes, are together of bulk at most 1048576: NARROWER than '..Said'. Prove '..Said' where nothing that the law and all that it calls make is longer than what came in: it says more and counts as full. Else prove '..UptoSaid'. A law counts once. -/
mutual
def uptoBulk {H : Type} : DataW H → Nat
  | .lit (.string bytes) => bytes.length + 1
  | .lit _ => 1
  | .nil => 1
  | .ptr d => uptoBulk d + 1
  | .slice elems spare => uptoBulkAll elems + uptoBulkAll spare + 1
  | .agg parts => uptoBulkAll parts + 1
  | .iface _ d => uptoBulk d + 1
  | .map entries => uptoBulkEntries entries + 1
  | .held _ => 1
def uptoBulkAll {H : Type} : List (DataW H) → Nat
  | [] => 0
  | d :: r => uptoBulk d + uptoBulkAll r
def uptoBulkEntries {H : Type} : List (Lit × DataW H) → Nat
  | [] => 0
  | x :: r => uptoBulkEntry x + uptoBulkEntries r
def uptoBulkEntry {H : Type} : Lit × DataW H → Nat
  | (.string bytes, d) => bytes.length + uptoBulk d + 1
  | (_, d) => uptoBulk d + 1
 end
def uptoSmall : (H : Type) → List (DataW H) → Bool := fun _ ds => decide (uptoBulkAll ds ≤ 1048576)
def OpenSpec.upto (s : _root_.Go.ChangeSpec) : _root_.Go.OpenSpec := { _root_.Go.OpenSpec.ofChange s with cond := some uptoSmall }

/-- 'laws.FnMask', WHERE WHAT IT READS IS OF BULK AT MOST 1048576: true; the input reads as it did. -/
def fnMaskUptoRow : OpenClaim := { program := "ytofklfjomofijaa", sum := "f8ac5812375e3b93c21b4a6a70502966a12508314ac86b0fee7e41839f25dc59", func := "loop.example/g00178/laws.FnMask", spec := "fnMask", unfollowed := true, recurses := true, apart := false, narrowed := true }
def FnMaskUptoSaid : Prop := fnMaskUptoRow.holds Try.pinned (OpenSpec.upto fnMaskSpec)

/-- 'laws.FnChosen', WHERE WHAT IT READS IS OF BULK AT MOST 1048576: true; the input reads as it did. -/
def fnChosenUptoRow : OpenClaim := { program := "ytofklfjomofijaa", sum := "f8ac5812375e3b93c21b4a6a70502966a12508314ac86b0fee7e41839f25dc59", func := "loop.example/g00178/laws.FnChosen", spec := "fnChosen", unfollowed := true, recurses := true, apart := false, narrowed := true }
def FnChosenUptoSaid : Prop := fnChosenUptoRow.holds Try.pinned (OpenSpec.upto fnChosenSpec)

/-- 'laws.FnExactMaskNodes', WHERE WHAT IT READS IS OF BULK AT MOST 1048576: true; the input reads as it did. -/
def fnExactMaskNodesUptoRow : OpenClaim := { program := "ytofklfjomofijaa", sum := "f8ac5812375e3b93c21b4a6a70502966a12508314ac86b0fee7e41839f25dc59", func := "loop.example/g00178/laws.FnExactMaskNodes", spec := "fnExactMaskNodes", unfollowed := true, recurses := true, apart := false, narrowed := true }
def FnExactMaskNodesUptoSaid : Prop := fnExactMaskNodesUptoRow.holds Try.pinned (OpenSpec.upto fnExactMaskNodesSpec)

/-- 'laws.FnExactNodesMask', WHERE WHAT IT READS IS OF BULK AT MOST 1048576: true; the input reads as it did. -/
def fnExactNodesMaskUptoRow : OpenClaim := { program := "ytofklfjomofijaa", sum := "f8ac5812375e3b93c21b4a6a70502966a12508314ac86b0fee7e41839f25dc59", func := "loop.example/g00178/laws.FnExactNodesMask", spec := "fnExactNodesMask", apart := false, narrowed := true }
def FnExactNodesMaskUptoSaid : Prop := fnExactNodesMaskUptoRow.holds Try.pinned (OpenSpec.upto fnExactNodesMaskSpec)

/-- 'laws.FnExactChoose', WHERE WHAT IT READS IS OF BULK AT MOST 1048576: true; the input reads as it did. -/
def fnExactChooseUptoRow : OpenClaim := { program := "ytofklfjomofijaa", sum := "f8ac5812375e3b93c21b4a6a70502966a12508314ac86b0fee7e41839f25dc59", func := "loop.example/g00178/laws.FnExactChoose", spec := "fnExactChoose", unfollowed := true, recurses := true, apart := false, narrowed := true }
def FnExactChooseUptoSaid : Prop := fnExactChooseUptoRow.holds Try.pinned (OpenSpec.upto fnExactChooseSpec)

end Rows
end Go.Proofs.Ytofklfjomofijaa
