/-
  No cell of these rows narrows 'for every input' (looked for: loops, veiled, ifaces, maps, wideKeys, modest, calm, conditions, laid).
  DERIVED. THE GIVEN ROWS OF THIS SEAT. 4 by the template 'for every input the law returns true; each argument reads behind the call as it read before'; 0 by the template 'total and deterministic' (their statements: YthdbmnjkiijgeaaTotals.lean).
  GIVEN WITH THE SEED: the statements are not yours to turn. If you find one false, say at which input.
  Laid BY PROGRAM, IN A SANDBOX (cutbox-rows.mjs): the forced cells as the released guide's own fill.sh prints them over the translation 758c193dcc63de02… (all of the seat's roots in one cut). By AI agents, Wed Nov 11 2026. No macro, syntax, notation, axiom, sorry.
-/
import Derived.Test.YthdbmnjkiijgeaaChecked
import GoSem.Claim
import GoSem.ClaimJoined
import GoSem.ClaimMapViews
import Derived.JoinedTies
import Derived.KernelRfl
namespace Go.Proofs.Ythdbmnjkiijgeaa
/- THE CELL 'sum', in the pinned program and in every row, IS THE sha256 OF THE DUMP (.gsa) THAT YthdbmnjkiijgeaaProg.lean LOADS. Nothing in Lean hashes anything: it is a label: what it is worth is what the hold of that sum in a sandbox is worth. -/
noncomputable def Try.pinned : Pinned := { name := "ythdbmnjkiijgeaa", sum := "758c193dcc63de02fe7e91570a178f557aedad0649e02dcb00da8391bf247a9e", checked := Try.checked }
namespace Rows
def none {H : Type} : Left H := { results := [], args := [] }

/-- 'laws.FnExactPlaceMake': WHATEVER THE INPUT: true; the input reads as it did. -/
def fnExactPlaceMakeSpec : ChangeSpec := { name := "fnExactPlaceMake", fn := fun _ => fun
  | [d1, d2] => { results := [.lit (.bool true)], args := [d1, d2] }
  | _ => none }
def fnExactPlaceMakeRow : OpenClaim := { program := "ythdbmnjkiijgeaa", sum := "758c193dcc63de02fe7e91570a178f557aedad0649e02dcb00da8391bf247a9e", func := "loop.example/g00178/laws.FnExactPlaceMake", spec := "fnExactPlaceMake", apart := false }
def FnExactPlaceMakeSaid : Prop := fnExactPlaceMakeRow.holds Try.pinned (OpenSpec.ofChange fnExactPlaceMakeSpec)

/-- ITS FALSE NEIGHBOUR: 'it returns false'. Refute it at one input. -/
def fnExactPlaceMakeWrong : ChangeSpec := { name := "fnExactPlaceMake", fn := fun _ => fun
  | [d1, d2] => { results := [.lit (.bool false)], args := [d1, d2] }
  | _ => none }
def FnExactPlaceMakeWrongFalsely : Prop := fnExactPlaceMakeRow.holds Try.pinned (OpenSpec.ofChange fnExactPlaceMakeWrong)

/-- 'laws.FnExactPlaceOk': WHATEVER THE INPUT: true; the input reads as it did. -/
def fnExactPlaceOkSpec : ChangeSpec := { name := "fnExactPlaceOk", fn := fun _ => fun
  | [d] => { results := [.lit (.bool true)], args := [d] }
  | _ => none }
def fnExactPlaceOkRow : OpenClaim := { program := "ythdbmnjkiijgeaa", sum := "758c193dcc63de02fe7e91570a178f557aedad0649e02dcb00da8391bf247a9e", func := "loop.example/g00178/laws.FnExactPlaceOk", spec := "fnExactPlaceOk", apart := false }
def FnExactPlaceOkSaid : Prop := fnExactPlaceOkRow.holds Try.pinned (OpenSpec.ofChange fnExactPlaceOkSpec)

/-- ITS FALSE NEIGHBOUR: 'it returns false'. Refute it at one input. -/
def fnExactPlaceOkWrong : ChangeSpec := { name := "fnExactPlaceOk", fn := fun _ => fun
  | [d] => { results := [.lit (.bool false)], args := [d] }
  | _ => none }
def FnExactPlaceOkWrongFalsely : Prop := fnExactPlaceOkRow.holds Try.pinned (OpenSpec.ofChange fnExactPlaceOkWrong)

/-- 'laws.FnExactEpochOf': WHATEVER THE INPUT: true; the input reads as it did. -/
def fnExactEpochOfSpec : ChangeSpec := { name := "fnExactEpochOf", fn := fun _ => fun
  | [d] => { results := [.lit (.bool true)], args := [d] }
  | _ => none }
def fnExactEpochOfRow : OpenClaim := { program := "ythdbmnjkiijgeaa", sum := "758c193dcc63de02fe7e91570a178f557aedad0649e02dcb00da8391bf247a9e", func := "loop.example/g00178/laws.FnExactEpochOf", spec := "fnExactEpochOf", apart := false }
def FnExactEpochOfSaid : Prop := fnExactEpochOfRow.holds Try.pinned (OpenSpec.ofChange fnExactEpochOfSpec)

/-- ITS FALSE NEIGHBOUR: 'it returns false'. Refute it at one input. -/
def fnExactEpochOfWrong : ChangeSpec := { name := "fnExactEpochOf", fn := fun _ => fun
  | [d] => { results := [.lit (.bool false)], args := [d] }
  | _ => none }
def FnExactEpochOfWrongFalsely : Prop := fnExactEpochOfRow.holds Try.pinned (OpenSpec.ofChange fnExactEpochOfWrong)

/-- 'laws.FnExactOffOf': WHATEVER THE INPUT: true; the input reads as it did. -/
def fnExactOffOfSpec : ChangeSpec := { name := "fnExactOffOf", fn := fun _ => fun
  | [d] => { results := [.lit (.bool true)], args := [d] }
  | _ => none }
def fnExactOffOfRow : OpenClaim := { program := "ythdbmnjkiijgeaa", sum := "758c193dcc63de02fe7e91570a178f557aedad0649e02dcb00da8391bf247a9e", func := "loop.example/g00178/laws.FnExactOffOf", spec := "fnExactOffOf", apart := false }
def FnExactOffOfSaid : Prop := fnExactOffOfRow.holds Try.pinned (OpenSpec.ofChange fnExactOffOfSpec)

/-- ITS FALSE NEIGHBOUR: 'it returns false'. Refute it at one input. -/
def fnExactOffOfWrong : ChangeSpec := { name := "fnExactOffOf", fn := fun _ => fun
  | [d] => { results := [.lit (.bool false)], args := [d] }
  | _ => none }
def FnExactOffOfWrongFalsely : Prop := fnExactOffOfRow.holds Try.pinned (OpenSpec.ofChange fnExactOffOfWrong)

/- THE SECOND FORM. 'bulk': how many values and letters a reading holds, each counted each time it is reached (what is shared counts as often as it is met; a slice's spare places count too). A statement '..UptoSaid' is the law's where the arguments, and the package variables that the reading takes, are together of bulk at most 1048576: NARROWER than '..Said'. Prove '..Said' where nothing that the law and all that it calls make is longer than what came in: it says more and counts as full. Else prove '..UptoSaid'. A law counts once. -/
mutual
def uptoBulk {H : Type} : DataW H → Nat
  | .lit (.string bytes) => bytes.length + 1
  | .lit _ => 1
  | .nil => 1
  | .ptr d => uptoBulk d + 1
  | .slice elems spare => uptoBulkAll elems + uptoBulkAll spare + 1
  | .agg parts => uptoBulkAll parts + 1
  | .iface _ d => uptoBulk d + 1
  | .map entries => uptoBulkEntries entries + 1
  | .held _ => 1
def uptoBulkAll {H : Type} : List (DataW H) → Nat
  | [] => 0
  | d :: r => uptoBulk d + uptoBulkAll r
def uptoBulkEntries {H : Type} : List (Lit × DataW H) → Nat
  | [] => 0
  | x :: r => uptoBulkEntry x + uptoBulkEntries r
def uptoBulkEntry {H : Type} : Lit × DataW H → Nat
  | (.string bytes, d) => bytes.length + uptoBulk d + 1
  | (_, d) => uptoBulk d + 1
 end
def uptoSmall : (H : Type) → List (DataW H) → Bool := fun _ ds => decide (uptoBulkAll ds ≤ 1048576)
def OpenSpec.upto (s : _root_.Go.ChangeSpec) : _root_.Go.OpenSpec := { _root_.Go.OpenSpec.ofChange s with cond := some uptoSmall }

/-- 'laws.FnExactPlaceMake', WHERE WHAT IT READS IS OF BULK AT MOST 1048576: true; the input reads as it did. -/
def fnExactPlaceMakeUptoRow : OpenClaim := { program := "ythdbmnjkiijgeaa", sum := "758c193dcc63de02fe7e91570a178f557aedad0649e02dcb00da8391bf247a9e", func := "loop.example/g00178/laws.FnExactPlaceMake", spec := "fnExactPlaceMake", apart := false, narrowed := true }
def FnExactPlaceMakeUptoSaid : Prop := fnExactPlaceMakeUptoRow.holds Try.pinned (OpenSpec.upto fnExactPlaceMakeSpec)

/-- 'laws.FnExactPlaceOk', WHERE WHAT IT READS IS OF BULK AT MOST 1048576: true; the input reads as it did. -/
def fnExactPlaceOkUptoRow : OpenClaim := { program := "ythdbmnjkiijgeaa", sum := "758c193dcc63de02fe7e91570a178f557aedad0649e02dcb00da8391bf247a9e", func := "loop.example/g00178/laws.FnExactPlaceOk", spec := "fnExactPlaceOk", apart := false, narrowed := true }
def FnExactPlaceOkUptoSaid : Prop := fnExactPlaceOkUptoRow.holds Try.pinned (OpenSpec.upto fnExactPlaceOkSpec)

/-- 'laws.FnExactEpochOf', WHERE WHAT IT READS IS OF BULK AT MOST 1048576: true; the input reads as it did. -/
def fnExactEpochOfUptoRow : OpenClaim := { program := "ythdbmnjkiijgeaa", sum := "758c193dcc63de02fe7e91570a178f557aedad0649e02dcb00da8391bf247a9e", func := "loop.example/g00178/laws.FnExactEpochOf", spec := "fnExactEpochOf", apart := false, narrowed := true }
def FnExactEpochOfUptoSaid : Prop := fnExactEpochOfUptoRow.holds Try.pinned (OpenSpec.upto fnExactEpochOfSpec)

/-- 'laws.FnExactOffOf', WHERE WHAT IT READS IS OF BULK AT MOST 1048576: true; the input reads as it did. -/
def fnExactOffOfUptoRow : OpenClaim := { program := "ythdbmnjkiijgeaa", sum := "758c193dcc63de02fe7e91570a178f557aedad0649e02dcb00da8391bf247a9e", func := "loop.example/g00178/laws.FnExactOffOf", spec := "fnExactOffOf", apart := false, narrowed := true }
def FnExactOffOfUptoSaid : Prop := fnExactOffOfUptoRow.holds Try.pinned (OpenSpec.upto fnExactOffOfSpec)

end Rows
end Go.Proofs.Ythdbmnjkiijgeaa
