/-
  DERIVED. GIVEN WITH THE SEED: THE CARDS: each row of YtaamipmlalplbaaGreatDoorRows.lean that lists a variable, with what it lists TIED to the program's text (the seventh form; the later family's looks); each row that meets fmt, with fmt's text TOLD by the authors' own Lean function (tested against real Go, not proved from fmt's source: count such statements apart). THE CARD IS WHAT COUNTS. Prove the row's statement (the work); the ties are given (YtaamipmlalplbaaGreatDoorTie.lean); close each card by the builder's one call (the guide's Derived/Test/ToyasCard.lean, 'card_holds'). Laid BY PROGRAM, IN A SANDBOX (cutbox-door.mjs). By AI agents, Wed Nov 11 2026. No macro, syntax, notation, axiom, sorry.
-/
import Derived.Test.YtaamipmlalplbaaGreatDoorRows
import GoSem.ClaimSeven
namespace Go.Proofs.YtaamipmlalplbaaGreatDoor
namespace Rows

/-- THE TIED CARD OF 'laws.FnRun'. -/
def fnRunCard : Claim7 := { stood := { row := fnRunRow, standIns := [], harness := (true, "e1d158af84891435229110b43106299713127e7e7112d65f1c743206ce9a0570"), looks := true }, kinds := [], alts := [], laidByText := true, laidKinds := [.sentinel, .sentinel], laidTests := true, laidLooks := .later }
def FnRunCardSaid : Prop := Claim7.holds Tryz.pinned (.plain (OpenSpec.ofChange fnRunSpec)) fnRunCard

/-- THE TIED CARD OF 'laws.FnExactDeedOk'. -/
def fnExactDeedOkCard : Claim7 := { stood := { row := fnExactDeedOkRow, standIns := [], harness := (true, "e1d158af84891435229110b43106299713127e7e7112d65f1c743206ce9a0570"), looks := true }, kinds := [], alts := [], laidByText := true, laidKinds := [.sentinel, .sentinel], laidTests := true, laidLooks := .later }
def FnExactDeedOkCardSaid : Prop := Claim7.holds Tryz.pinned (.plain (OpenSpec.ofChange fnExactDeedOkSpec)) fnExactDeedOkCard

/-- THE TIED CARD OF 'laws.FnExactWorldDo'. -/
def fnExactWorldDoCard : Claim7 := { stood := { row := fnExactWorldDoRow, standIns := [], harness := (true, "e1d158af84891435229110b43106299713127e7e7112d65f1c743206ce9a0570"), looks := true }, kinds := [], alts := [], laidByText := true, laidKinds := [.sentinel, .sentinel], laidTests := true, laidLooks := .later }
def FnExactWorldDoCardSaid : Prop := Claim7.holds Tryz.pinned (.plain (OpenSpec.ofChange fnExactWorldDoSpec)) fnExactWorldDoCard

/-- THE TIED CARD OF 'laws.FnExactWorldRun'. -/
def fnExactWorldRunCard : Claim7 := { stood := { row := fnExactWorldRunRow, standIns := [], harness := (true, "e1d158af84891435229110b43106299713127e7e7112d65f1c743206ce9a0570"), looks := true }, kinds := [], alts := [], laidByText := true, laidKinds := [.sentinel, .sentinel], laidTests := true, laidLooks := .later }
def FnExactWorldRunCardSaid : Prop := Claim7.holds Tryz.pinned (.plain (OpenSpec.ofChange fnExactWorldRunSpec)) fnExactWorldRunCard

/-- THE SECOND FORM's CARD OF 'laws.FnRun'. -/
def fnRunUptoCard : Claim7 := { stood := { row := fnRunUptoRow, standIns := [], harness := (true, "e1d158af84891435229110b43106299713127e7e7112d65f1c743206ce9a0570"), looks := true }, kinds := [], alts := [], laidByText := true, laidKinds := [.sentinel, .sentinel], laidTests := true, laidLooks := .later }
def FnRunUptoCardSaid : Prop := Claim7.holds Tryz.pinned (.plain (OpenSpec.upto fnRunSpec)) fnRunUptoCard

/-- THE SECOND FORM's CARD OF 'laws.FnExactDeedOk'. -/
def fnExactDeedOkUptoCard : Claim7 := { stood := { row := fnExactDeedOkUptoRow, standIns := [], harness := (true, "e1d158af84891435229110b43106299713127e7e7112d65f1c743206ce9a0570"), looks := true }, kinds := [], alts := [], laidByText := true, laidKinds := [.sentinel, .sentinel], laidTests := true, laidLooks := .later }
def FnExactDeedOkUptoCardSaid : Prop := Claim7.holds Tryz.pinned (.plain (OpenSpec.upto fnExactDeedOkSpec)) fnExactDeedOkUptoCard

/-- THE SECOND FORM's CARD OF 'laws.FnExactWorldDo'. -/
def fnExactWorldDoUptoCard : Claim7 := { stood := { row := fnExactWorldDoUptoRow, standIns := [], harness := (true, "e1d158af84891435229110b43106299713127e7e7112d65f1c743206ce9a0570"), looks := true }, kinds := [], alts := [], laidByText := true, laidKinds := [.sentinel, .sentinel], laidTests := true, laidLooks := .later }
def FnExactWorldDoUptoCardSaid : Prop := Claim7.holds Tryz.pinned (.plain (OpenSpec.upto fnExactWorldDoSpec)) fnExactWorldDoUptoCard

/-- THE SECOND FORM's CARD OF 'laws.FnExactWorldRun'. -/
def fnExactWorldRunUptoCard : Claim7 := { stood := { row := fnExactWorldRunUptoRow, standIns := [], harness := (true, "e1d158af84891435229110b43106299713127e7e7112d65f1c743206ce9a0570"), looks := true }, kinds := [], alts := [], laidByText := true, laidKinds := [.sentinel, .sentinel], laidTests := true, laidLooks := .later }
def FnExactWorldRunUptoCardSaid : Prop := Claim7.holds Tryz.pinned (.plain (OpenSpec.upto fnExactWorldRunSpec)) fnExactWorldRunUptoCard
end Rows
end Go.Proofs.YtaamipmlalplbaaGreatDoor
