/-
  DERIVED. GIVEN WITH THE SEED: THE CARDS: each row of YtioocibgfhgkhaaGreatDoorRows.lean that lists a variable, with what it lists TIED to the program's text (the seventh form; the later family's looks); each row that meets fmt, with fmt's text TOLD by the authors' own Lean function (tested against real Go, not proved from fmt's source: count such statements apart). THE CARD IS WHAT COUNTS. Prove the row's statement (the work); the ties are given (YtioocibgfhgkhaaGreatDoorTie.lean); close each card by the builder's one call (the guide's Derived/Test/ToyasCard.lean, 'card_holds'). Laid BY PROGRAM, IN A SANDBOX (cutbox-door.mjs). By AI agents, Wed Nov 11 2026. No macro, syntax, notation, axiom, sorry.
-/
import Derived.Test.YtioocibgfhgkhaaGreatDoorRows
import GoSem.ClaimSeven
namespace Go.Proofs.YtioocibgfhgkhaaGreatDoor
namespace Rows

/-- THE TIED CARD OF 'laws.FnExactRegRead'. -/
def fnExactRegReadCard : Claim7 := { stood := { row := fnExactRegReadRow, standIns := [], harness := (true, "8bda3b6f955752deed963f5cb346b3232c8bce55849a307c29273652db1a1cc1"), looks := true }, kinds := [], alts := [], laidByText := true, laidKinds := [.handle], laidTests := true, laidLooks := .later }
def FnExactRegReadCardSaid : Prop := Claim7.holds Tryz.pinned (.plain (OpenSpec.ofChange fnExactRegReadSpec)) fnExactRegReadCard

/-- THE TIED CARD OF 'laws.FnExactWriterRead'. -/
def fnExactWriterReadCard : Claim7 := { stood := { row := fnExactWriterReadRow, standIns := [], harness := (true, "8bda3b6f955752deed963f5cb346b3232c8bce55849a307c29273652db1a1cc1"), looks := true }, kinds := [], alts := [], laidByText := true, laidKinds := [.handle], laidTests := true, laidLooks := .later }
def FnExactWriterReadCardSaid : Prop := Claim7.holds Tryz.pinned (.plain (OpenSpec.ofChange fnExactWriterReadSpec)) fnExactWriterReadCard

/-- THE SECOND FORM's CARD OF 'laws.FnExactRegRead'. -/
def fnExactRegReadUptoCard : Claim7 := { stood := { row := fnExactRegReadUptoRow, standIns := [], harness := (true, "8bda3b6f955752deed963f5cb346b3232c8bce55849a307c29273652db1a1cc1"), looks := true }, kinds := [], alts := [], laidByText := true, laidKinds := [.handle], laidTests := true, laidLooks := .later }
def FnExactRegReadUptoCardSaid : Prop := Claim7.holds Tryz.pinned (.plain (OpenSpec.upto fnExactRegReadSpec)) fnExactRegReadUptoCard

/-- THE SECOND FORM's CARD OF 'laws.FnExactWriterRead'. -/
def fnExactWriterReadUptoCard : Claim7 := { stood := { row := fnExactWriterReadUptoRow, standIns := [], harness := (true, "8bda3b6f955752deed963f5cb346b3232c8bce55849a307c29273652db1a1cc1"), looks := true }, kinds := [], alts := [], laidByText := true, laidKinds := [.handle], laidTests := true, laidLooks := .later }
def FnExactWriterReadUptoCardSaid : Prop := Claim7.holds Tryz.pinned (.plain (OpenSpec.upto fnExactWriterReadSpec)) fnExactWriterReadUptoCard
end Rows
end Go.Proofs.YtioocibgfhgkhaaGreatDoor
