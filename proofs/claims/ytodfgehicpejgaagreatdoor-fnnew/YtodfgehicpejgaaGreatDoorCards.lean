/-
  DERIVED. GIVEN WITH THE SEED: THE CARDS: each row of YtodfgehicpejgaaGreatDoorRows.lean that lists a variable, with what it lists TIED to the program's text (the seventh form; the later family's looks); each row that meets fmt, with fmt's text TOLD by the authors' own Lean function (tested against real Go, not proved from fmt's source: count such statements apart). THE CARD IS WHAT COUNTS. Prove the row's statement (the work); the ties are given (YtodfgehicpejgaaGreatDoorTie.lean); close each card by the builder's one call (the guide's Derived/Test/ToyasCard.lean, 'card_holds'). Laid BY PROGRAM, IN A SANDBOX (cutbox-door.mjs). By AI agents, Wed Nov 11 2026. No macro, syntax, notation, axiom, sorry.
-/
import Derived.Test.YtodfgehicpejgaaGreatDoorRows
import GoSem.ClaimSeven
namespace Go.Proofs.YtodfgehicpejgaaGreatDoor
namespace Rows

/-- THE TIED CARD OF 'laws.FnNew'. -/
def fnNewCard : Claim7 := { stood := { row := fnNewRow, standIns := [], harness := (true, "04f408aa791855db03036062279ba7916031181f21b47bc46379b9d248ea3620"), looks := true }, kinds := [], alts := [], laidByText := true, laidKinds := [.sentinel, .sentinel], laidTests := true, laidLooks := .later }
def FnNewCardSaid : Prop := Claim7.holds Tryz.pinned (.plain (OpenSpec.ofChange fnNewSpec)) fnNewCard

/-- THE SECOND FORM's CARD OF 'laws.FnNew'. -/
def fnNewUptoCard : Claim7 := { stood := { row := fnNewUptoRow, standIns := [], harness := (true, "04f408aa791855db03036062279ba7916031181f21b47bc46379b9d248ea3620"), looks := true }, kinds := [], alts := [], laidByText := true, laidKinds := [.sentinel, .sentinel], laidTests := true, laidLooks := .later }
def FnNewUptoCardSaid : Prop := Claim7.holds Tryz.pinned (.plain (OpenSpec.upto fnNewSpec)) fnNewUptoCard
end Rows
end Go.Proofs.YtodfgehicpejgaaGreatDoor
