/-
  DERIVED. GIVEN WITH THE SEED: THE CARDS: each row of YtfipenjojgflmaaDoorRows.lean that lists a variable, with what it lists TIED to the program's text (the seventh form; the later family's looks); each row that meets fmt, with fmt's text TOLD by the authors' own Lean function (tested against real Go, not proved from fmt's source: count such statements apart). THE CARD IS WHAT COUNTS. Prove the row's statement (the work); the ties are given (YtfipenjojgflmaaDoorTie.lean); close each card by the builder's one call (the guide's Derived/Test/ToyasCard.lean, 'card_holds'). Laid BY PROGRAM, IN A SANDBOX (cutbox-door.mjs). By AI agents, Wed Nov 11 2026. No macro, syntax, notation, axiom, sorry.
-/
import Derived.Test.YtfipenjojgflmaaDoorRows
import GoSem.ClaimSeven
namespace Go.Proofs.YtfipenjojgflmaaDoor
namespace Rows

/-- THE TIED CARD OF 'laws.FnOpened'. -/
def fnOpenedCard : Claim7 := { stood := { row := fnOpenedRow, standIns := [], harness := (true, "1780451945eb8d139859cab3e707610937d7dc42735bbda8beb0a18cc92c5dd0"), looks := true }, kinds := [], alts := [], laidByText := true, laidKinds := [.sentinel, .sentinel], laidTests := true, laidLooks := .later }
def FnOpenedCardSaid : Prop := Claim7.holds Tryd.pinned (.plain (OpenSpec.ofChange fnOpenedSpec)) fnOpenedCard

/-- THE TIED CARD OF 'laws.FnClosed'. -/
def fnClosedCard : Claim7 := { stood := { row := fnClosedRow, standIns := [], harness := (true, "1780451945eb8d139859cab3e707610937d7dc42735bbda8beb0a18cc92c5dd0"), looks := true }, kinds := [], alts := [], laidByText := true, laidKinds := [.sentinel, .sentinel], laidTests := true, laidLooks := .later }
def FnClosedCardSaid : Prop := Claim7.holds Tryd.pinned (.plain (OpenSpec.ofChange fnClosedSpec)) fnClosedCard

/-- THE SECOND FORM's CARD OF 'laws.FnOpened'. -/
def fnOpenedUptoCard : Claim7 := { stood := { row := fnOpenedUptoRow, standIns := [], harness := (true, "1780451945eb8d139859cab3e707610937d7dc42735bbda8beb0a18cc92c5dd0"), looks := true }, kinds := [], alts := [], laidByText := true, laidKinds := [.sentinel, .sentinel], laidTests := true, laidLooks := .later }
def FnOpenedUptoCardSaid : Prop := Claim7.holds Tryd.pinned (.plain (OpenSpec.upto fnOpenedSpec)) fnOpenedUptoCard

/-- THE SECOND FORM's CARD OF 'laws.FnClosed'. -/
def fnClosedUptoCard : Claim7 := { stood := { row := fnClosedUptoRow, standIns := [], harness := (true, "1780451945eb8d139859cab3e707610937d7dc42735bbda8beb0a18cc92c5dd0"), looks := true }, kinds := [], alts := [], laidByText := true, laidKinds := [.sentinel, .sentinel], laidTests := true, laidLooks := .later }
def FnClosedUptoCardSaid : Prop := Claim7.holds Tryd.pinned (.plain (OpenSpec.upto fnClosedSpec)) fnClosedUptoCard
end Rows
end Go.Proofs.YtfipenjojgflmaaDoor
