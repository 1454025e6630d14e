/-
  DERIVED. GIVEN WITH THE SEED: THE CARDS: each row of YtognmmmplmideaaDoorRows.lean that lists a variable, with what it lists TIED to the program's text (the seventh form; the later family's looks); each row that meets fmt, with fmt's text TOLD by the authors' own Lean function (tested against real Go, not proved from fmt's source: count such statements apart). THE CARD IS WHAT COUNTS. Prove the row's statement (the work); the ties are given (YtognmmmplmideaaDoorTie.lean); close each card by the builder's one call (the guide's Derived/Test/ToyasCard.lean, 'card_holds'). Laid BY PROGRAM, IN A SANDBOX (cutbox-door.mjs). By AI agents, Wed Nov 11 2026. No macro, syntax, notation, axiom, sorry.
-/
import Derived.Test.YtognmmmplmideaaDoorRows
import GoSem.ClaimSeven
namespace Go.Proofs.YtognmmmplmideaaDoor
namespace Rows

/-- THE TIED CARD OF 'laws.FnOpened'. -/
def fnOpenedCard : Claim7 := { stood := { row := fnOpenedRow, standIns := [], harness := (true, "d488bfd9d040ea6a92f3d0e55ddd6bd5d32aefc50ff1a90491915327948d83d6"), looks := true }, kinds := [], alts := [], laidByText := true, laidKinds := [.sentinel, .sentinel], laidTests := true, laidLooks := .later }
def FnOpenedCardSaid : Prop := Claim7.holds Tryd.pinned (.plain (OpenSpec.ofChange fnOpenedSpec)) fnOpenedCard

/-- THE TIED CARD OF 'laws.FnClosed'. -/
def fnClosedCard : Claim7 := { stood := { row := fnClosedRow, standIns := [], harness := (true, "d488bfd9d040ea6a92f3d0e55ddd6bd5d32aefc50ff1a90491915327948d83d6"), looks := true }, kinds := [], alts := [], laidByText := true, laidKinds := [.sentinel, .sentinel], laidTests := true, laidLooks := .later }
def FnClosedCardSaid : Prop := Claim7.holds Tryd.pinned (.plain (OpenSpec.ofChange fnClosedSpec)) fnClosedCard

/-- THE TIED CARD OF 'laws.FnTrimmed'. -/
def fnTrimmedCard : Claim7 := { stood := { row := fnTrimmedRow, standIns := [], harness := (true, "d488bfd9d040ea6a92f3d0e55ddd6bd5d32aefc50ff1a90491915327948d83d6"), looks := true }, kinds := [], alts := [], laidByText := true, laidKinds := [.sentinel, .sentinel], laidTests := true, laidLooks := .later }
def FnTrimmedCardSaid : Prop := Claim7.holds Tryd.pinned (.plain (OpenSpec.ofChange fnTrimmedSpec)) fnTrimmedCard

/-- THE TIED CARD OF 'laws.FnExactRegOpen'. -/
def fnExactRegOpenCard : Claim7 := { stood := { row := fnExactRegOpenRow, standIns := [], harness := (true, "d488bfd9d040ea6a92f3d0e55ddd6bd5d32aefc50ff1a90491915327948d83d6"), looks := true }, kinds := [], alts := [], laidByText := true, laidKinds := [.sentinel, .sentinel], laidTests := true, laidLooks := .later }
def FnExactRegOpenCardSaid : Prop := Claim7.holds Tryd.pinned (.plain (OpenSpec.ofChange fnExactRegOpenSpec)) fnExactRegOpenCard

/-- THE TIED CARD OF 'laws.FnExactRegClose'. -/
def fnExactRegCloseCard : Claim7 := { stood := { row := fnExactRegCloseRow, standIns := [], harness := (true, "d488bfd9d040ea6a92f3d0e55ddd6bd5d32aefc50ff1a90491915327948d83d6"), looks := true }, kinds := [], alts := [], laidByText := true, laidKinds := [.sentinel, .sentinel], laidTests := true, laidLooks := .later }
def FnExactRegCloseCardSaid : Prop := Claim7.holds Tryd.pinned (.plain (OpenSpec.ofChange fnExactRegCloseSpec)) fnExactRegCloseCard

/-- THE TIED CARD OF 'laws.FnExactRegTrim'. -/
def fnExactRegTrimCard : Claim7 := { stood := { row := fnExactRegTrimRow, standIns := [], harness := (true, "d488bfd9d040ea6a92f3d0e55ddd6bd5d32aefc50ff1a90491915327948d83d6"), looks := true }, kinds := [], alts := [], laidByText := true, laidKinds := [.sentinel, .sentinel], laidTests := true, laidLooks := .later }
def FnExactRegTrimCardSaid : Prop := Claim7.holds Tryd.pinned (.plain (OpenSpec.ofChange fnExactRegTrimSpec)) fnExactRegTrimCard

/-- THE SECOND FORM's CARD OF 'laws.FnOpened'. -/
def fnOpenedUptoCard : Claim7 := { stood := { row := fnOpenedUptoRow, standIns := [], harness := (true, "d488bfd9d040ea6a92f3d0e55ddd6bd5d32aefc50ff1a90491915327948d83d6"), looks := true }, kinds := [], alts := [], laidByText := true, laidKinds := [.sentinel, .sentinel], laidTests := true, laidLooks := .later }
def FnOpenedUptoCardSaid : Prop := Claim7.holds Tryd.pinned (.plain (OpenSpec.upto fnOpenedSpec)) fnOpenedUptoCard

/-- THE SECOND FORM's CARD OF 'laws.FnClosed'. -/
def fnClosedUptoCard : Claim7 := { stood := { row := fnClosedUptoRow, standIns := [], harness := (true, "d488bfd9d040ea6a92f3d0e55ddd6bd5d32aefc50ff1a90491915327948d83d6"), looks := true }, kinds := [], alts := [], laidByText := true, laidKinds := [.sentinel, .sentinel], laidTests := true, laidLooks := .later }
def FnClosedUptoCardSaid : Prop := Claim7.holds Tryd.pinned (.plain (OpenSpec.upto fnClosedSpec)) fnClosedUptoCard

/-- THE SECOND FORM's CARD OF 'laws.FnTrimmed'. -/
def fnTrimmedUptoCard : Claim7 := { stood := { row := fnTrimmedUptoRow, standIns := [], harness := (true, "d488bfd9d040ea6a92f3d0e55ddd6bd5d32aefc50ff1a90491915327948d83d6"), looks := true }, kinds := [], alts := [], laidByText := true, laidKinds := [.sentinel, .sentinel], laidTests := true, laidLooks := .later }
def FnTrimmedUptoCardSaid : Prop := Claim7.holds Tryd.pinned (.plain (OpenSpec.upto fnTrimmedSpec)) fnTrimmedUptoCard

/-- THE SECOND FORM's CARD OF 'laws.FnExactRegOpen'. -/
def fnExactRegOpenUptoCard : Claim7 := { stood := { row := fnExactRegOpenUptoRow, standIns := [], harness := (true, "d488bfd9d040ea6a92f3d0e55ddd6bd5d32aefc50ff1a90491915327948d83d6"), looks := true }, kinds := [], alts := [], laidByText := true, laidKinds := [.sentinel, .sentinel], laidTests := true, laidLooks := .later }
def FnExactRegOpenUptoCardSaid : Prop := Claim7.holds Tryd.pinned (.plain (OpenSpec.upto fnExactRegOpenSpec)) fnExactRegOpenUptoCard

/-- THE SECOND FORM's CARD OF 'laws.FnExactRegClose'. -/
def fnExactRegCloseUptoCard : Claim7 := { stood := { row := fnExactRegCloseUptoRow, standIns := [], harness := (true, "d488bfd9d040ea6a92f3d0e55ddd6bd5d32aefc50ff1a90491915327948d83d6"), looks := true }, kinds := [], alts := [], laidByText := true, laidKinds := [.sentinel, .sentinel], laidTests := true, laidLooks := .later }
def FnExactRegCloseUptoCardSaid : Prop := Claim7.holds Tryd.pinned (.plain (OpenSpec.upto fnExactRegCloseSpec)) fnExactRegCloseUptoCard

/-- THE SECOND FORM's CARD OF 'laws.FnExactRegTrim'. -/
def fnExactRegTrimUptoCard : Claim7 := { stood := { row := fnExactRegTrimUptoRow, standIns := [], harness := (true, "d488bfd9d040ea6a92f3d0e55ddd6bd5d32aefc50ff1a90491915327948d83d6"), looks := true }, kinds := [], alts := [], laidByText := true, laidKinds := [.sentinel, .sentinel], laidTests := true, laidLooks := .later }
def FnExactRegTrimUptoCardSaid : Prop := Claim7.holds Tryd.pinned (.plain (OpenSpec.upto fnExactRegTrimSpec)) fnExactRegTrimUptoCard
end Rows
end Go.Proofs.YtognmmmplmideaaDoor
