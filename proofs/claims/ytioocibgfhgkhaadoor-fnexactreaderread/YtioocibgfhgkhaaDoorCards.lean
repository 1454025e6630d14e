/-
  DERIVED. GIVEN WITH THE SEED: THE CARDS: each row of YtioocibgfhgkhaaDoorRows.lean that lists a variable, with what it lists TIED to the program's text (the seventh form; the later family's looks); each row that meets fmt, with fmt's text TOLD by the authors' own Lean function (tested against real Go, not proved from fmt's source: count such statements apart). THE CARD IS WHAT COUNTS. Prove the row's statement (the work); the ties are given (YtioocibgfhgkhaaDoorTie.lean); close each card by the builder's one call (the guide's Derived/Test/ToyasCard.lean, 'card_holds'). Laid BY PROGRAM, IN A SANDBOX (cutbox-door.mjs). By AI agents, Wed Nov 11 2026. No macro, syntax, notation, axiom, sorry.
-/
import Derived.Test.YtioocibgfhgkhaaDoorRows
import GoSem.ClaimSeven
namespace Go.Proofs.YtioocibgfhgkhaaDoor
namespace Rows

/-- THE TIED CARD OF 'laws.FnExactConfigRead'. -/
def fnExactConfigReadCard : Claim7 := { stood := { row := fnExactConfigReadRow, standIns := [], harness := (true, "503666bc575b940045da31f4fdc88e779a0bd5beda3ff93c4cbe80d64e6c17ce"), looks := true }, kinds := [], alts := [], laidByText := true, laidKinds := [.handle], laidTests := true, laidLooks := .later }
def FnExactConfigReadCardSaid : Prop := Claim7.holds Tryd.pinned (.plain (OpenSpec.ofChange fnExactConfigReadSpec)) fnExactConfigReadCard

/-- THE TIED CARD OF 'laws.FnExactReaderRead'. -/
def fnExactReaderReadCard : Claim7 := { stood := { row := fnExactReaderReadRow, standIns := [], harness := (true, "503666bc575b940045da31f4fdc88e779a0bd5beda3ff93c4cbe80d64e6c17ce"), looks := true }, kinds := [], alts := [], laidByText := true, laidKinds := [.handle], laidTests := true, laidLooks := .later }
def FnExactReaderReadCardSaid : Prop := Claim7.holds Tryd.pinned (.plain (OpenSpec.ofChange fnExactReaderReadSpec)) fnExactReaderReadCard

/-- THE SECOND FORM's CARD OF 'laws.FnExactConfigRead'. -/
def fnExactConfigReadUptoCard : Claim7 := { stood := { row := fnExactConfigReadUptoRow, standIns := [], harness := (true, "503666bc575b940045da31f4fdc88e779a0bd5beda3ff93c4cbe80d64e6c17ce"), looks := true }, kinds := [], alts := [], laidByText := true, laidKinds := [.handle], laidTests := true, laidLooks := .later }
def FnExactConfigReadUptoCardSaid : Prop := Claim7.holds Tryd.pinned (.plain (OpenSpec.upto fnExactConfigReadSpec)) fnExactConfigReadUptoCard

/-- THE SECOND FORM's CARD OF 'laws.FnExactReaderRead'. -/
def fnExactReaderReadUptoCard : Claim7 := { stood := { row := fnExactReaderReadUptoRow, standIns := [], harness := (true, "503666bc575b940045da31f4fdc88e779a0bd5beda3ff93c4cbe80d64e6c17ce"), looks := true }, kinds := [], alts := [], laidByText := true, laidKinds := [.handle], laidTests := true, laidLooks := .later }
def FnExactReaderReadUptoCardSaid : Prop := Claim7.holds Tryd.pinned (.plain (OpenSpec.upto fnExactReaderReadSpec)) fnExactReaderReadUptoCard
end Rows
end Go.Proofs.YtioocibgfhgkhaaDoor
