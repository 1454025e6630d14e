/-
  DERIVED. GIVEN WITH THE SEED: THE CARDS: each row of YthndkkjgjhgdnaaDoorRows.lean that lists a variable, with what it lists TIED to the program's text (the seventh form; the later family's looks); each row that meets fmt, with fmt's text TOLD by the authors' own Lean function (tested against real Go, not proved from fmt's source: count such statements apart). THE CARD IS WHAT COUNTS. Prove the row's statement (the work); the ties are given (YthndkkjgjhgdnaaDoorTie.lean); close each card by the builder's one call (the guide's Derived/Test/ToyasCard.lean, 'card_holds'). Laid BY PROGRAM, IN A SANDBOX (cutbox-door.mjs). By AI agents, Wed Nov 11 2026. No macro, syntax, notation, axiom, sorry.
-/
import Derived.Test.YthndkkjgjhgdnaaDoorRows
import GoSem.ClaimSeven
namespace Go.Proofs.YthndkkjgjhgdnaaDoor
namespace Rows

/-- THE TIED CARD OF 'laws.FnConfigBytes'. -/
def fnConfigBytesCard : Claim7 := { stood := { row := fnConfigBytesRow, standIns := [], harness := (true, "505beec962f430b8686a6adfe38be7fa12761d386b6227452657ad31664db6c6"), looks := true }, kinds := [], alts := [], laidByText := true, laidKinds := [.handle], laidTests := true, laidLooks := .later }
def FnConfigBytesCardSaid : Prop := Claim7.holds Tryd.pinned (.plain (OpenSpec.ofChange fnConfigBytesSpec)) fnConfigBytesCard

/-- THE TIED CARD OF 'laws.FnReaderBytes'. -/
def fnReaderBytesCard : Claim7 := { stood := { row := fnReaderBytesRow, standIns := [], harness := (true, "505beec962f430b8686a6adfe38be7fa12761d386b6227452657ad31664db6c6"), looks := true }, kinds := [], alts := [], laidByText := true, laidKinds := [.handle], laidTests := true, laidLooks := .later }
def FnReaderBytesCardSaid : Prop := Claim7.holds Tryd.pinned (.plain (OpenSpec.ofChange fnReaderBytesSpec)) fnReaderBytesCard

/-- THE SECOND FORM's CARD OF 'laws.FnConfigBytes'. -/
def fnConfigBytesUptoCard : Claim7 := { stood := { row := fnConfigBytesUptoRow, standIns := [], harness := (true, "505beec962f430b8686a6adfe38be7fa12761d386b6227452657ad31664db6c6"), looks := true }, kinds := [], alts := [], laidByText := true, laidKinds := [.handle], laidTests := true, laidLooks := .later }
def FnConfigBytesUptoCardSaid : Prop := Claim7.holds Tryd.pinned (.plain (OpenSpec.upto fnConfigBytesSpec)) fnConfigBytesUptoCard

/-- THE SECOND FORM's CARD OF 'laws.FnReaderBytes'. -/
def fnReaderBytesUptoCard : Claim7 := { stood := { row := fnReaderBytesUptoRow, standIns := [], harness := (true, "505beec962f430b8686a6adfe38be7fa12761d386b6227452657ad31664db6c6"), looks := true }, kinds := [], alts := [], laidByText := true, laidKinds := [.handle], laidTests := true, laidLooks := .later }
def FnReaderBytesUptoCardSaid : Prop := Claim7.holds Tryd.pinned (.plain (OpenSpec.upto fnReaderBytesSpec)) fnReaderBytesUptoCard
end Rows
end Go.Proofs.YthndkkjgjhgdnaaDoor
