/-
  DERIVED. GIVEN WITH THE SEED: THE CARDS: each row of YthndkkjgjhgdnaaGreatDoorRows.lean that lists a variable, with what it lists TIED to the program's text (the seventh form; the later family's looks); each row that meets fmt, with fmt's text TOLD by the authors' own Lean function (tested against real Go, not proved from fmt's source: count such statements apart). THE CARD IS WHAT COUNTS. Prove the row's statement (the work); the ties are given (YthndkkjgjhgdnaaGreatDoorTie.lean); close each card by the builder's one call (the guide's Derived/Test/ToyasCard.lean, 'card_holds'). Laid BY PROGRAM, IN A SANDBOX (cutbox-door.mjs). By AI agents, Wed Nov 11 2026. No macro, syntax, notation, axiom, sorry.
-/
import Derived.Test.YthndkkjgjhgdnaaGreatDoorRows
import GoSem.ClaimSeven
namespace Go.Proofs.YthndkkjgjhgdnaaGreatDoor
namespace Rows

/-- THE TIED CARD OF 'laws.FnRegBytes'. -/
def fnRegBytesCard : Claim7 := { stood := { row := fnRegBytesRow, standIns := [], harness := (true, "8d3f2951a223e0000906892bba3246922072052cc618b2a3b07711f451aaf002"), looks := true }, kinds := [], alts := [], laidByText := true, laidKinds := [.handle], laidTests := true, laidLooks := .later }
def FnRegBytesCardSaid : Prop := Claim7.holds Tryz.pinned (.plain (OpenSpec.ofChange fnRegBytesSpec)) fnRegBytesCard

/-- THE TIED CARD OF 'laws.FnWriterBytes'. -/
def fnWriterBytesCard : Claim7 := { stood := { row := fnWriterBytesRow, standIns := [], harness := (true, "8d3f2951a223e0000906892bba3246922072052cc618b2a3b07711f451aaf002"), looks := true }, kinds := [], alts := [], laidByText := true, laidKinds := [.handle], laidTests := true, laidLooks := .later }
def FnWriterBytesCardSaid : Prop := Claim7.holds Tryz.pinned (.plain (OpenSpec.ofChange fnWriterBytesSpec)) fnWriterBytesCard

/-- THE SECOND FORM's CARD OF 'laws.FnRegBytes'. -/
def fnRegBytesUptoCard : Claim7 := { stood := { row := fnRegBytesUptoRow, standIns := [], harness := (true, "8d3f2951a223e0000906892bba3246922072052cc618b2a3b07711f451aaf002"), looks := true }, kinds := [], alts := [], laidByText := true, laidKinds := [.handle], laidTests := true, laidLooks := .later }
def FnRegBytesUptoCardSaid : Prop := Claim7.holds Tryz.pinned (.plain (OpenSpec.upto fnRegBytesSpec)) fnRegBytesUptoCard

/-- THE SECOND FORM's CARD OF 'laws.FnWriterBytes'. -/
def fnWriterBytesUptoCard : Claim7 := { stood := { row := fnWriterBytesUptoRow, standIns := [], harness := (true, "8d3f2951a223e0000906892bba3246922072052cc618b2a3b07711f451aaf002"), looks := true }, kinds := [], alts := [], laidByText := true, laidKinds := [.handle], laidTests := true, laidLooks := .later }
def FnWriterBytesUptoCardSaid : Prop := Claim7.holds Tryz.pinned (.plain (OpenSpec.upto fnWriterBytesSpec)) fnWriterBytesUptoCard
end Rows
end Go.Proofs.YthndkkjgjhgdnaaGreatDoor
