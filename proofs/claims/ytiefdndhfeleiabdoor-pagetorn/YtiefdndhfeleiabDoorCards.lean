/-
  DERIVED. GIVEN WITH THE SEED: THE CARDS: each row of YtiefdndhfeleiabDoorRows.lean that lists a variable, with what it lists TIED to the program's text (the seventh form; the later family's looks); each row that meets fmt, with fmt's text TOLD by the authors' own Lean function (tested against real Go, not proved from fmt's source: count such statements apart). THE CARD IS WHAT COUNTS. Prove the row's statement (the work); the ties are given (YtiefdndhfeleiabDoorTie.lean); close each card by the builder's one call (the guide's Derived/Test/ToyasCard.lean, 'card_holds'). Laid BY PROGRAM, IN A SANDBOX (cutbox-door.mjs). By AI agents, Wed Nov 11 2026. No macro, syntax, notation, axiom, sorry.
-/
import Derived.Test.YtiefdndhfeleiabDoorRows
import GoSem.ClaimSeven
namespace Go.Proofs.YtiefdndhfeleiabDoor
namespace Rows

/-- THE TIED CARD OF 'almonrylaw03.PageFits'. -/
def pageFitsCard : Claim7 := { stood := { row := pageFitsRow, standIns := [], harness := (true, "3708e1a0d9c27ca74403bd55f4e5c6736e63251e2c8e5099ae82f784510037c0"), looks := false }, kinds := [], alts := [], laidByText := true, laidKinds := [.data, .pinned], laidTests := true, laidLooks := .later }
def PageFitsCardSaid : Prop := Claim7.holds Tryd.pinned (.plain (OpenSpec.ofChange pageFitsSpec)) pageFitsCard

/-- THE TIED CARD OF 'almonrylaw03.PageTorn'. -/
def pageTornCard : Claim7 := { stood := { row := pageTornRow, standIns := [], harness := (true, "3708e1a0d9c27ca74403bd55f4e5c6736e63251e2c8e5099ae82f784510037c0"), looks := false }, kinds := [], alts := [], laidByText := true, laidKinds := [.data, .pinned], laidTests := true, laidLooks := .later }
def PageTornCardSaid : Prop := Claim7.holds Tryd.pinned (.plain (OpenSpec.ofChange pageTornSpec)) pageTornCard

/-- THE SECOND FORM's CARD OF 'almonrylaw03.PageFits'. -/
def pageFitsUptoCard : Claim7 := { stood := { row := pageFitsUptoRow, standIns := [], harness := (true, "3708e1a0d9c27ca74403bd55f4e5c6736e63251e2c8e5099ae82f784510037c0"), looks := false }, kinds := [], alts := [], laidByText := true, laidKinds := [.data, .pinned], laidTests := true, laidLooks := .later }
def PageFitsUptoCardSaid : Prop := Claim7.holds Tryd.pinned (.plain (OpenSpec.upto pageFitsSpec)) pageFitsUptoCard

/-- THE SECOND FORM's CARD OF 'almonrylaw03.PageTorn'. -/
def pageTornUptoCard : Claim7 := { stood := { row := pageTornUptoRow, standIns := [], harness := (true, "3708e1a0d9c27ca74403bd55f4e5c6736e63251e2c8e5099ae82f784510037c0"), looks := false }, kinds := [], alts := [], laidByText := true, laidKinds := [.data, .pinned], laidTests := true, laidLooks := .later }
def PageTornUptoCardSaid : Prop := Claim7.holds Tryd.pinned (.plain (OpenSpec.upto pageTornSpec)) pageTornUptoCard
end Rows
end Go.Proofs.YtiefdndhfeleiabDoor
