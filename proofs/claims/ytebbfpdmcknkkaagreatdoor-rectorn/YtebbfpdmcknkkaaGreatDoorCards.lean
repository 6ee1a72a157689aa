/-
  DERIVED. GIVEN WITH THE SEED: THE CARDS: each row of YtebbfpdmcknkkaaGreatDoorRows.lean that lists a variable, with what it lists TIED to the program's text (the seventh form; the later family's looks); each row that meets fmt, with fmt's text TOLD by the authors' own Lean function (tested against real Go, not proved from fmt's source: count such statements apart). THE CARD IS WHAT COUNTS. Prove the row's statement (the work); the ties are given (YtebbfpdmcknkkaaGreatDoorTie.lean); close each card by the builder's one call (the guide's Derived/Test/ToyasCard.lean, 'card_holds'). Laid BY PROGRAM, IN A SANDBOX (cutbox-door.mjs). By AI agents, Wed Nov 11 2026. No macro, syntax, notation, axiom, sorry.
-/
import Derived.Test.YtebbfpdmcknkkaaGreatDoorRows
import GoSem.ClaimSeven
namespace Go.Proofs.YtebbfpdmcknkkaaGreatDoor
namespace Rows

/-- THE TIED CARD OF 'almonrylaw04.RecEncodes'. -/
def recEncodesCard : Claim7 := { stood := { row := recEncodesRow, standIns := [], harness := (true, "dbede89bcdf0b9b36dfee8fc3c4daa8a91a0cc0e2ce38a0fb6a463254454bbb0"), looks := false }, kinds := [], alts := [], laidByText := true, laidKinds := [.data, .pinned], laidTests := true, laidLooks := .later }
def RecEncodesCardSaid : Prop := Claim7.holds Tryz.pinned (.plain (OpenSpec.ofChange recEncodesSpec)) recEncodesCard

/-- THE TIED CARD OF 'almonrylaw04.RecDecodes'. -/
def recDecodesCard : Claim7 := { stood := { row := recDecodesRow, standIns := [], harness := (true, "dbede89bcdf0b9b36dfee8fc3c4daa8a91a0cc0e2ce38a0fb6a463254454bbb0"), looks := false }, kinds := [], alts := [], laidByText := true, laidKinds := [.data, .pinned], laidTests := true, laidLooks := .later }
def RecDecodesCardSaid : Prop := Claim7.holds Tryz.pinned (.plain (OpenSpec.ofChange recDecodesSpec)) recDecodesCard

/-- THE TIED CARD OF 'almonrylaw04.RecBack'. -/
def recBackCard : Claim7 := { stood := { row := recBackRow, standIns := [], harness := (true, "dbede89bcdf0b9b36dfee8fc3c4daa8a91a0cc0e2ce38a0fb6a463254454bbb0"), looks := false }, kinds := [], alts := [], laidByText := true, laidKinds := [.data, .pinned], laidTests := true, laidLooks := .later }
def RecBackCardSaid : Prop := Claim7.holds Tryz.pinned (.plain (OpenSpec.ofChange recBackSpec)) recBackCard

/-- THE TIED CARD OF 'almonrylaw04.RecThere'. -/
def recThereCard : Claim7 := { stood := { row := recThereRow, standIns := [], harness := (true, "dbede89bcdf0b9b36dfee8fc3c4daa8a91a0cc0e2ce38a0fb6a463254454bbb0"), looks := false }, kinds := [], alts := [], laidByText := true, laidKinds := [.data, .pinned], laidTests := true, laidLooks := .later }
def RecThereCardSaid : Prop := Claim7.holds Tryz.pinned (.plain (OpenSpec.ofChange recThereSpec)) recThereCard

/-- THE TIED CARD OF 'almonrylaw04.RecTorn'. -/
def recTornCard : Claim7 := { stood := { row := recTornRow, standIns := [], harness := (true, "dbede89bcdf0b9b36dfee8fc3c4daa8a91a0cc0e2ce38a0fb6a463254454bbb0"), looks := false }, kinds := [], alts := [], laidByText := true, laidKinds := [.data, .pinned], laidTests := true, laidLooks := .later }
def RecTornCardSaid : Prop := Claim7.holds Tryz.pinned (.plain (OpenSpec.ofChange recTornSpec)) recTornCard

/-- THE TIED CARD OF 'almonrylaw04.RecSame'. -/
def recSameCard : Claim7 := { stood := { row := recSameRow, standIns := [], harness := (true, "dbede89bcdf0b9b36dfee8fc3c4daa8a91a0cc0e2ce38a0fb6a463254454bbb0"), looks := false }, kinds := [], alts := [], laidByText := true, laidKinds := [.data, .pinned], laidTests := true, laidLooks := .later }
def RecSameCardSaid : Prop := Claim7.holds Tryz.pinned (.plain (OpenSpec.ofChange recSameSpec)) recSameCard

/-- THE SECOND FORM's CARD OF 'almonrylaw04.RecEncodes'. -/
def recEncodesUptoCard : Claim7 := { stood := { row := recEncodesUptoRow, standIns := [], harness := (true, "dbede89bcdf0b9b36dfee8fc3c4daa8a91a0cc0e2ce38a0fb6a463254454bbb0"), looks := false }, kinds := [], alts := [], laidByText := true, laidKinds := [.data, .pinned], laidTests := true, laidLooks := .later }
def RecEncodesUptoCardSaid : Prop := Claim7.holds Tryz.pinned (.plain (OpenSpec.upto recEncodesSpec)) recEncodesUptoCard

/-- THE SECOND FORM's CARD OF 'almonrylaw04.RecDecodes'. -/
def recDecodesUptoCard : Claim7 := { stood := { row := recDecodesUptoRow, standIns := [], harness := (true, "dbede89bcdf0b9b36dfee8fc3c4daa8a91a0cc0e2ce38a0fb6a463254454bbb0"), looks := false }, kinds := [], alts := [], laidByText := true, laidKinds := [.data, .pinned], laidTests := true, laidLooks := .later }
def RecDecodesUptoCardSaid : Prop := Claim7.holds Tryz.pinned (.plain (OpenSpec.upto recDecodesSpec)) recDecodesUptoCard

/-- THE SECOND FORM's CARD OF 'almonrylaw04.RecBack'. -/
def recBackUptoCard : Claim7 := { stood := { row := recBackUptoRow, standIns := [], harness := (true, "dbede89bcdf0b9b36dfee8fc3c4daa8a91a0cc0e2ce38a0fb6a463254454bbb0"), looks := false }, kinds := [], alts := [], laidByText := true, laidKinds := [.data, .pinned], laidTests := true, laidLooks := .later }
def RecBackUptoCardSaid : Prop := Claim7.holds Tryz.pinned (.plain (OpenSpec.upto recBackSpec)) recBackUptoCard

/-- THE SECOND FORM's CARD OF 'almonrylaw04.RecThere'. -/
def recThereUptoCard : Claim7 := { stood := { row := recThereUptoRow, standIns := [], harness := (true, "dbede89bcdf0b9b36dfee8fc3c4daa8a91a0cc0e2ce38a0fb6a463254454bbb0"), looks := false }, kinds := [], alts := [], laidByText := true, laidKinds := [.data, .pinned], laidTests := true, laidLooks := .later }
def RecThereUptoCardSaid : Prop := Claim7.holds Tryz.pinned (.plain (OpenSpec.upto recThereSpec)) recThereUptoCard

/-- THE SECOND FORM's CARD OF 'almonrylaw04.RecTorn'. -/
def recTornUptoCard : Claim7 := { stood := { row := recTornUptoRow, standIns := [], harness := (true, "dbede89bcdf0b9b36dfee8fc3c4daa8a91a0cc0e2ce38a0fb6a463254454bbb0"), looks := false }, kinds := [], alts := [], laidByText := true, laidKinds := [.data, .pinned], laidTests := true, laidLooks := .later }
def RecTornUptoCardSaid : Prop := Claim7.holds Tryz.pinned (.plain (OpenSpec.upto recTornSpec)) recTornUptoCard

/-- THE SECOND FORM's CARD OF 'almonrylaw04.RecSame'. -/
def recSameUptoCard : Claim7 := { stood := { row := recSameUptoRow, standIns := [], harness := (true, "dbede89bcdf0b9b36dfee8fc3c4daa8a91a0cc0e2ce38a0fb6a463254454bbb0"), looks := false }, kinds := [], alts := [], laidByText := true, laidKinds := [.data, .pinned], laidTests := true, laidLooks := .later }
def RecSameUptoCardSaid : Prop := Claim7.holds Tryz.pinned (.plain (OpenSpec.upto recSameSpec)) recSameUptoCard
end Rows
end Go.Proofs.YtebbfpdmcknkkaaGreatDoor
