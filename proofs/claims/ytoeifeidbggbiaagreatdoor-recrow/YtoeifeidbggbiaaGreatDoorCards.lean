/-
  DERIVED. GIVEN WITH THE SEED: THE CARDS: each row of YtoeifeidbggbiaaGreatDoorRows.lean that lists a variable, with what it lists TIED to the program's text (the seventh form; the later family's looks); each row that meets fmt, with fmt's text TOLD by the authors' own Lean function (tested against real Go, not proved from fmt's source: count such statements apart). THE CARD IS WHAT COUNTS. Prove the row's statement (the work); the ties are given (YtoeifeidbggbiaaGreatDoorTie.lean); close each card by the builder's one call (the guide's Derived/Test/ToyasCard.lean, 'card_holds'). Laid BY PROGRAM, IN A SANDBOX (cutbox-door.mjs). By AI agents, Wed Nov 11 2026. No macro, syntax, notation, axiom, sorry.
-/
import Derived.Test.YtoeifeidbggbiaaGreatDoorRows
import GoSem.ClaimSeven
namespace Go.Proofs.YtoeifeidbggbiaaGreatDoor
namespace Rows

/-- THE TIED CARD OF 'almonrylaw04.RecEncodes'. -/
def recEncodesCard : Claim7 := { stood := { row := recEncodesRow, standIns := [], harness := (true, "171585f75e838e8e95f730a2e02766eb946ff9a2cc6f3b2565f54b407618be58"), looks := false }, kinds := [], alts := [], laidByText := true, laidKinds := [.data, .pinned], laidTests := true, laidLooks := .later }
def RecEncodesCardSaid : Prop := Claim7.holds Tryz.pinned (.plain (OpenSpec.ofChange recEncodesSpec)) recEncodesCard

/-- THE TIED CARD OF 'almonrylaw04.RecDecodes'. -/
def recDecodesCard : Claim7 := { stood := { row := recDecodesRow, standIns := [], harness := (true, "171585f75e838e8e95f730a2e02766eb946ff9a2cc6f3b2565f54b407618be58"), looks := false }, kinds := [], alts := [], laidByText := true, laidKinds := [.data, .pinned], laidTests := true, laidLooks := .later }
def RecDecodesCardSaid : Prop := Claim7.holds Tryz.pinned (.plain (OpenSpec.ofChange recDecodesSpec)) recDecodesCard

/-- THE TIED CARD OF 'almonrylaw04.RecSame'. -/
def recSameCard : Claim7 := { stood := { row := recSameRow, standIns := [], harness := (true, "171585f75e838e8e95f730a2e02766eb946ff9a2cc6f3b2565f54b407618be58"), looks := false }, kinds := [], alts := [], laidByText := true, laidKinds := [.data, .pinned], laidTests := true, laidLooks := .later }
def RecSameCardSaid : Prop := Claim7.holds Tryz.pinned (.plain (OpenSpec.ofChange recSameSpec)) recSameCard

/-- THE TIED CARD OF 'almonrylaw04.RecRow'. -/
def recRowCard : Claim7 := { stood := { row := recRowRow, standIns := [], harness := (true, "171585f75e838e8e95f730a2e02766eb946ff9a2cc6f3b2565f54b407618be58"), looks := false }, kinds := [], alts := [], laidByText := true, laidKinds := [.data, .pinned], laidTests := true, laidLooks := .later }
def RecRowCardSaid : Prop := Claim7.holds Tryz.pinned (.plain (OpenSpec.ofChange recRowSpec)) recRowCard

/-- THE SECOND FORM's CARD OF 'almonrylaw04.RecEncodes'. -/
def recEncodesUptoCard : Claim7 := { stood := { row := recEncodesUptoRow, standIns := [], harness := (true, "171585f75e838e8e95f730a2e02766eb946ff9a2cc6f3b2565f54b407618be58"), looks := false }, kinds := [], alts := [], laidByText := true, laidKinds := [.data, .pinned], laidTests := true, laidLooks := .later }
def RecEncodesUptoCardSaid : Prop := Claim7.holds Tryz.pinned (.plain (OpenSpec.upto recEncodesSpec)) recEncodesUptoCard

/-- THE SECOND FORM's CARD OF 'almonrylaw04.RecDecodes'. -/
def recDecodesUptoCard : Claim7 := { stood := { row := recDecodesUptoRow, standIns := [], harness := (true, "171585f75e838e8e95f730a2e02766eb946ff9a2cc6f3b2565f54b407618be58"), looks := false }, kinds := [], alts := [], laidByText := true, laidKinds := [.data, .pinned], laidTests := true, laidLooks := .later }
def RecDecodesUptoCardSaid : Prop := Claim7.holds Tryz.pinned (.plain (OpenSpec.upto recDecodesSpec)) recDecodesUptoCard

/-- THE SECOND FORM's CARD OF 'almonrylaw04.RecSame'. -/
def recSameUptoCard : Claim7 := { stood := { row := recSameUptoRow, standIns := [], harness := (true, "171585f75e838e8e95f730a2e02766eb946ff9a2cc6f3b2565f54b407618be58"), looks := false }, kinds := [], alts := [], laidByText := true, laidKinds := [.data, .pinned], laidTests := true, laidLooks := .later }
def RecSameUptoCardSaid : Prop := Claim7.holds Tryz.pinned (.plain (OpenSpec.upto recSameSpec)) recSameUptoCard

/-- THE SECOND FORM's CARD OF 'almonrylaw04.RecRow'. -/
def recRowUptoCard : Claim7 := { stood := { row := recRowUptoRow, standIns := [], harness := (true, "171585f75e838e8e95f730a2e02766eb946ff9a2cc6f3b2565f54b407618be58"), looks := false }, kinds := [], alts := [], laidByText := true, laidKinds := [.data, .pinned], laidTests := true, laidLooks := .later }
def RecRowUptoCardSaid : Prop := Claim7.holds Tryz.pinned (.plain (OpenSpec.upto recRowSpec)) recRowUptoCard
end Rows
end Go.Proofs.YtoeifeidbggbiaaGreatDoor
