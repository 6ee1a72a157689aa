/-
  DERIVED. GIVEN WITH THE SEED: THE CARDS: each row of YtcbdpdkmkncffaaGreatDoorRows.lean that lists a variable, with what it lists TIED to the program's text (the seventh form; the later family's looks); each row that meets fmt, with fmt's text TOLD by the authors' own Lean function (tested against real Go, not proved from fmt's source: count such statements apart). THE CARD IS WHAT COUNTS. Prove the row's statement (the work); the ties are given (YtcbdpdkmkncffaaGreatDoorTie.lean); close each card by the builder's one call (the guide's Derived/Test/ToyasCard.lean, 'card_holds'). Laid BY PROGRAM, IN A SANDBOX (cutbox-door.mjs). By AI agents, Wed Nov 11 2026. No macro, syntax, notation, axiom, sorry.
-/
import Derived.Test.YtcbdpdkmkncffaaGreatDoorRows
import GoSem.ClaimSeven
namespace Go.Proofs.YtcbdpdkmkncffaaGreatDoor
namespace Rows

/-- THE TIED CARD OF 'almonrylaw05.WalRoom'. -/
def walRoomCard : Claim7 := { stood := { row := walRoomRow, standIns := [], harness := (true, "cd3d05f93d8f96c39663b23e54f10146fdae7b88bec5b4a970923b6adb9b4f36"), looks := false }, kinds := [], alts := [], laidByText := true, laidKinds := [.data, .pinned], laidTests := true, laidLooks := .later }
def WalRoomCardSaid : Prop := Claim7.holds Tryz.pinned (.plain (OpenSpec.ofChange walRoomSpec)) walRoomCard

/-- THE TIED CARD OF 'almonrylaw05.WalNil'. -/
def walNilCard : Claim7 := { stood := { row := walNilRow, standIns := [], harness := (true, "cd3d05f93d8f96c39663b23e54f10146fdae7b88bec5b4a970923b6adb9b4f36"), looks := false }, kinds := [], alts := [], laidByText := true, laidKinds := [.data, .pinned], laidTests := true, laidLooks := .later }
def WalNilCardSaid : Prop := Claim7.holds Tryz.pinned (.plain (OpenSpec.ofChange walNilSpec)) walNilCard

/-- THE TIED CARD OF 'almonrylaw05.WalGets'. -/
def walGetsCard : Claim7 := { stood := { row := walGetsRow, standIns := [], harness := (true, "cd3d05f93d8f96c39663b23e54f10146fdae7b88bec5b4a970923b6adb9b4f36"), looks := false }, kinds := [], alts := [], laidByText := true, laidKinds := [.data, .pinned], laidTests := true, laidLooks := .later }
def WalGetsCardSaid : Prop := Claim7.holds Tryz.pinned (.plain (OpenSpec.ofChange walGetsSpec)) walGetsCard

/-- THE SECOND FORM's CARD OF 'almonrylaw05.WalRoom'. -/
def walRoomUptoCard : Claim7 := { stood := { row := walRoomUptoRow, standIns := [], harness := (true, "cd3d05f93d8f96c39663b23e54f10146fdae7b88bec5b4a970923b6adb9b4f36"), looks := false }, kinds := [], alts := [], laidByText := true, laidKinds := [.data, .pinned], laidTests := true, laidLooks := .later }
def WalRoomUptoCardSaid : Prop := Claim7.holds Tryz.pinned (.plain (OpenSpec.upto walRoomSpec)) walRoomUptoCard

/-- THE SECOND FORM's CARD OF 'almonrylaw05.WalNil'. -/
def walNilUptoCard : Claim7 := { stood := { row := walNilUptoRow, standIns := [], harness := (true, "cd3d05f93d8f96c39663b23e54f10146fdae7b88bec5b4a970923b6adb9b4f36"), looks := false }, kinds := [], alts := [], laidByText := true, laidKinds := [.data, .pinned], laidTests := true, laidLooks := .later }
def WalNilUptoCardSaid : Prop := Claim7.holds Tryz.pinned (.plain (OpenSpec.upto walNilSpec)) walNilUptoCard

/-- THE SECOND FORM's CARD OF 'almonrylaw05.WalGets'. -/
def walGetsUptoCard : Claim7 := { stood := { row := walGetsUptoRow, standIns := [], harness := (true, "cd3d05f93d8f96c39663b23e54f10146fdae7b88bec5b4a970923b6adb9b4f36"), looks := false }, kinds := [], alts := [], laidByText := true, laidKinds := [.data, .pinned], laidTests := true, laidLooks := .later }
def WalGetsUptoCardSaid : Prop := Claim7.holds Tryz.pinned (.plain (OpenSpec.upto walGetsSpec)) walGetsUptoCard
end Rows
end Go.Proofs.YtcbdpdkmkncffaaGreatDoor
