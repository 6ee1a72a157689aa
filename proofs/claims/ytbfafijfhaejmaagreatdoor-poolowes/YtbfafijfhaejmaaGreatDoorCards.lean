/-
  DERIVED. GIVEN WITH THE SEED: THE CARDS: each row of YtbfafijfhaejmaaGreatDoorRows.lean that lists a variable, with what it lists TIED to the program's text (the seventh form; the later family's looks); each row that meets fmt, with fmt's text TOLD by the authors' own Lean function (tested against real Go, not proved from fmt's source: count such statements apart). THE CARD IS WHAT COUNTS. Prove the row's statement (the work); the ties are given (YtbfafijfhaejmaaGreatDoorTie.lean); close each card by the builder's one call (the guide's Derived/Test/ToyasCard.lean, 'card_holds'). Laid BY PROGRAM, IN A SANDBOX (cutbox-door.mjs). By AI agents, Wed Nov 11 2026. No macro, syntax, notation, axiom, sorry.
-/
import Derived.Test.YtbfafijfhaejmaaGreatDoorRows
import GoSem.ClaimSeven
namespace Go.Proofs.YtbfafijfhaejmaaGreatDoor
namespace Rows

/-- THE TIED CARD OF 'almonrylaw06.PoolPlays'. -/
def poolPlaysCard : Claim7 := { stood := { row := poolPlaysRow, standIns := [], harness := (true, "ae86ce57a78866af62125af274d6e59a0574359c505115c8f9012445d8f77f4c"), looks := false }, kinds := [], alts := [], laidByText := true, laidKinds := [.data, .pinned], laidTests := true, laidLooks := .later }
def PoolPlaysCardSaid : Prop := Claim7.holds Tryz.pinned (.plain (OpenSpec.ofChange poolPlaysSpec)) poolPlaysCard

/-- THE TIED CARD OF 'almonrylaw06.PoolKeeps'. -/
def poolKeepsCard : Claim7 := { stood := { row := poolKeepsRow, standIns := [], harness := (true, "ae86ce57a78866af62125af274d6e59a0574359c505115c8f9012445d8f77f4c"), looks := false }, kinds := [], alts := [], laidByText := true, laidKinds := [.data, .pinned], laidTests := true, laidLooks := .later }
def PoolKeepsCardSaid : Prop := Claim7.holds Tryz.pinned (.plain (OpenSpec.ofChange poolKeepsSpec)) poolKeepsCard

/-- THE TIED CARD OF 'almonrylaw06.PoolOwes'. -/
def poolOwesCard : Claim7 := { stood := { row := poolOwesRow, standIns := [], harness := (true, "ae86ce57a78866af62125af274d6e59a0574359c505115c8f9012445d8f77f4c"), looks := false }, kinds := [], alts := [], laidByText := true, laidKinds := [.data, .pinned], laidTests := true, laidLooks := .later }
def PoolOwesCardSaid : Prop := Claim7.holds Tryz.pinned (.plain (OpenSpec.ofChange poolOwesSpec)) poolOwesCard

/-- THE TIED CARD OF 'almonrylaw06.PoolNil'. -/
def poolNilCard : Claim7 := { stood := { row := poolNilRow, standIns := [], harness := (true, "ae86ce57a78866af62125af274d6e59a0574359c505115c8f9012445d8f77f4c"), looks := false }, kinds := [], alts := [], laidByText := true, laidKinds := [.data, .pinned], laidTests := true, laidLooks := .later }
def PoolNilCardSaid : Prop := Claim7.holds Tryz.pinned (.plain (OpenSpec.ofChange poolNilSpec)) poolNilCard

/-- THE TIED CARD OF 'almonrylaw06.PoolPicks'. -/
def poolPicksCard : Claim7 := { stood := { row := poolPicksRow, standIns := [], harness := (true, "ae86ce57a78866af62125af274d6e59a0574359c505115c8f9012445d8f77f4c"), looks := false }, kinds := [], alts := [], laidByText := true, laidKinds := [.data, .pinned], laidTests := true, laidLooks := .later }
def PoolPicksCardSaid : Prop := Claim7.holds Tryz.pinned (.plain (OpenSpec.ofChange poolPicksSpec)) poolPicksCard

/-- THE SECOND FORM's CARD OF 'almonrylaw06.PoolPlays'. -/
def poolPlaysUptoCard : Claim7 := { stood := { row := poolPlaysUptoRow, standIns := [], harness := (true, "ae86ce57a78866af62125af274d6e59a0574359c505115c8f9012445d8f77f4c"), looks := false }, kinds := [], alts := [], laidByText := true, laidKinds := [.data, .pinned], laidTests := true, laidLooks := .later }
def PoolPlaysUptoCardSaid : Prop := Claim7.holds Tryz.pinned (.plain (OpenSpec.upto poolPlaysSpec)) poolPlaysUptoCard

/-- THE SECOND FORM's CARD OF 'almonrylaw06.PoolKeeps'. -/
def poolKeepsUptoCard : Claim7 := { stood := { row := poolKeepsUptoRow, standIns := [], harness := (true, "ae86ce57a78866af62125af274d6e59a0574359c505115c8f9012445d8f77f4c"), looks := false }, kinds := [], alts := [], laidByText := true, laidKinds := [.data, .pinned], laidTests := true, laidLooks := .later }
def PoolKeepsUptoCardSaid : Prop := Claim7.holds Tryz.pinned (.plain (OpenSpec.upto poolKeepsSpec)) poolKeepsUptoCard

/-- THE SECOND FORM's CARD OF 'almonrylaw06.PoolOwes'. -/
def poolOwesUptoCard : Claim7 := { stood := { row := poolOwesUptoRow, standIns := [], harness := (true, "ae86ce57a78866af62125af274d6e59a0574359c505115c8f9012445d8f77f4c"), looks := false }, kinds := [], alts := [], laidByText := true, laidKinds := [.data, .pinned], laidTests := true, laidLooks := .later }
def PoolOwesUptoCardSaid : Prop := Claim7.holds Tryz.pinned (.plain (OpenSpec.upto poolOwesSpec)) poolOwesUptoCard

/-- THE SECOND FORM's CARD OF 'almonrylaw06.PoolNil'. -/
def poolNilUptoCard : Claim7 := { stood := { row := poolNilUptoRow, standIns := [], harness := (true, "ae86ce57a78866af62125af274d6e59a0574359c505115c8f9012445d8f77f4c"), looks := false }, kinds := [], alts := [], laidByText := true, laidKinds := [.data, .pinned], laidTests := true, laidLooks := .later }
def PoolNilUptoCardSaid : Prop := Claim7.holds Tryz.pinned (.plain (OpenSpec.upto poolNilSpec)) poolNilUptoCard

/-- THE SECOND FORM's CARD OF 'almonrylaw06.PoolPicks'. -/
def poolPicksUptoCard : Claim7 := { stood := { row := poolPicksUptoRow, standIns := [], harness := (true, "ae86ce57a78866af62125af274d6e59a0574359c505115c8f9012445d8f77f4c"), looks := false }, kinds := [], alts := [], laidByText := true, laidKinds := [.data, .pinned], laidTests := true, laidLooks := .later }
def PoolPicksUptoCardSaid : Prop := Claim7.holds Tryz.pinned (.plain (OpenSpec.upto poolPicksSpec)) poolPicksUptoCard
end Rows
end Go.Proofs.YtbfafijfhaejmaaGreatDoor
