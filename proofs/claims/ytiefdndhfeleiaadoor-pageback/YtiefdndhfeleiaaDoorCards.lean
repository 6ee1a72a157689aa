/-
  DERIVED. GIVEN WITH THE SEED: THE CARDS: each row of YtiefdndhfeleiaaDoorRows.lean that lists a variable, with what it lists TIED to the program's text (the seventh form; the later family's looks); each row that meets fmt, with fmt's text TOLD by the authors' own Lean function (tested against real Go, not proved from fmt's source: count such statements apart). THE CARD IS WHAT COUNTS. Prove the row's statement (the work); the ties are given (YtiefdndhfeleiaaDoorTie.lean); close each card by the builder's one call (the guide's Derived/Test/ToyasCard.lean, 'card_holds'). Laid BY PROGRAM, IN A SANDBOX (cutbox-door.mjs). By AI agents, Wed Nov 11 2026. No macro, syntax, notation, axiom, sorry.
-/
import Derived.Test.YtiefdndhfeleiaaDoorRows
import GoSem.ClaimSeven
namespace Go.Proofs.YtiefdndhfeleiaaDoor
namespace Rows

/-- THE TIED CARD OF 'almonrylaw03.PageSizes'. -/
def pageSizesCard : Claim7 := { stood := { row := pageSizesRow, standIns := [], harness := (true, "78e0e9ce1bd2449b74d1c67cb0f9ff3768a3c4ea8156f276207472145acfe376"), looks := false }, kinds := [], alts := [], laidByText := true, laidKinds := [.data, .pinned], laidTests := true, laidLooks := .later }
def PageSizesCardSaid : Prop := Claim7.holds Tryd.pinned (.plain (OpenSpec.ofChange pageSizesSpec)) pageSizesCard

/-- THE TIED CARD OF 'almonrylaw03.PageEncodes'. -/
def pageEncodesCard : Claim7 := { stood := { row := pageEncodesRow, standIns := [], harness := (true, "78e0e9ce1bd2449b74d1c67cb0f9ff3768a3c4ea8156f276207472145acfe376"), looks := false }, kinds := [], alts := [], laidByText := true, laidKinds := [.data, .pinned], laidTests := true, laidLooks := .later }
def PageEncodesCardSaid : Prop := Claim7.holds Tryd.pinned (.plain (OpenSpec.ofChange pageEncodesSpec)) pageEncodesCard

/-- THE TIED CARD OF 'almonrylaw03.PageDecodes'. -/
def pageDecodesCard : Claim7 := { stood := { row := pageDecodesRow, standIns := [], harness := (true, "78e0e9ce1bd2449b74d1c67cb0f9ff3768a3c4ea8156f276207472145acfe376"), looks := false }, kinds := [], alts := [], laidByText := true, laidKinds := [.data, .pinned], laidTests := true, laidLooks := .later }
def PageDecodesCardSaid : Prop := Claim7.holds Tryd.pinned (.plain (OpenSpec.ofChange pageDecodesSpec)) pageDecodesCard

/-- THE TIED CARD OF 'almonrylaw03.PageChanges'. -/
def pageChangesCard : Claim7 := { stood := { row := pageChangesRow, standIns := [], harness := (true, "78e0e9ce1bd2449b74d1c67cb0f9ff3768a3c4ea8156f276207472145acfe376"), looks := false }, kinds := [], alts := [], laidByText := true, laidKinds := [.data, .pinned], laidTests := true, laidLooks := .later }
def PageChangesCardSaid : Prop := Claim7.holds Tryd.pinned (.plain (OpenSpec.ofChange pageChangesSpec)) pageChangesCard

/-- THE TIED CARD OF 'almonrylaw03.PageSames'. -/
def pageSamesCard : Claim7 := { stood := { row := pageSamesRow, standIns := [], harness := (true, "78e0e9ce1bd2449b74d1c67cb0f9ff3768a3c4ea8156f276207472145acfe376"), looks := false }, kinds := [], alts := [], laidByText := true, laidKinds := [.data, .pinned], laidTests := true, laidLooks := .later }
def PageSamesCardSaid : Prop := Claim7.holds Tryd.pinned (.plain (OpenSpec.ofChange pageSamesSpec)) pageSamesCard

/-- THE TIED CARD OF 'almonrylaw03.PageBack'. -/
def pageBackCard : Claim7 := { stood := { row := pageBackRow, standIns := [], harness := (true, "78e0e9ce1bd2449b74d1c67cb0f9ff3768a3c4ea8156f276207472145acfe376"), looks := false }, kinds := [], alts := [], laidByText := true, laidKinds := [.data, .pinned], laidTests := true, laidLooks := .later }
def PageBackCardSaid : Prop := Claim7.holds Tryd.pinned (.plain (OpenSpec.ofChange pageBackSpec)) pageBackCard

/-- THE SECOND FORM's CARD OF 'almonrylaw03.PageSizes'. -/
def pageSizesUptoCard : Claim7 := { stood := { row := pageSizesUptoRow, standIns := [], harness := (true, "78e0e9ce1bd2449b74d1c67cb0f9ff3768a3c4ea8156f276207472145acfe376"), looks := false }, kinds := [], alts := [], laidByText := true, laidKinds := [.data, .pinned], laidTests := true, laidLooks := .later }
def PageSizesUptoCardSaid : Prop := Claim7.holds Tryd.pinned (.plain (OpenSpec.upto pageSizesSpec)) pageSizesUptoCard

/-- THE SECOND FORM's CARD OF 'almonrylaw03.PageEncodes'. -/
def pageEncodesUptoCard : Claim7 := { stood := { row := pageEncodesUptoRow, standIns := [], harness := (true, "78e0e9ce1bd2449b74d1c67cb0f9ff3768a3c4ea8156f276207472145acfe376"), looks := false }, kinds := [], alts := [], laidByText := true, laidKinds := [.data, .pinned], laidTests := true, laidLooks := .later }
def PageEncodesUptoCardSaid : Prop := Claim7.holds Tryd.pinned (.plain (OpenSpec.upto pageEncodesSpec)) pageEncodesUptoCard

/-- THE SECOND FORM's CARD OF 'almonrylaw03.PageDecodes'. -/
def pageDecodesUptoCard : Claim7 := { stood := { row := pageDecodesUptoRow, standIns := [], harness := (true, "78e0e9ce1bd2449b74d1c67cb0f9ff3768a3c4ea8156f276207472145acfe376"), looks := false }, kinds := [], alts := [], laidByText := true, laidKinds := [.data, .pinned], laidTests := true, laidLooks := .later }
def PageDecodesUptoCardSaid : Prop := Claim7.holds Tryd.pinned (.plain (OpenSpec.upto pageDecodesSpec)) pageDecodesUptoCard

/-- THE SECOND FORM's CARD OF 'almonrylaw03.PageChanges'. -/
def pageChangesUptoCard : Claim7 := { stood := { row := pageChangesUptoRow, standIns := [], harness := (true, "78e0e9ce1bd2449b74d1c67cb0f9ff3768a3c4ea8156f276207472145acfe376"), looks := false }, kinds := [], alts := [], laidByText := true, laidKinds := [.data, .pinned], laidTests := true, laidLooks := .later }
def PageChangesUptoCardSaid : Prop := Claim7.holds Tryd.pinned (.plain (OpenSpec.upto pageChangesSpec)) pageChangesUptoCard

/-- THE SECOND FORM's CARD OF 'almonrylaw03.PageSames'. -/
def pageSamesUptoCard : Claim7 := { stood := { row := pageSamesUptoRow, standIns := [], harness := (true, "78e0e9ce1bd2449b74d1c67cb0f9ff3768a3c4ea8156f276207472145acfe376"), looks := false }, kinds := [], alts := [], laidByText := true, laidKinds := [.data, .pinned], laidTests := true, laidLooks := .later }
def PageSamesUptoCardSaid : Prop := Claim7.holds Tryd.pinned (.plain (OpenSpec.upto pageSamesSpec)) pageSamesUptoCard

/-- THE SECOND FORM's CARD OF 'almonrylaw03.PageBack'. -/
def pageBackUptoCard : Claim7 := { stood := { row := pageBackUptoRow, standIns := [], harness := (true, "78e0e9ce1bd2449b74d1c67cb0f9ff3768a3c4ea8156f276207472145acfe376"), looks := false }, kinds := [], alts := [], laidByText := true, laidKinds := [.data, .pinned], laidTests := true, laidLooks := .later }
def PageBackUptoCardSaid : Prop := Claim7.holds Tryd.pinned (.plain (OpenSpec.upto pageBackSpec)) pageBackUptoCard
end Rows
end Go.Proofs.YtiefdndhfeleiaaDoor
