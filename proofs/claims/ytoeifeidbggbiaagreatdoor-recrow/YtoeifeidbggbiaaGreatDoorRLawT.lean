/- Walk of RecThere. -/
import Derived.Test.YtoeifeidbggbiaaGreatDoorRAwake
namespace Go.Proofs.YtoeifeidbggbiaaGreatDoor
open Go.RowKit

section
variable {ops : Array Oper} {rest : List Oper} {o : Oper} {a : Act} {w : World} {Q : Exit → Act → World → Prop}
theorem wpList_loadg_rec (hw : Region.wanted o (yielded ops a.tmps) = true) (x : Operand) (hop : o.op = .load 28 x) (b : Nat) (hx : a.eval x = .pointer (some ⟨b, 0, none⟩)) (r : Rc) (L : Loc) (hc : w.rangeAt b 0 (r.cl L))
    (h : wpList Tryz.prog ops Q rest (a.put o.dst (.agg (r.cells L))) w) : wpList Tryz.prog ops Q (o :: rest) a w :=
  BigFrame.wpList_want hw fun _ hK => wp_load_mid 28 x hop b 0 hx (r.cl L) _ hc Tryz.underlying28 rfl Tryz.sizeRec (hK _ _ h)
end
end Go.Proofs.YtoeifeidbggbiaaGreatDoor
