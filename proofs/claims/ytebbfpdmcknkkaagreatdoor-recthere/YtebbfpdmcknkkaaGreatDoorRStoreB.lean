/- A record stored whole, more. -/
import Derived.Test.YtebbfpdmcknkkaaGreatDoorRPt
namespace Go.Proofs.YtebbfpdmcknkkaaGreatDoor
open Go.RowKit

theorem there_kept {S : Nat → Prop} {w w' : World} {b : Nat} (h : w.there b 0 16) (ho : Only S w w') (hS : ¬ S b) : w'.there b 0 16 := fun j hj => by
  obtain ⟨h1, h2⟩ := h j hj
  obtain ⟨u, hu⟩ := Option.isSome_iff_exists.1 h1
  have hb := World.block_lt_of_cell? w _ hu
  exact ⟨by rw [ho.cell (p := ⟨b, 0 + j, none⟩) hb hS]; exact h1, by rw [ho.frozen (p := ⟨b, 0 + j, none⟩) hb hS]; exact h2⟩
theorem range_set (w : World) (b : Nat) (r : Rc) (L : Loc) (ht : w.there b 0 16) : (w.setCells b 0 (r.cl L)).rangeAt b 0 (r.cl L) := World.rangeAt_setCells_same w b 0 (r.cl L) ht
/-- A record was stored into block b; its cells. -/
structure Stor2 (w W : World) (b : Nat) (r : Rc) (L : Loc) : Prop where
  only : Only (fun k => k = b) w W
  range : W.rangeAt b 0 (r.cl L)
section
variable {ops : Array Oper} {rest : List Oper} {o : Oper} {a : Act} {w : World} {Q : Exit → Act → World → Prop}
theorem wpList_lay_rec (hg : o.guard = none) (x y : Operand) (hop : o.op = .store 28 x y) (b : Nat) (hx : a.eval x = .pointer (some ⟨b, 0, none⟩)) (r : Rc) (L : Loc) (hy : a.eval y = .agg (r.cells L)) (hc : w.there b 0 16)
    (h : ∀ W, Hid (Stor2 w W b r L) → wpList Tryz.prog ops Q rest (a.put o.dst undef) W) : wpList Tryz.prog ops Q (o :: rest) a w :=
  wpList_store_rec hg x y hop b hx r L hy hc (h _ ⟨only_setCells b (r.cl L) 0 w, range_set w b r L hc⟩)
end
theorem none_at (w : World) : RcAt w Rc.none Loc.none :=
  ⟨Zs.nil _ _ _, Zs.nil _ _ _, ⟨fun _ => True, Ims.nil _ _ _ _⟩, Prs.nil _ _ _, Prs.nil _ _ _, ⟨fun _ => rfl, Nat.le_refl _, Nat.zero_le _⟩, ⟨fun _ => rfl, Nat.le_refl _, Nat.zero_le _⟩, Nat.zero_le _, ⟨by decide, by decide⟩⟩
end Go.Proofs.YtebbfpdmcknkkaaGreatDoor
