/- A record stored whole. -/
import Derived.Test.YtebijheonkagfaaGreatDoorKRe
import Derived.Test.YtebijheonkagfaaGreatDoorKRd
import Derived.Deep.MidRow
import Derived.Laws.Tables

namespace Go.Proofs.YtebijheonkagfaaGreatDoor
open Go.RowKit
abbrev Loc.none : Loc := ⟨Option.none, Option.none, Option.none, Option.none, Option.none, 0, 0, 0, 0, 0, 0, 0, 0, 0, 0⟩
def Rc.cl (r : Rc) (L : Loc) : List Value := (r.cells L).toList
theorem Tryz.sizeRec : (Tryz.prog.info? 59).map (·.size) = some 16 := by kernel_rfl
theorem only_setCells (b : Nat) (vs : List Value) (o : Nat) (w : World) : Only (fun k => k = b) w (w.setCells b o vs) := by
  induction vs generalizing o w with
  | nil => exact Only.refl _ _
  | cons v r ih =>
    rw [World.setCells]
    exact (Only.setCell (S := fun k => k = b) w ⟨b, o, none⟩ v rfl).trans (ih (o + 1) _) (fun _ _ h => h)
section
variable {ops : Array Oper} {rest : List Oper} {o : Oper} {a : Act} {w : World} {Q : Exit → Act → World → Prop}
theorem wpList_store_rec (hg : o.guard = none) (x y : Operand) (hop : o.op = .store 59 x y) (b : Nat) (hx : a.eval x = .pointer (some ⟨b, 0, none⟩)) (r : Rc) (L : Loc) (hy : a.eval y = .agg (r.cells L)) (hc : w.there b 0 16)
    (h : wpList Tryz.prog ops Q rest (a.put o.dst undef) (w.setCells b 0 (r.cl L))) : wpList Tryz.prog ops Q (o :: rest) a w :=
  wpList_store_mid hg 59 x y hop b 0 (r.cells L) hx hy hc Tryz.sizeRec (by simp [Value.oneCell']) h
end
theorem run_load_rec (w : World) (b : Nat) (r : Rc) (L : Loc) (hr : w.rangeAt b 0 (r.cl L)) : (loadVar 59 ⟨b, 0, none⟩).run Tryz.prog w = .ok (.agg (r.cells L)) w :=
  run_loadVar_mid (P := Tryz.prog) w b 0 59 (r.cl L) _ hr Tryz.underlying59 rfl Tryz.sizeRec
theorem load_set_rec (w : World) (b : Nat) (r : Rc) (L : Loc) (ht : w.there b 0 16) : (loadVar 59 ⟨b, 0, none⟩).run Tryz.prog (w.setCells b 0 (r.cl L)) = .ok (.agg (r.cells L)) (w.setCells b 0 (r.cl L)) :=
  run_load_rec _ b r L (World.rangeAt_setCells_same w b 0 (r.cl L) ht)
section
variable {ops : Array Oper} {rest : List Oper} {o : Oper} {a : Act} {w : World} {Q : Exit → Act → World → Prop}
end
section
variable {ops : Array Oper} {rest : List Oper} {o : Oper} {a : Act} {w : World} {Q : Exit → Act → World → Prop}
end
structure Stored (w W : World) (b : Nat) (r : Rc) (L : Loc) : Prop where
  only : Only (fun k => k = b) w W
  load : (loadVar 59 ⟨b, 0, none⟩).run Tryz.prog W = .ok (.agg (r.cells L)) W
section
variable {ops : Array Oper} {rest : List Oper} {o : Oper} {a : Act} {w : World} {Q : Exit → Act → World → Prop}
theorem wpList_put_rec (hg : o.guard = none) (x y : Operand) (hop : o.op = .store 59 x y) (b : Nat) (hx : a.eval x = .pointer (some ⟨b, 0, none⟩)) (r : Rc) (L : Loc) (hy : a.eval y = .agg (r.cells L)) (hc : w.there b 0 16)
    (h : ∀ W, Hid (Stored w W b r L) → wpList Tryz.prog ops Q rest (a.put o.dst undef) W) : wpList Tryz.prog ops Q (o :: rest) a w :=
  wpList_store_rec hg x y hop b hx r L hy hc (h _ ⟨only_setCells b (r.cl L) 0 w, load_set_rec w b r L hc⟩)
end
theorem there_new (w : World) (r : Rc) (L : Loc) : (w.alloc (.cells (r.cells L) 59)).there w.heap.size 0 16 := fun j hj => by
  rw [Nat.zero_add]
  exact ⟨by simpa using hj, by simp⟩
end Go.Proofs.YtebijheonkagfaaGreatDoor
