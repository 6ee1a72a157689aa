/- A record stored whole. -/
import Derived.Test.YtbfafijfhaejmaaGreatDoorRPtA
import Derived.Deep.MidRow
import Derived.Laws.Tables
namespace Go.Proofs.YtbfafijfhaejmaaGreatDoor
open Go.RowKit

abbrev Loc.none : Loc := ⟨Option.none, Option.none, Option.none, Option.none, Option.none, 0, 0, 0, 0, 0, 0, 0, 0, 0, 0⟩
/-- A record's cells as a list. -/
def Rc.cl (r : Rc) (L : Loc) : List Value := (r.cells L).toList
theorem cl_len (r : Rc) (L : Loc) : (r.cl L).length = 16 := rfl
theorem Tryz.sizeRec : (Tryz.prog.info? 59).map (·.size) = some 16 := by kernel_rfl
theorem only_setCells (b : Nat) (vs : List Value) (o : Nat) (w : World) : Only (fun k => k = b) w (w.setCells b o vs) := by
  induction vs generalizing o w with
  | nil => exact Only.refl _ _
  | cons v r ih =>
    rw [World.setCells]
    exact (Only.setCell (S := fun k => k = b) w ⟨b, o, none⟩ v rfl).trans (ih (o + 1) _) (fun _ _ h => h)
section
variable {ops : Array Oper} {rest : List Oper} {o : Oper} {a : Act} {w : World} {Q : Exit → Act → World → Prop}
theorem wpList_store_rec (hg : o.guard = none) (x y : Operand) (hop : o.op = .store 59 x y) (b : Nat) (hx : a.eval x = .pointer (some ⟨b, 0, none⟩)) (r : Rc) (L : Loc) (hy : a.eval y = .agg (r.cells L)) (hc : w.there b 0 16)
    (h : wpList Tryz.prog ops Q rest (a.put o.dst undef) (w.setCells b 0 (r.cl L))) : wpList Tryz.prog ops Q (o :: rest) a w :=
  wpList_store_mid hg 59 x y hop b 0 (r.cells L) hx hy hc Tryz.sizeRec (by simp [Value.oneCell']) h
end
theorem run_load_rec (w : World) (b : Nat) (r : Rc) (L : Loc) (hr : w.rangeAt b 0 (r.cl L)) : (loadVar 59 ⟨b, 0, none⟩).run Tryz.prog w = .ok (.agg (r.cells L)) w :=
  run_loadVar_mid (P := Tryz.prog) w b 0 59 (r.cl L) _ hr Tryz.underlying59 rfl Tryz.sizeRec
theorem load_set_rec (w : World) (b : Nat) (r : Rc) (L : Loc) (ht : w.there b 0 16) : (loadVar 59 ⟨b, 0, none⟩).run Tryz.prog (w.setCells b 0 (r.cl L)) = .ok (.agg (r.cells L)) (w.setCells b 0 (r.cl L)) :=
  run_load_rec _ b r L (World.rangeAt_setCells_same w b 0 (r.cl L) ht)
section
variable {ops : Array Oper} {rest : List Oper} {o : Oper} {a : Act} {w : World} {Q : Exit → Act → World → Prop}
theorem wpList_load_rec (hg : o.guard = none) (x : Operand) (hop : o.op = .load 59 x) (b : Nat) (hx : a.eval x = .pointer (some ⟨b, 0, none⟩)) (r : Rc) (L : Loc) (hc : w.rangeAt b 0 (r.cl L))
    (h : wpList Tryz.prog ops Q rest (a.put o.dst (.agg (r.cells L))) w) : wpList Tryz.prog ops Q (o :: rest) a w :=
  wpList_load_mid hg 59 x hop b 0 hx (r.cl L) _ hc Tryz.underlying59 rfl Tryz.sizeRec h
end
theorem run_build_none (w : World) : (Instr.build 59 #[]).run Tryz.prog w = .ok (.agg (Rc.none.cells Loc.none)) w := run_build w 59 #[] _ (by kernel_rfl)
section
variable {ops : Array Oper} {rest : List Oper} {o : Oper} {a : Act} {w : World} {Q : Exit → Act → World → Prop}
theorem wpList_build_rec (hg : o.guard = none) (hop : o.op = .build 59 #[]) (h : wpList Tryz.prog ops Q rest (a.put o.dst (.agg (Rc.none.cells Loc.none))) w) : wpList Tryz.prog ops Q (o :: rest) a w := by
  refine wpList_plain hg fun K hK => ?_
  unfold Oper.wp execOp
  simp only [hop, Array.map_empty, Sem.run_bind, Sem.run_pure, Result.andThen_ok, run_build_none]
  exact hK _ _ h
end
/-- A record was stored into block b. -/
structure Stored (w W : World) (b : Nat) (r : Rc) (L : Loc) : Prop where
  only : Only (fun k => k = b) w W
  load : (loadVar 59 ⟨b, 0, none⟩).run Tryz.prog W = .ok (.agg (r.cells L)) W
section
variable {ops : Array Oper} {rest : List Oper} {o : Oper} {a : Act} {w : World} {Q : Exit → Act → World → Prop}
theorem wpList_put_rec (hg : o.guard = none) (x y : Operand) (hop : o.op = .store 59 x y) (b : Nat) (hx : a.eval x = .pointer (some ⟨b, 0, none⟩)) (r : Rc) (L : Loc) (hy : a.eval y = .agg (r.cells L)) (hc : w.there b 0 16)
    (h : ∀ W, Hid (Stored w W b r L) → wpList Tryz.prog ops Q rest (a.put o.dst undef) W) : wpList Tryz.prog ops Q (o :: rest) a w :=
  wpList_store_rec hg x y hop b hx r L hy hc (h _ ⟨only_setCells b (r.cl L) 0 w, load_set_rec w b r L hc⟩)
end
theorem range_new (w : World) (r : Rc) (L : Loc) : (w.alloc (.cells (r.cells L) 59)).rangeAt w.heap.size 0 (r.cl L) := fun j v hv => by
  rw [Nat.zero_add]
  simpa [Rc.cl] using hv
theorem range_kept {S : Nat → Prop} {w w' : World} {b : Nat} {r : Rc} {L : Loc} (h : w.rangeAt b 0 (r.cl L)) (ho : Only S w w') (hS : ¬ S b) : w'.rangeAt b 0 (r.cl L) := fun j v hv => by
  have h1 := h j v hv
  exact (ho.cell (p := ⟨b, 0 + j, none⟩) (World.block_lt_of_cell? w _ h1) hS).trans h1
theorem PtS.there {w W : World} {b0 rd bx : Nat} {vs : List Value} {s : St} (h : PtS w W b0 rd bx vs s) : W.there b0 0 16 := fun j hj => by
  rw [Nat.zero_add]
  have hj' : j < zs16.length := hj
  exact ⟨by rw [h.rcell j _ (List.getElem?_eq_getElem hj')]; rfl, h.rfz j⟩
theorem there_new (w : World) (r : Rc) (L : Loc) : (w.alloc (.cells (r.cells L) 59)).there w.heap.size 0 16 := fun j hj => by
  rw [Nat.zero_add]
  exact ⟨by simpa using hj, by simp⟩
end Go.Proofs.YtbfafijfhaejmaaGreatDoor
