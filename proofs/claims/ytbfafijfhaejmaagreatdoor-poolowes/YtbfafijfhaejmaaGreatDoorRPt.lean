/- What parts does. -/
import Derived.Test.YtbfafijfhaejmaaGreatDoorRStore
namespace Go.Proofs.YtbfafijfhaejmaaGreatDoor
open Go.RowKit

theorem results_rec {fn : Func} {p u : Tmp} (h : fn.results = #[.cell p 59, .tmp u]) {tmps : Array Value} {w : World} {b : Nat} {v : Value} (hp : tmps.getD p undef = .pointer (some ⟨b, 0, none⟩)) (hP : (loadVar 59 ⟨b, 0, none⟩).run Tryz.prog w = .ok v w) :
    (results fn tmps).run Tryz.prog w = .ok (.tuple #[v, tmps.getD u undef]) w := by
  have e : (asAddr (.pointer (some ⟨b, 0, none⟩))).run Tryz.prog w = .ok ⟨b, 0, none⟩ w := rfl
  rw [results_cell_tmp h, hp, e]
  simp only [Result.andThen, hP]
/-- What parts answers. -/
structure PrQ (w w' : World) (e : Ending) (l : List UInt8) : Prop where
  ex : ∃ q st, Steps l q st ∧ (∀ i ∈ q.images, i.body.lsn < 9223372036854775808) ∧ ((st = ([], 0) ∧ q.valid ∧ q.lay = l ∧ ∃ L, (∀ W', Only (fun k => k < w.heap.size) w' W' → RcAt W' q L) ∧ e = .returned (.tuple #[.agg (q.cells L), .bool true])) ∨ (¬ (st = ([], 0) ∧ q.valid ∧ q.lay = l) ∧ e = .returned (.tuple #[.agg (Rc.none.cells Loc.none), .bool false])))
  only : Only (fun _ => False) w w'
end Go.Proofs.YtbfafijfhaejmaaGreatDoor
