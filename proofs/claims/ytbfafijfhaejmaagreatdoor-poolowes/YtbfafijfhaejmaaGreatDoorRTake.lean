/- What the takers do. -/
import Derived.Test.YtbfafijfhaejmaaGreatDoorRWalkA
import Derived.Test.YtbfafijfhaejmaaGreatDoorPDecX
namespace Go.Proofs.YtbfafijfhaejmaaGreatDoor
open Go.RowKit

/-- A Reader in block r. -/
def Rs (w : World) (r : Nat) (s : St) : Prop := Rd w r (str s.1) s.2
theorem Rs.kept {S : Nat → Prop} {w w' : World} {r : Nat} {s : St} (h : Rs w r s) (ho : Only S w w') (hr : ¬ S r) : Rs w' r s := Rd.kept h ho hr
/-- Two cells set. -/
theorem set_two {w : World} {b : Nat} {u0 u1 : Value} (c0 : w.cell? ⟨b, 0, none⟩ = some u0) (c1 : w.cell? ⟨b, 1, none⟩ = some u1) (v0 v1 : Value) : ((w.setCell ⟨b, 0, none⟩ v0).setCell ⟨b, 1, none⟩ v1).cell? ⟨b, 0, none⟩ = some v0 ∧ ((w.setCell ⟨b, 0, none⟩ v0).setCell ⟨b, 1, none⟩ v1).cell? ⟨b, 1, none⟩ = some v1 := by
  have oth : ∀ (W : World) (i j : Nat) (v x : Value), i ≠ j → W.cell? ⟨b, j, none⟩ = some x → (W.setCell ⟨b, i, none⟩ v).cell? ⟨b, j, none⟩ = some x := fun W i j v x hij hx => (World.cell?_setCell_other _ _ _ _ (by intro e; injection e with _ e2; exact hij e2)).trans hx
  exact ⟨oth _ 1 0 _ _ (by omega) (World.cell?_setCell_same _ _ _ c0), World.cell?_setCell_same _ _ _ (oth _ 0 1 v0 _ (by omega) c1)⟩
theorem only_two (w : World) (b : Nat) (v0 v1 : Value) : Only (fun k => k = b) w ((w.setCell ⟨b, 0, none⟩ v0).setCell ⟨b, 1, none⟩ v1) :=
  (Only.setCell (S := fun k => k = b) w ⟨b, 0, none⟩ v0 rfl).trans (Only.setCell (S := fun k => k = b) _ ⟨b, 1, none⟩ v1 rfl) (fun _ _ h => h)
theorem load_owed {w : World} {b : Nat} {v0 v1 : Value} (h0 : w.cell? ⟨b, 0, none⟩ = some v0) (h1 : w.cell? ⟨b, 1, none⟩ = some v1) : (loadVar 123 ⟨b, 0, none⟩).run Tryz.prog w = .ok (.agg #[v0, v1]) w := by simp [loadVar, go_sem, h0, h1]
theorem load_begun {w : World} {b : Nat} {v0 v1 : Value} (h0 : w.cell? ⟨b, 0, none⟩ = some v0) (h1 : w.cell? ⟨b, 1, none⟩ = some v1) : (loadVar 188 ⟨b, 0, none⟩).run Tryz.prog w = .ok (.agg #[v0, v1]) w := by simp [loadVar, go_sem, h0, h1]
/-- A result that lies in cells. -/
theorem results_cell1 {fn : Func} {p : Tmp} {ty : TypeId} (h : fn.results = #[.cell p ty]) {tmps : Array Value} {w : World} {b : Nat} {v : Value} (hp : tmps.getD p undef = .pointer (some ⟨b, 0, none⟩)) (hP : (loadVar ty ⟨b, 0, none⟩).run Tryz.prog w = .ok v w) :
    (results fn tmps).run Tryz.prog w = .ok v w := by
  have e : (asAddr (tmps.getD p undef)).run Tryz.prog w = .ok ⟨b, 0, none⟩ w := by rw [hp]; rfl
  have key : (results fn tmps).run Tryz.prog w = ((asAddr (tmps.getD p undef)).run Tryz.prog w).andThen fun a w₁ => (loadVar ty a).run Tryz.prog w₁ := by
    simp only [results, h]
    simp [Sem.run_bind, Result.andThen]
  rw [key, e]
  simp only [Result.andThen, hP]
end Go.Proofs.YtbfafijfhaejmaaGreatDoor
