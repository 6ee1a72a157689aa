/- A view and a version in a variable. -/
import Derived.Test.YtolfmodgkkjnbaaGreatSPure
namespace Go.Proofs.YtolfmodgkkjnbaaGreat
open Go.RowKit

/-- 11 cells in block b. -/
structure VB (w : World) (b : Nat) (v0 v1 v2 v3 v4 v5 v6 v7 v8 v9 v10 : Value) : Prop where
  c0 : w.cell? ⟨b, 0, none⟩ = some v0
  c1 : w.cell? ⟨b, 1, none⟩ = some v1
  c2 : w.cell? ⟨b, 2, none⟩ = some v2
  c3 : w.cell? ⟨b, 3, none⟩ = some v3
  c4 : w.cell? ⟨b, 4, none⟩ = some v4
  c5 : w.cell? ⟨b, 5, none⟩ = some v5
  c6 : w.cell? ⟨b, 6, none⟩ = some v6
  c7 : w.cell? ⟨b, 7, none⟩ = some v7
  c8 : w.cell? ⟨b, 8, none⟩ = some v8
  c9 : w.cell? ⟨b, 9, none⟩ = some v9
  c10 : w.cell? ⟨b, 10, none⟩ = some v10
  f0 : w.frozen? ⟨b, 0, none⟩ = false
  f1 : w.frozen? ⟨b, 1, none⟩ = false
  f2 : w.frozen? ⟨b, 2, none⟩ = false
  f3 : w.frozen? ⟨b, 3, none⟩ = false
  f4 : w.frozen? ⟨b, 4, none⟩ = false
  f5 : w.frozen? ⟨b, 5, none⟩ = false
  f6 : w.frozen? ⟨b, 6, none⟩ = false
  f7 : w.frozen? ⟨b, 7, none⟩ = false
  f8 : w.frozen? ⟨b, 8, none⟩ = false
  f9 : w.frozen? ⟨b, 9, none⟩ = false
  f10 : w.frozen? ⟨b, 10, none⟩ = false
  lt : b < w.heap.size
theorem VB.kept {S : Nat → Prop} {w w' : World} {b : Nat} {v0 v1 v2 v3 v4 v5 v6 v7 v8 v9 v10 : Value} (h : VB w b v0 v1 v2 v3 v4 v5 v6 v7 v8 v9 v10) (ho : Only S w w') (hS : ¬ S b) : VB w' b v0 v1 v2 v3 v4 v5 v6 v7 v8 v9 v10 :=
  ⟨(ho.cell (p := ⟨b, 0, none⟩) h.lt hS).trans h.c0, (ho.cell (p := ⟨b, 1, none⟩) h.lt hS).trans h.c1, (ho.cell (p := ⟨b, 2, none⟩) h.lt hS).trans h.c2, (ho.cell (p := ⟨b, 3, none⟩) h.lt hS).trans h.c3, (ho.cell (p := ⟨b, 4, none⟩) h.lt hS).trans h.c4, (ho.cell (p := ⟨b, 5, none⟩) h.lt hS).trans h.c5, (ho.cell (p := ⟨b, 6, none⟩) h.lt hS).trans h.c6, (ho.cell (p := ⟨b, 7, none⟩) h.lt hS).trans h.c7, (ho.cell (p := ⟨b, 8, none⟩) h.lt hS).trans h.c8, (ho.cell (p := ⟨b, 9, none⟩) h.lt hS).trans h.c9, (ho.cell (p := ⟨b, 10, none⟩) h.lt hS).trans h.c10,
   (ho.frozen (p := ⟨b, 0, none⟩) h.lt hS).trans h.f0, (ho.frozen (p := ⟨b, 1, none⟩) h.lt hS).trans h.f1, (ho.frozen (p := ⟨b, 2, none⟩) h.lt hS).trans h.f2, (ho.frozen (p := ⟨b, 3, none⟩) h.lt hS).trans h.f3, (ho.frozen (p := ⟨b, 4, none⟩) h.lt hS).trans h.f4, (ho.frozen (p := ⟨b, 5, none⟩) h.lt hS).trans h.f5, (ho.frozen (p := ⟨b, 6, none⟩) h.lt hS).trans h.f6, (ho.frozen (p := ⟨b, 7, none⟩) h.lt hS).trans h.f7, (ho.frozen (p := ⟨b, 8, none⟩) h.lt hS).trans h.f8, (ho.frozen (p := ⟨b, 9, none⟩) h.lt hS).trans h.f9, (ho.frozen (p := ⟨b, 10, none⟩) h.lt hS).trans h.f10, Nat.lt_of_lt_of_le h.lt ho.size⟩
theorem VB.more {w w' : World} {b : Nat} {v0 v1 v2 v3 v4 v5 v6 v7 v8 v9 v10 : Value} (h : VB w b v0 v1 v2 v3 v4 v5 v6 v7 v8 v9 v10) (ho : Only (fun _ => False) w w') : VB w' b v0 v1 v2 v3 v4 v5 v6 v7 v8 v9 v10 := h.kept ho (fun h => h)
theorem VB.new (w : World) (v0 v1 v2 v3 v4 v5 v6 v7 v8 v9 v10 : Value) : VB (w.alloc (.cells #[v0, v1, v2, v3, v4, v5, v6, v7, v8, v9, v10] 32)) w.heap.size v0 v1 v2 v3 v4 v5 v6 v7 v8 v9 v10 :=
  ⟨by simp, by simp, by simp, by simp, by simp, by simp, by simp, by simp, by simp, by simp, by simp, by simp, by simp, by simp, by simp, by simp, by simp, by simp, by simp, by simp, by simp, by simp, by simp⟩
theorem VB.setC {w : World} {b : Nat} {v0 v1 v2 v3 v4 v5 v6 v7 v8 v9 v10 : Value} (h : VB w b v0 v1 v2 v3 v4 v5 v6 v7 v8 v9 v10) {k : Nat} (u : Value) : VB (w.setCell ⟨b, k, none⟩ u) b (if k = 0 then u else v0) (if k = 1 then u else v1) (if k = 2 then u else v2) (if k = 3 then u else v3) (if k = 4 then u else v4) (if k = 5 then u else v5) (if k = 6 then u else v6) (if k = 7 then u else v7) (if k = 8 then u else v8) (if k = 9 then u else v9) (if k = 10 then u else v10) := by
  have cl : ∀ (i : Nat) (v : Value), w.cell? ⟨b, i, none⟩ = some v → (w.setCell ⟨b, k, none⟩ u).cell? ⟨b, i, none⟩ = some (if k = i then u else v) := fun i v hv => by
    by_cases e : k = i
    · subst e; rw [if_pos rfl]; exact World.cell?_setCell_same _ _ _ hv
    · rw [if_neg e]; exact (World.cell?_setCell_other _ _ _ _ (by intro e2; injection e2 with _ e3; exact e e3)).trans hv
  exact ⟨cl 0 _ h.c0, cl 1 _ h.c1, cl 2 _ h.c2, cl 3 _ h.c3, cl 4 _ h.c4, cl 5 _ h.c5, cl 6 _ h.c6, cl 7 _ h.c7, cl 8 _ h.c8, cl 9 _ h.c9, cl 10 _ h.c10, by simpa using h.f0, by simpa using h.f1, by simpa using h.f2, by simpa using h.f3, by simpa using h.f4, by simpa using h.f5, by simpa using h.f6, by simpa using h.f7, by simpa using h.f8, by simpa using h.f9, by simpa using h.f10, by simpa using h.lt⟩
/-- 5 cells in block b. -/
structure TB (w : World) (b : Nat) (v0 v1 v2 v3 v4 : Value) : Prop where
  c0 : w.cell? ⟨b, 0, none⟩ = some v0
  c1 : w.cell? ⟨b, 1, none⟩ = some v1
  c2 : w.cell? ⟨b, 2, none⟩ = some v2
  c3 : w.cell? ⟨b, 3, none⟩ = some v3
  c4 : w.cell? ⟨b, 4, none⟩ = some v4
  f0 : w.frozen? ⟨b, 0, none⟩ = false
  f1 : w.frozen? ⟨b, 1, none⟩ = false
  f2 : w.frozen? ⟨b, 2, none⟩ = false
  f3 : w.frozen? ⟨b, 3, none⟩ = false
  f4 : w.frozen? ⟨b, 4, none⟩ = false
  lt : b < w.heap.size
theorem TB.kept {S : Nat → Prop} {w w' : World} {b : Nat} {v0 v1 v2 v3 v4 : Value} (h : TB w b v0 v1 v2 v3 v4) (ho : Only S w w') (hS : ¬ S b) : TB w' b v0 v1 v2 v3 v4 :=
  ⟨(ho.cell (p := ⟨b, 0, none⟩) h.lt hS).trans h.c0, (ho.cell (p := ⟨b, 1, none⟩) h.lt hS).trans h.c1, (ho.cell (p := ⟨b, 2, none⟩) h.lt hS).trans h.c2, (ho.cell (p := ⟨b, 3, none⟩) h.lt hS).trans h.c3, (ho.cell (p := ⟨b, 4, none⟩) h.lt hS).trans h.c4,
   (ho.frozen (p := ⟨b, 0, none⟩) h.lt hS).trans h.f0, (ho.frozen (p := ⟨b, 1, none⟩) h.lt hS).trans h.f1, (ho.frozen (p := ⟨b, 2, none⟩) h.lt hS).trans h.f2, (ho.frozen (p := ⟨b, 3, none⟩) h.lt hS).trans h.f3, (ho.frozen (p := ⟨b, 4, none⟩) h.lt hS).trans h.f4, Nat.lt_of_lt_of_le h.lt ho.size⟩
theorem TB.more {w w' : World} {b : Nat} {v0 v1 v2 v3 v4 : Value} (h : TB w b v0 v1 v2 v3 v4) (ho : Only (fun _ => False) w w') : TB w' b v0 v1 v2 v3 v4 := h.kept ho (fun h => h)
theorem TB.new (w : World) (v0 v1 v2 v3 v4 : Value) : TB (w.alloc (.cells #[v0, v1, v2, v3, v4] 34)) w.heap.size v0 v1 v2 v3 v4 :=
  ⟨by simp, by simp, by simp, by simp, by simp, by simp, by simp, by simp, by simp, by simp, by simp⟩
theorem TB.setC {w : World} {b : Nat} {v0 v1 v2 v3 v4 : Value} (h : TB w b v0 v1 v2 v3 v4) {k : Nat} (u : Value) : TB (w.setCell ⟨b, k, none⟩ u) b (if k = 0 then u else v0) (if k = 1 then u else v1) (if k = 2 then u else v2) (if k = 3 then u else v3) (if k = 4 then u else v4) := by
  have cl : ∀ (i : Nat) (v : Value), w.cell? ⟨b, i, none⟩ = some v → (w.setCell ⟨b, k, none⟩ u).cell? ⟨b, i, none⟩ = some (if k = i then u else v) := fun i v hv => by
    by_cases e : k = i
    · subst e; rw [if_pos rfl]; exact World.cell?_setCell_same _ _ _ hv
    · rw [if_neg e]; exact (World.cell?_setCell_other _ _ _ _ (by intro e2; injection e2 with _ e3; exact e e3)).trans hv
  exact ⟨cl 0 _ h.c0, cl 1 _ h.c1, cl 2 _ h.c2, cl 3 _ h.c3, cl 4 _ h.c4, by simpa using h.f0, by simpa using h.f1, by simpa using h.f2, by simpa using h.f3, by simpa using h.f4, by simpa using h.lt⟩
theorem quiet_only {f : Nat} {a : Array Value} {w : World} {r : Ending} (h : Calls Tryz.prog f a w fun e w' => e = r ∧ w' = w) : Calls Tryz.prog f a w fun e w' => e = r ∧ Only (fun _ => False) w w' :=
  h.mono (fun e w' ⟨h1, h2⟩ => ⟨h1, by rw [h2]; exact Only.refl _ _⟩)
theorem four {z : Int} (h : 0 ≤ z) (k : z < 4) : z = 0 ∨ z = 1 ∨ z = 2 ∨ z = 3 := by omega
end Go.Proofs.YtolfmodgkkjnbaaGreat
