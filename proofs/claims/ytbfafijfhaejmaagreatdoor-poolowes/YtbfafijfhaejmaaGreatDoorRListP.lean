/- What takeList does with pairs. -/
import Derived.Test.YtbfafijfhaejmaaGreatDoorRList
namespace Go.Proofs.YtbfafijfhaejmaaGreatDoor
open Go.RowKit

theorem Tryz.infoOwed : (Tryz.prog.info? 123).map (fun i => (i.zero, i.size, i.bytes)) = some (some (.agg #[.int .i64 0, .int .i64 0]), 2, 16) := by kernel_rfl
theorem append_owed (w : World) (ty : TypeId) (base : Nat) (v : Value) (l : List (Int × Int)) (h : w.ownsRow base 123 2 v l.length (l.flatMap prc)) (z : Int × Int) (hroom : l.length ≤ 100000) (hbase : base ≤ w.heap.size) :
    ∃ v' w', (Builtin.append_ #[56, 56] ty #[v, .slice (some ⟨w.heap.size, 0, none⟩) 1 1]).run Tryz.prog (w.alloc (.cells #[.int .i64 z.1, .int .i64 z.2] 123)) = .ok v' w' ∧ w'.ownsRow base 123 2 v' (l ++ [z]).length ((l ++ [z]).flatMap prc) ∧ Only (fun k => base ≤ k) w w' := by
  obtain ⟨i0, hi, hz0, hz1, hz2⟩ := info_parts Tryz.infoOwed
  have h' := own_kept h (onlyA w (.cells #[.int .i64 z.1, .int .i64 z.2] 123)) (fun _ _ h => h)
  obtain ⟨v', w', hr, h2, h3, _, _⟩ := run_append_own_at (P := Tryz.prog) _ base 56 ty 123 i0 (.agg #[.int .i64 0, .int .i64 0]) 2 16 Tryz.underlying56 hi hz0 hz1 hz2 rfl (by decide) v l.length _ h' ⟨w.heap.size, 0, none⟩ 1 1 (prc z) rfl
    (fun j u hu => by
      match j, hu with
      | 0, hu => simp [prc] at hu; rw [← hu, add_at]; simp
      | 1, hu => simp [prc] at hu; rw [← hu, add_at]; simp) (by intro u hu; simp [prc] at hu; rcases hu with rfl | rfl <;> rfl) (by unfold maxLen; omega) (by omega) (by simp; omega)
  refine ⟨v', w', hr, ?_, (Only.alloc (fun k => base ≤ k) w _).trans (Only.grown (S := fun k => base ≤ k) h3 (fun k hk => (World.ownsRow.lt h' k hk).1)) (fun _ _ h => h)⟩
  have e : l.length + 1 = (l ++ [z]).length := by simp
  have e2 : (l ++ [z]).flatMap prc = l.flatMap prc ++ prc z := by simp
  rw [e2, ← e]
  exact h2
theorem Tryz.infoBegun : (Tryz.prog.info? 188).map (fun i => (i.zero, i.size, i.bytes)) = some (some (.agg #[.int .i64 0, .int .i64 0]), 2, 16) := by kernel_rfl
theorem append_begun (w : World) (ty : TypeId) (base : Nat) (v : Value) (l : List (Int × Int)) (h : w.ownsRow base 188 2 v l.length (l.flatMap prc)) (z : Int × Int) (hroom : l.length ≤ 100000) (hbase : base ≤ w.heap.size) :
    ∃ v' w', (Builtin.append_ #[57, 57] ty #[v, .slice (some ⟨w.heap.size, 0, none⟩) 1 1]).run Tryz.prog (w.alloc (.cells #[.int .i64 z.1, .int .i64 z.2] 188)) = .ok v' w' ∧ w'.ownsRow base 188 2 v' (l ++ [z]).length ((l ++ [z]).flatMap prc) ∧ Only (fun k => base ≤ k) w w' := by
  obtain ⟨i0, hi, hz0, hz1, hz2⟩ := info_parts Tryz.infoBegun
  have h' := own_kept h (onlyA w (.cells #[.int .i64 z.1, .int .i64 z.2] 188)) (fun _ _ h => h)
  obtain ⟨v', w', hr, h2, h3, _, _⟩ := run_append_own_at (P := Tryz.prog) _ base 57 ty 188 i0 (.agg #[.int .i64 0, .int .i64 0]) 2 16 Tryz.underlying57 hi hz0 hz1 hz2 rfl (by decide) v l.length _ h' ⟨w.heap.size, 0, none⟩ 1 1 (prc z) rfl
    (fun j u hu => by
      match j, hu with
      | 0, hu => simp [prc] at hu; rw [← hu, add_at]; simp
      | 1, hu => simp [prc] at hu; rw [← hu, add_at]; simp) (by intro u hu; simp [prc] at hu; rcases hu with rfl | rfl <;> rfl) (by unfold maxLen; omega) (by omega) (by simp; omega)
  refine ⟨v', w', hr, ?_, (Only.alloc (fun k => base ≤ k) w _).trans (Only.grown (S := fun k => base ≤ k) h3 (fun k hk => (World.ownsRow.lt h' k hk).1)) (fun _ _ h => h)⟩
  have e : l.length + 1 = (l ++ [z]).length := by simp
  have e2 : (l ++ [z]).flatMap prc = l.flatMap prc ++ prc z := by simp
  rw [e2, ← e]
  exact h2
end Go.Proofs.YtbfafijfhaejmaaGreatDoor
