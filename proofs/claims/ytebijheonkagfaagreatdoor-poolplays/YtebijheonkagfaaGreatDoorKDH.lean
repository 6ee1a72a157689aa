/- What Fill, pick and the law's own examples do. -/
import Derived.Shelf.Sort.Plain
import Derived.Test.YtebijheonkagfaaGreatDoorProg
import Derived.Sort.OwnSortedInts
import Derived.Test.YtebijheonkagfaaGreatDoorKD
import Derived.Maps.AppendAt
import Derived.Sort.OwnSorted
import Derived.BigRegion

namespace Go.Proofs.YtebijheonkagfaaGreatDoor
open Go.RowKit Go.Maps Go.Sort
theorem Tryz.infoInt : (Tryz.prog.info? 3).map (fun i => (i.zero, i.size, i.bytes)) = some (some (.int .i64 0), 1, 8) := by kernel_rfl
end Go.Proofs.YtebijheonkagfaaGreatDoor
namespace Go.Proofs.YtebijheonkagfaaGreatDoor
open Go.RowKit Go.Maps
structure Ints (w : World) (B : Nat) (ao : Option Addr) (l : List Int) : Prop where
  at_ : 0 < l.length → ∃ o, ao = some ⟨B, o, none⟩ ∧ ∀ j, j < l.length → w.cell? ⟨B, o + j, none⟩ = some (.int .i64 (l.getD j 0))
  wf : ∀ j, j < l.length → -9223372036854775808 ≤ l.getD j 0 ∧ l.getD j 0 < 9223372036854775808
  lt : 0 < l.length → B < w.heap.size
  len : l.length < 9223372036854775808
theorem Ints.kept {S : Nat → Prop} {w w' : World} {B : Nat} {ao : Option Addr} {l : List Int} (h : Ints w B ao l) (ho : Only S w w') (hS : 0 < l.length → ¬ S B) : Ints w' B ao l := by
  refine ⟨fun hl => ?_, h.wf, fun hl => Nat.lt_of_lt_of_le (h.lt hl) ho.size, h.len⟩; obtain ⟨o, e, hc⟩ := h.at_ hl
  exact ⟨o, e, fun j hj => (ho.cell (p := ⟨B, o + j, none⟩) (h.lt hl) (hS hl)).trans (hc j hj)⟩
end Go.Proofs.YtebijheonkagfaaGreatDoor
namespace Go.Proofs.YtebijheonkagfaaGreatDoor
open Go.RowKit
theorem zeros_made (w : World) : ∃ w', (Instr.makeSlice 80 (.int .i64 64) (.int .i64 64)).run Tryz.prog w = .ok (.slice (some ⟨w.heap.size, 0, none⟩) 64 64) w' ∧ (convert 80 9 (.slice (some ⟨w.heap.size, 0, none⟩) 64 64)).run Tryz.prog w' = .ok (.string ⟨(List.replicate 64 (0 : UInt8)).toArray⟩) w' ∧ Only (fun _ => False) w w' := by
  obtain ⟨i0, hi, hz0, hz1, hz2⟩ := info_parts Tryz.dinfoByte; obtain ⟨w0, hmk1, hown, hg⟩ := run_make_full (P := Tryz.prog) w w.heap.size 80 5 i0 (.int .u8 0) 1 Tryz.underlying80 hi hz0 hz1 .i64 .i64 64 (by rw [hz2]; omega) (by unfold maxLen; omega) (Nat.le_refl _)
  have hrow : Row w0 w.heap.size (.slice (some ⟨w.heap.size, 0, none⟩) 64 64) (some w.heap.size) (List.replicate 64 0) := by
    refine ⟨?_, rfl⟩
    have e2 : (madeCells (Value.int .u8 0).cells (64 * 1)).toList = cells (List.replicate 64 0) := by
      have : (Value.int .u8 0).cells = (List.replicate 1 (Value.int .u8 0)).toArray := rfl; rw [this, made_rep 64 1 (.int .u8 0) (by omega)]; unfold cells; rw [List.map_replicate]
      rfl
    rw [e2] at hown
    simpa using hown
  exact ⟨w0, hmk1, dbytes_back w0 _ _ _ _ hrow, Only.grown hg (fun k hk => by cases hk)⟩
end Go.Proofs.YtebijheonkagfaaGreatDoor
