/- A new pool of the law's: its disk, its log and itself in one variable. -/
import Derived.Test.YtebijheonkagfaaGreatDoorKQg

namespace Go.Proofs.YtebijheonkagfaaGreatDoor
open Go.RowKit
theorem fr_disk (w : World) : Calls Tryz.prog 4 #[.int .i64 2000] w fun e w' => ∃ d g m, e = .returned (.tuple #[.pointer (some ⟨d, 0, none⟩), .int .i64 0]) ∧ Dsk w' d g m (Dk.new 2000) ∧ Only (fun _ => False) w w' ∧ (∀ k, own d g m k → w.heap.size ≤ k ∧ k < w'.heap.size) := st_disk w 2000 (by omega) (by omega)
end Go.Proofs.YtebijheonkagfaaGreatDoor
