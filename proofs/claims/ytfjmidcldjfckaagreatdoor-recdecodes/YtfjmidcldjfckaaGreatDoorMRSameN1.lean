/- Same of records that differ in a number or in their data. -/
import Derived.Test.YtfjmidcldjfckaaGreatDoorMRSm
namespace Go.Proofs.YtfjmidcldjfckaaGreatDoor
open Go.RowKit

set_option maxRecDepth 100000 in
set_option maxHeartbeats 1600000 in
theorem rsame_no0 (w : World) (a b : Rc) (L M : Loc)  (e : ¬ a.lsn = b.lsn) :
    Calls Tryz.prog 20 #[.agg (a.cells L), .agg (b.cells M)] w fun e w' => RB e (a = b) ∧ Only (fun _ => False) w w' := by
  obtain ⟨W, hW, hB1, hB2, hO⟩ := two_boxes w a b L M
  have HW := hide hW
  have HO := hide hO
  clear hW hB1 hB2 hO
  have x : (a.lsn == b.lsn) = false := by simpa using e
  have HN : Hid (¬ a = b) := fun h => e (by rw [h])
  clear e
  go_enter Tryz.func20, Tryz.ntmps20
  go_wp2_with fail
  rw [HW.out]
  go_ret
  exact ⟨RB.no HN.out, HO.out⟩
set_option maxRecDepth 100000 in
set_option maxHeartbeats 1600000 in
theorem rsame_no1 (w : World) (a b : Rc) (L M : Loc) (x0 : (a.lsn == b.lsn) = true) (e : ¬ a.prev = b.prev) :
    Calls Tryz.prog 20 #[.agg (a.cells L), .agg (b.cells M)] w fun e w' => RB e (a = b) ∧ Only (fun _ => False) w w' := by
  obtain ⟨W, hW, hB1, hB2, hO⟩ := two_boxes w a b L M
  have HW := hide hW
  have HO := hide hO
  clear hW hB1 hB2 hO
  have x : (a.prev == b.prev) = false := by simpa using e
  have HN : Hid (¬ a = b) := fun h => e (by rw [h])
  clear e
  go_enter Tryz.func20, Tryz.ntmps20
  go_wp2_with fail
  rw [HW.out]
  go_ret
  exact ⟨RB.no HN.out, HO.out⟩
set_option maxRecDepth 100000 in
set_option maxHeartbeats 1600000 in
theorem rsame_no2 (w : World) (a b : Rc) (L M : Loc) (x0 : (a.lsn == b.lsn) = true) (x1 : (a.prev == b.prev) = true) (e : ¬ a.next = b.next) :
    Calls Tryz.prog 20 #[.agg (a.cells L), .agg (b.cells M)] w fun e w' => RB e (a = b) ∧ Only (fun _ => False) w w' := by
  obtain ⟨W, hW, hB1, hB2, hO⟩ := two_boxes w a b L M
  have HW := hide hW
  have HO := hide hO
  clear hW hB1 hB2 hO
  have x : (a.next == b.next) = false := by simpa using e
  have HN : Hid (¬ a = b) := fun h => e (by rw [h])
  clear e
  go_enter Tryz.func20, Tryz.ntmps20
  go_wp2_with fail
  rw [HW.out]
  go_ret
  exact ⟨RB.no HN.out, HO.out⟩
end Go.Proofs.YtfjmidcldjfckaaGreatDoor
