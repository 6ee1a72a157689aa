/- Same of records that differ in a number or in their data. -/
import Derived.Test.YtfjmidcldjfckaaGreatDoorMRSm
namespace Go.Proofs.YtfjmidcldjfckaaGreatDoor
open Go.RowKit

set_option maxRecDepth 100000 in
set_option maxHeartbeats 1600000 in
theorem rsame_no3 (w : World) (a b : Rc) (L M : Loc) (x0 : (a.lsn == b.lsn) = true) (x1 : (a.prev == b.prev) = true) (x2 : (a.next == b.next) = true) (e : ¬ a.kind = b.kind) :
    Calls Tryz.prog 20 #[.agg (a.cells L), .agg (b.cells M)] w fun e w' => RB e (a = b) ∧ Only (fun _ => False) w w' := by
  obtain ⟨W, hW, hB1, hB2, hO⟩ := two_boxes w a b L M
  have HW := hide hW
  have HO := hide hO
  clear hW hB1 hB2 hO
  have x : (a.kind == b.kind) = false := by simpa using e
  have HN : Hid (¬ a = b) := fun h => e (by rw [h])
  clear e
  go_enter Tryz.func20, Tryz.ntmps20
  go_wp2_with fail
  rw [HW.out]
  go_ret
  exact ⟨RB.no HN.out, HO.out⟩
set_option maxRecDepth 100000 in
set_option maxHeartbeats 1600000 in
theorem rsame_no4 (w : World) (a b : Rc) (L M : Loc) (x0 : (a.lsn == b.lsn) = true) (x1 : (a.prev == b.prev) = true) (x2 : (a.next == b.next) = true) (x3 : (a.kind == b.kind) = true) (e : ¬ a.xid = b.xid) :
    Calls Tryz.prog 20 #[.agg (a.cells L), .agg (b.cells M)] w fun e w' => RB e (a = b) ∧ Only (fun _ => False) w w' := by
  obtain ⟨W, hW, hB1, hB2, hO⟩ := two_boxes w a b L M
  have HW := hide hW
  have HO := hide hO
  clear hW hB1 hB2 hO
  have x : (a.xid == b.xid) = false := by simpa using e
  have HN : Hid (¬ a = b) := fun h => e (by rw [h])
  clear e
  go_enter Tryz.func20, Tryz.ntmps20
  go_wp2_with fail
  rw [HW.out]
  go_ret
  exact ⟨RB.no HN.out, HO.out⟩
set_option maxRecDepth 100000 in
set_option maxHeartbeats 1600000 in
theorem rsame_no5 (w : World) (a b : Rc) (L M : Loc) (x0 : (a.lsn == b.lsn) = true) (x1 : (a.prev == b.prev) = true) (x2 : (a.next == b.next) = true) (x3 : (a.kind == b.kind) = true) (x4 : (a.xid == b.xid) = true) (e : ¬ a.page = b.page) :
    Calls Tryz.prog 20 #[.agg (a.cells L), .agg (b.cells M)] w fun e w' => RB e (a = b) ∧ Only (fun _ => False) w w' := by
  obtain ⟨W, hW, hB1, hB2, hO⟩ := two_boxes w a b L M
  have HW := hide hW
  have HO := hide hO
  clear hW hB1 hB2 hO
  have x : (a.page == b.page) = false := by simpa using e
  have HN : Hid (¬ a = b) := fun h => e (by rw [h])
  clear e
  go_enter Tryz.func20, Tryz.ntmps20
  go_wp2_with fail
  rw [HW.out]
  go_ret
  exact ⟨RB.no HN.out, HO.out⟩
end Go.Proofs.YtfjmidcldjfckaaGreatDoor

namespace Go.Proofs.YtfjmidcldjfckaaGreatDoor
open Go.RowKit

set_option maxRecDepth 100000 in
set_option maxHeartbeats 1600000 in
theorem rsame_no6 (w : World) (a b : Rc) (L M : Loc) (x0 : (a.lsn == b.lsn) = true) (x1 : (a.prev == b.prev) = true) (x2 : (a.next == b.next) = true) (x3 : (a.kind == b.kind) = true) (x4 : (a.xid == b.xid) = true) (x5 : (a.page == b.page) = true) (e : ¬ a.slot = b.slot) :
    Calls Tryz.prog 20 #[.agg (a.cells L), .agg (b.cells M)] w fun e w' => RB e (a = b) ∧ Only (fun _ => False) w w' := by
  obtain ⟨W, hW, hB1, hB2, hO⟩ := two_boxes w a b L M
  have HW := hide hW
  have HO := hide hO
  clear hW hB1 hB2 hO
  have x : (a.slot == b.slot) = false := by simpa using e
  have HN : Hid (¬ a = b) := fun h => e (by rw [h])
  clear e
  go_enter Tryz.func20, Tryz.ntmps20
  go_wp2_with fail
  rw [HW.out]
  go_ret
  exact ⟨RB.no HN.out, HO.out⟩
set_option maxRecDepth 100000 in
set_option maxHeartbeats 1600000 in
theorem rsame_no7 (w : World) (a b : Rc) (L M : Loc) (x0 : (a.lsn == b.lsn) = true) (x1 : (a.prev == b.prev) = true) (x2 : (a.next == b.next) = true) (x3 : (a.kind == b.kind) = true) (x4 : (a.xid == b.xid) = true) (x5 : (a.page == b.page) = true) (x6 : (a.slot == b.slot) = true) (e : ¬ a.old = b.old) :
    Calls Tryz.prog 20 #[.agg (a.cells L), .agg (b.cells M)] w fun e w' => RB e (a = b) ∧ Only (fun _ => False) w w' := by
  obtain ⟨W, hW, hB1, hB2, hO⟩ := two_boxes w a b L M
  have HW := hide hW
  have HO := hide hO
  clear hW hB1 hB2 hO
  have x : (a.old == b.old) = false := by simpa using e
  have HN : Hid (¬ a = b) := fun h => e (by rw [h])
  clear e
  go_enter Tryz.func20, Tryz.ntmps20
  go_wp2_with fail
  rw [HW.out]
  go_ret
  exact ⟨RB.no HN.out, HO.out⟩
set_option maxRecDepth 100000 in
set_option maxHeartbeats 1600000 in
theorem rsame_no8 (w : World) (a b : Rc) (L M : Loc) (x0 : (a.lsn == b.lsn) = true) (x1 : (a.prev == b.prev) = true) (x2 : (a.next == b.next) = true) (x3 : (a.kind == b.kind) = true) (x4 : (a.xid == b.xid) = true) (x5 : (a.page == b.page) = true) (x6 : (a.slot == b.slot) = true) (x7 : (a.old == b.old) = true) (e : ¬ a.new = b.new) :
    Calls Tryz.prog 20 #[.agg (a.cells L), .agg (b.cells M)] w fun e w' => RB e (a = b) ∧ Only (fun _ => False) w w' := by
  obtain ⟨W, hW, hB1, hB2, hO⟩ := two_boxes w a b L M
  have HW := hide hW
  have HO := hide hO
  clear hW hB1 hB2 hO
  have x : (a.new == b.new) = false := by simpa using e
  have HN : Hid (¬ a = b) := fun h => e (by rw [h])
  clear e
  go_enter Tryz.func20, Tryz.ntmps20
  go_wp2_with fail
  rw [HW.out]
  go_ret
  exact ⟨RB.no HN.out, HO.out⟩
end Go.Proofs.YtfjmidcldjfckaaGreatDoor
