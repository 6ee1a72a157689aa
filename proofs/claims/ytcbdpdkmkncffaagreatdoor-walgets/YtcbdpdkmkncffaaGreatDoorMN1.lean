/- The document's Same of records that differ in a number or in their data. -/
import Derived.Test.YtcbdpdkmkncffaaGreatDoorMSZ
namespace Go.Proofs.YtcbdpdkmkncffaaGreatDoor
open Go.RowKit

set_option maxRecDepth 100000 in
set_option maxHeartbeats 1600000 in
theorem zsame_no0 (w : World) (a b : Rc) (L M : Loc)  (e : ¬ a.lsn = b.lsn) :
    Calls Tryz.prog 20 #[.agg (a.cells L), .agg (b.cells M)] w fun e w' => RB e (a = b) ∧ Only (fun _ => False) w w' := by
  obtain ⟨W, hW, hB1, hB2, hO⟩ := two_boxes w a b L M
  have HW := hide hW
  have HO := hide hO
  clear hW hB1 hB2 hO
  have x : (a.lsn != b.lsn) = true := by simpa using e
  have HN : Hid (¬ a = b) := fun h => e (by rw [h])
  clear e
  go_enter Tryz.func20, Tryz.ntmps20
  go_wp2_with fail
  rw [HW.out]
  go_ret
  exact ⟨RB.no HN.out, HO.out⟩
set_option maxRecDepth 100000 in
set_option maxHeartbeats 1600000 in
theorem zsame_no1 (w : World) (a b : Rc) (L M : Loc) (x0 : (a.lsn != b.lsn) = false) (e : ¬ a.prev = b.prev) :
    Calls Tryz.prog 20 #[.agg (a.cells L), .agg (b.cells M)] w fun e w' => RB e (a = b) ∧ Only (fun _ => False) w w' := by
  obtain ⟨W, hW, hB1, hB2, hO⟩ := two_boxes w a b L M
  have HW := hide hW
  have HO := hide hO
  clear hW hB1 hB2 hO
  have x : (a.prev != b.prev) = true := by simpa using e
  have HN : Hid (¬ a = b) := fun h => e (by rw [h])
  clear e
  go_enter Tryz.func20, Tryz.ntmps20
  go_wp2_with fail
  rw [HW.out]
  go_ret
  exact ⟨RB.no HN.out, HO.out⟩
set_option maxRecDepth 100000 in
set_option maxHeartbeats 1600000 in
theorem zsame_no2 (w : World) (a b : Rc) (L M : Loc) (x0 : (a.lsn != b.lsn) = false) (x1 : (a.prev != b.prev) = false) (e : ¬ a.next = b.next) :
    Calls Tryz.prog 20 #[.agg (a.cells L), .agg (b.cells M)] w fun e w' => RB e (a = b) ∧ Only (fun _ => False) w w' := by
  obtain ⟨W, hW, hB1, hB2, hO⟩ := two_boxes w a b L M
  have HW := hide hW
  have HO := hide hO
  clear hW hB1 hB2 hO
  have x : (a.next != b.next) = true := by simpa using e
  have HN : Hid (¬ a = b) := fun h => e (by rw [h])
  clear e
  go_enter Tryz.func20, Tryz.ntmps20
  go_wp2_with fail
  rw [HW.out]
  go_ret
  exact ⟨RB.no HN.out, HO.out⟩
end Go.Proofs.YtcbdpdkmkncffaaGreatDoor

namespace Go.Proofs.YtcbdpdkmkncffaaGreatDoor
open Go.RowKit

set_option maxRecDepth 100000 in
set_option maxHeartbeats 1600000 in
theorem zsame_no3 (w : World) (a b : Rc) (L M : Loc) (x0 : (a.lsn != b.lsn) = false) (x1 : (a.prev != b.prev) = false) (x2 : (a.next != b.next) = false) (e : ¬ a.kind = b.kind) :
    Calls Tryz.prog 20 #[.agg (a.cells L), .agg (b.cells M)] w fun e w' => RB e (a = b) ∧ Only (fun _ => False) w w' := by
  obtain ⟨W, hW, hB1, hB2, hO⟩ := two_boxes w a b L M
  have HW := hide hW
  have HO := hide hO
  clear hW hB1 hB2 hO
  have x : (a.kind != b.kind) = true := by simpa using e
  have HN : Hid (¬ a = b) := fun h => e (by rw [h])
  clear e
  go_enter Tryz.func20, Tryz.ntmps20
  go_wp2_with fail
  rw [HW.out]
  go_ret
  exact ⟨RB.no HN.out, HO.out⟩
set_option maxRecDepth 100000 in
set_option maxHeartbeats 1600000 in
theorem zsame_no4 (w : World) (a b : Rc) (L M : Loc) (x0 : (a.lsn != b.lsn) = false) (x1 : (a.prev != b.prev) = false) (x2 : (a.next != b.next) = false) (x3 : (a.kind != b.kind) = false) (e : ¬ a.xid = b.xid) :
    Calls Tryz.prog 20 #[.agg (a.cells L), .agg (b.cells M)] w fun e w' => RB e (a = b) ∧ Only (fun _ => False) w w' := by
  obtain ⟨W, hW, hB1, hB2, hO⟩ := two_boxes w a b L M
  have HW := hide hW
  have HO := hide hO
  clear hW hB1 hB2 hO
  have x : (a.xid != b.xid) = true := by simpa using e
  have HN : Hid (¬ a = b) := fun h => e (by rw [h])
  clear e
  go_enter Tryz.func20, Tryz.ntmps20
  go_wp2_with fail
  rw [HW.out]
  go_ret
  exact ⟨RB.no HN.out, HO.out⟩
set_option maxRecDepth 100000 in
set_option maxHeartbeats 1600000 in
theorem zsame_no5 (w : World) (a b : Rc) (L M : Loc) (x0 : (a.lsn != b.lsn) = false) (x1 : (a.prev != b.prev) = false) (x2 : (a.next != b.next) = false) (x3 : (a.kind != b.kind) = false) (x4 : (a.xid != b.xid) = false) (e : ¬ a.page = b.page) :
    Calls Tryz.prog 20 #[.agg (a.cells L), .agg (b.cells M)] w fun e w' => RB e (a = b) ∧ Only (fun _ => False) w w' := by
  obtain ⟨W, hW, hB1, hB2, hO⟩ := two_boxes w a b L M
  have HW := hide hW
  have HO := hide hO
  clear hW hB1 hB2 hO
  have x : (a.page != b.page) = true := by simpa using e
  have HN : Hid (¬ a = b) := fun h => e (by rw [h])
  clear e
  go_enter Tryz.func20, Tryz.ntmps20
  go_wp2_with fail
  rw [HW.out]
  go_ret
  exact ⟨RB.no HN.out, HO.out⟩
end Go.Proofs.YtcbdpdkmkncffaaGreatDoor
