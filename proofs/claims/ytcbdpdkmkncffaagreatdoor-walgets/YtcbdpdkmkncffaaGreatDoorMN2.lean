/- The document's Same of records that differ in a number or in their data. -/
import Derived.Test.YtcbdpdkmkncffaaGreatDoorMSZ
namespace Go.Proofs.YtcbdpdkmkncffaaGreatDoor
open Go.RowKit

set_option maxRecDepth 100000 in
set_option maxHeartbeats 1600000 in
theorem zsame_no6 (w : World) (a b : Rc) (L M : Loc) (x0 : (a.lsn != b.lsn) = false) (x1 : (a.prev != b.prev) = false) (x2 : (a.next != b.next) = false) (x3 : (a.kind != b.kind) = false) (x4 : (a.xid != b.xid) = false) (x5 : (a.page != b.page) = false) (e : ¬ a.slot = b.slot) :
    Calls Tryz.prog 20 #[.agg (a.cells L), .agg (b.cells M)] w fun e w' => RB e (a = b) ∧ Only (fun _ => False) w w' := by
  obtain ⟨W, hW, hB1, hB2, hO⟩ := two_boxes w a b L M
  have HW := hide hW
  have HO := hide hO
  clear hW hB1 hB2 hO
  have x : (a.slot != b.slot) = true := by simpa using e
  have HN : Hid (¬ a = b) := fun h => e (by rw [h])
  clear e
  go_enter Tryz.func20, Tryz.ntmps20
  go_wp2_with fail
  rw [HW.out]
  go_ret
  exact ⟨RB.no HN.out, HO.out⟩
set_option maxRecDepth 100000 in
set_option maxHeartbeats 1600000 in
theorem zsame_no7 (w : World) (a b : Rc) (L M : Loc) (x0 : (a.lsn != b.lsn) = false) (x1 : (a.prev != b.prev) = false) (x2 : (a.next != b.next) = false) (x3 : (a.kind != b.kind) = false) (x4 : (a.xid != b.xid) = false) (x5 : (a.page != b.page) = false) (x6 : (a.slot != b.slot) = false) (e : ¬ a.old = b.old) :
    Calls Tryz.prog 20 #[.agg (a.cells L), .agg (b.cells M)] w fun e w' => RB e (a = b) ∧ Only (fun _ => False) w w' := by
  obtain ⟨W, hW, hB1, hB2, hO⟩ := two_boxes w a b L M
  have HW := hide hW
  have HO := hide hO
  clear hW hB1 hB2 hO
  have x : (a.old != b.old) = true := by simpa using e
  have HN : Hid (¬ a = b) := fun h => e (by rw [h])
  clear e
  go_enter Tryz.func20, Tryz.ntmps20
  go_wp2_with fail
  rw [HW.out]
  go_ret
  exact ⟨RB.no HN.out, HO.out⟩
set_option maxRecDepth 100000 in
set_option maxHeartbeats 1600000 in
theorem zsame_no8 (w : World) (a b : Rc) (L M : Loc) (x0 : (a.lsn != b.lsn) = false) (x1 : (a.prev != b.prev) = false) (x2 : (a.next != b.next) = false) (x3 : (a.kind != b.kind) = false) (x4 : (a.xid != b.xid) = false) (x5 : (a.page != b.page) = false) (x6 : (a.slot != b.slot) = false) (x7 : (a.old != b.old) = false) (e : ¬ a.new = b.new) :
    Calls Tryz.prog 20 #[.agg (a.cells L), .agg (b.cells M)] w fun e w' => RB e (a = b) ∧ Only (fun _ => False) w w' := by
  obtain ⟨W, hW, hB1, hB2, hO⟩ := two_boxes w a b L M
  have HW := hide hW
  have HO := hide hO
  clear hW hB1 hB2 hO
  have x : (a.new != b.new) = true := by simpa using e
  have HN : Hid (¬ a = b) := fun h => e (by rw [h])
  clear e
  go_enter Tryz.func20, Tryz.ntmps20
  go_wp2_with fail
  rw [HW.out]
  go_ret
  exact ⟨RB.no HN.out, HO.out⟩
end Go.Proofs.YtcbdpdkmkncffaaGreatDoor

namespace Go.Proofs.YtcbdpdkmkncffaaGreatDoor
open Go.RowKit

set_option maxRecDepth 100000 in
set_option maxHeartbeats 1600000 in
theorem zsame_no9 (w : World) (a b : Rc) (L M : Loc) (x0 : (a.lsn != b.lsn) = false) (x1 : (a.prev != b.prev) = false) (x2 : (a.next != b.next) = false) (x3 : (a.kind != b.kind) = false) (x4 : (a.xid != b.xid) = false) (x5 : (a.page != b.page) = false) (x6 : (a.slot != b.slot) = false) (x7 : (a.old != b.old) = false) (x8 : (a.new != b.new) = false) (e : ¬ a.redo = b.redo) :
    Calls Tryz.prog 20 #[.agg (a.cells L), .agg (b.cells M)] w fun e w' => RB e (a = b) ∧ Only (fun _ => False) w w' := by
  obtain ⟨W, hW, hB1, hB2, hO⟩ := two_boxes w a b L M
  have HW := hide hW
  have HO := hide hO
  clear hW hB1 hB2 hO
  have x : (a.redo != b.redo) = true := by simpa using e
  have HN : Hid (¬ a = b) := fun h => e (by rw [h])
  clear e
  go_enter Tryz.func20, Tryz.ntmps20
  go_wp2_with fail
  rw [HW.out]
  go_ret
  exact ⟨RB.no HN.out, HO.out⟩
set_option maxRecDepth 100000 in
set_option maxHeartbeats 1600000 in
theorem zsame_no10 (w : World) (a b : Rc) (L M : Loc) (x0 : (a.lsn != b.lsn) = false) (x1 : (a.prev != b.prev) = false) (x2 : (a.next != b.next) = false) (x3 : (a.kind != b.kind) = false) (x4 : (a.xid != b.xid) = false) (x5 : (a.page != b.page) = false) (x6 : (a.slot != b.slot) = false) (x7 : (a.old != b.old) = false) (x8 : (a.new != b.new) = false) (x9 : (a.redo != b.redo) = false) (e : ¬ a.data = b.data) :
    Calls Tryz.prog 20 #[.agg (a.cells L), .agg (b.cells M)] w fun e w' => RB e (a = b) ∧ Only (fun _ => False) w w' := by
  obtain ⟨W, hW, hB1, hB2, hO⟩ := two_boxes w a b L M
  have HW := hide hW
  have HO := hide hO
  clear hW hB1 hB2 hO
  have x : (a.data.toList == b.data.toList) = false := by simpa using fun h => e (ba_toList h)
  have HN : Hid (¬ a = b) := fun h => e (by rw [h])
  clear e
  go_enter Tryz.func20, Tryz.ntmps20
  go_wp2_with fail
  rw [HW.out]
  go_ret
  exact ⟨RB.no HN.out, HO.out⟩
end Go.Proofs.YtcbdpdkmkncffaaGreatDoor
