/- What Same does with records. -/
import Derived.Test.YtfjmidcldjfckaaGreatDoorMRSameN1
import Derived.Test.YtfjmidcldjfckaaGreatDoorMRSmN
namespace Go.Proofs.YtfjmidcldjfckaaGreatDoor
open Go.RowKit

set_option maxRecDepth 100000 in
set_option maxHeartbeats 1600000 in
theorem rsame_no9 (w : World) (a b : Rc) (L M : Loc) (x0 : (a.lsn == b.lsn) = true) (x1 : (a.prev == b.prev) = true) (x2 : (a.next == b.next) = true) (x3 : (a.kind == b.kind) = true) (x4 : (a.xid == b.xid) = true) (x5 : (a.page == b.page) = true) (x6 : (a.slot == b.slot) = true) (x7 : (a.old == b.old) = true) (x8 : (a.new == b.new) = true) (e : ¬ a.redo = b.redo) :
    Calls Tryz.prog 20 #[.agg (a.cells L), .agg (b.cells M)] w fun e w' => RB e (a = b) ∧ Only (fun _ => False) w w' := by
  obtain ⟨W, hW, hB1, hB2, hO⟩ := two_boxes w a b L M
  have HW := hide hW
  have HO := hide hO
  clear hW hB1 hB2 hO
  have x : (a.redo == b.redo) = false := by simpa using e
  have HN : Hid (¬ a = b) := fun h => e (by rw [h])
  clear e
  go_enter Tryz.func20, Tryz.ntmps20
  go_wp2_with fail
  rw [HW.out]
  go_ret
  exact ⟨RB.no HN.out, HO.out⟩
set_option maxRecDepth 100000 in
set_option maxHeartbeats 1600000 in
theorem rsame_no10 (w : World) (a b : Rc) (L M : Loc) (x0 : (a.lsn == b.lsn) = true) (x1 : (a.prev == b.prev) = true) (x2 : (a.next == b.next) = true) (x3 : (a.kind == b.kind) = true) (x4 : (a.xid == b.xid) = true) (x5 : (a.page == b.page) = true) (x6 : (a.slot == b.slot) = true) (x7 : (a.old == b.old) = true) (x8 : (a.new == b.new) = true) (x9 : (a.redo == b.redo) = true) (e : ¬ a.data = b.data) :
    Calls Tryz.prog 20 #[.agg (a.cells L), .agg (b.cells M)] w fun e w' => RB e (a = b) ∧ Only (fun _ => False) w w' := by
  obtain ⟨W, hW, hB1, hB2, hO⟩ := two_boxes w a b L M
  have HW := hide hW
  have HO := hide hO
  clear hW hB1 hB2 hO
  have x : (a.data.toList == b.data.toList) = false := by simpa using fun h => e (ba_toList h)
  have HN : Hid (¬ a = b) := fun h => e (by rw [h])
  clear e
  go_enter Tryz.func20, Tryz.ntmps20
  go_wp2_with fail
  rw [HW.out]
  go_ret
  exact ⟨RB.no HN.out, HO.out⟩

set_option maxRecDepth 100000 in
set_option maxHeartbeats 3200000 in
theorem rsame_any (w : World) (a b : Rc) (L M : Loc) (ha : RcAt w a L) (hb : RcAt w b M) :
    Calls Tryz.prog 20 #[.agg (a.cells L), .agg (b.cells M)] w fun e w' => RB e (a = b) ∧ Only (fun _ => False) w w' := by
  by_cases e0 : a.lsn = b.lsn
  case neg => exact rsame_no0 w a b L M  e0
  have x0 : (a.lsn == b.lsn) = true := by simpa using e0
  by_cases e1 : a.prev = b.prev
  case neg => exact rsame_no1 w a b L M x0 e1
  have x1 : (a.prev == b.prev) = true := by simpa using e1
  by_cases e2 : a.next = b.next
  case neg => exact rsame_no2 w a b L M x0 x1 e2
  have x2 : (a.next == b.next) = true := by simpa using e2
  by_cases e3 : a.kind = b.kind
  case neg => exact rsame_no3 w a b L M x0 x1 x2 e3
  have x3 : (a.kind == b.kind) = true := by simpa using e3
  by_cases e4 : a.xid = b.xid
  case neg => exact rsame_no4 w a b L M x0 x1 x2 x3 e4
  have x4 : (a.xid == b.xid) = true := by simpa using e4
  by_cases e5 : a.page = b.page
  case neg => exact rsame_no5 w a b L M x0 x1 x2 x3 x4 e5
  have x5 : (a.page == b.page) = true := by simpa using e5
  by_cases e6 : a.slot = b.slot
  case neg => exact rsame_no6 w a b L M x0 x1 x2 x3 x4 x5 e6
  have x6 : (a.slot == b.slot) = true := by simpa using e6
  by_cases e7 : a.old = b.old
  case neg => exact rsame_no7 w a b L M x0 x1 x2 x3 x4 x5 x6 e7
  have x7 : (a.old == b.old) = true := by simpa using e7
  by_cases e8 : a.new = b.new
  case neg => exact rsame_no8 w a b L M x0 x1 x2 x3 x4 x5 x6 x7 e8
  have x8 : (a.new == b.new) = true := by simpa using e8
  by_cases e9 : a.redo = b.redo
  case neg => exact rsame_no9 w a b L M x0 x1 x2 x3 x4 x5 x6 x7 x8 e9
  have x9 : (a.redo == b.redo) = true := by simpa using e9
  by_cases e10 : a.data = b.data
  case neg => exact rsame_no10 w a b L M x0 x1 x2 x3 x4 x5 x6 x7 x8 x9 e10
  have x10 : (a.data.toList == b.data.toList) = true := by rw [e10]; simp
  have E0 := hide e0
  have E1 := hide e1
  have E2 := hide e2
  have E3 := hide e3
  have E4 := hide e4
  have E5 := hide e5
  have E6 := hide e6
  have E7 := hide e7
  have E8 := hide e8
  have E9 := hide e9
  have E10 := hide e10
  clear e0 e1 e2 e3 e4 e5 e6 e7 e8 e9 e10
  obtain ⟨W, hW, hB1, hB2, hO⟩ := two_boxes w a b L M
  have HW := hide hW
  have HB1 := hide hB1
  have HB2 := hide hB2
  have HO := hide hO
  have HA := hide (ha.go hO)
  have HB := hide (hb.go hO)
  clear hW hB1 hB2 hO ha hb
  go_enter Tryz.func20, Tryz.ntmps20
  go_wp2_with fail
  rw [HW.out]
  refine (eqI_any W _ _ _ _ _ _ _ _ HA.out.slots HB.out.slots).mono ?_
  rintro e w1 ⟨hb, ho1⟩
  obtain ⟨c, rfl, hc⟩ := hb.ex
  have HO1 := hide (ho1)
  have HC1 := hide hc
  clear hc hb ho1
  cases c
  case false =>
    go_wp2_with fail
    go_ret
    exact ⟨RB.no (fun h => by have := HC1.out.2 (by rw [h]); simp at this), o2 HO.out HO1.out⟩
  have E11 := hide (HC1.out.1 rfl)
  have a12 := (HB1.out.more HO1.out).c12
  have b12 := (HB2.out.more HO1.out).c12
  go_wp2_with fail
  refine (eqI_any _ _ _ _ _ _ _ _ _ (HA.out.go HO1.out).more (HB.out.go HO1.out).more).mono ?_
  rintro e w2 ⟨hb, ho2⟩
  obtain ⟨c, rfl, hc⟩ := hb.ex
  have HO2 := hide (o2 HO1.out ho2)
  have HC2 := hide hc
  clear hc hb ho2 a12 b12
  cases c
  case false =>
    go_wp2_with fail
    go_ret
    exact ⟨RB.no (fun h => by have := HC2.out.2 (by rw [h]); simp at this), o2 HO.out HO2.out⟩
  have E12 := hide (HC2.out.1 rfl)
  have a13 := (HB1.out.more HO2.out).c13
  have b13 := (HB2.out.more HO2.out).c13
  obtain ⟨T, hi⟩ := (HA.out.go HO2.out).images
  obtain ⟨T', hi'⟩ := (HB.out.go HO2.out).images
  have HI := hide hi
  have HI' := hide hi'
  clear hi hi'
  go_wp2_with fail
  refine (eqF_any _ T T' _ _ _ _ _ _ _ _ HI.out HI'.out).mono ?_
  rintro e w3 ⟨hb, ho3⟩
  obtain ⟨c, rfl, hc⟩ := hb.ex
  have HO3 := hide (o2 HO2.out ho3)
  have HC3 := hide hc
  clear hc hb ho3 a13 b13
  cases c
  case false =>
    go_wp2_with fail
    go_ret
    exact ⟨RB.no (fun h => by have := HC3.out.2 (by rw [h]); simp at this), o2 HO.out HO3.out⟩
  have E13 := hide (HC3.out.1 rfl)
  have a14 := (HB1.out.more HO3.out).c14
  have b14 := (HB2.out.more HO3.out).c14
  go_wp2_with fail
  refine (eqO_any _ _ _ _ _ _ _ _ _ (HA.out.go HO3.out).pages (HB.out.go HO3.out).pages).mono ?_
  rintro e w4 ⟨hb, ho4⟩
  obtain ⟨c, rfl, hc⟩ := hb.ex
  have HO4 := hide (o2 HO3.out ho4)
  have HC4 := hide hc
  clear hc hb ho4 a14 b14
  cases c
  case false =>
    go_wp2_with fail
    go_ret
    exact ⟨RB.no (fun h => by have := HC4.out.2 (by rw [h]); simp at this), o2 HO.out HO4.out⟩
  have E14 := hide (HC4.out.1 rfl)
  have a15 := (HB1.out.more HO4.out).c15
  have b15 := (HB2.out.more HO4.out).c15
  go_wp2_with fail
  refine (eqB_any _ _ _ _ _ _ _ _ _ (HA.out.go HO4.out).txns (HB.out.go HO4.out).txns).mono ?_
  rintro e w5 ⟨hb, ho5⟩
  obtain ⟨c, rfl, hc⟩ := hb.ex
  have HO5 := hide (o2 HO4.out ho5)
  have HC5 := hide hc
  clear hc hb ho5 a15 b15
  cases c
  case false =>
    go_wp2_with fail
    go_ret
    exact ⟨RB.no (fun h => by have := HC5.out.2 (by rw [h]); simp at this), o2 HO.out HO5.out⟩
  have E15 := hide (HC5.out.1 rfl)
  go_wp2_with fail
  go_ret
  exact ⟨RB.yes (rc_ext E0.out E1.out E2.out E3.out E4.out E5.out E6.out E7.out E8.out E9.out E10.out E11.out E12.out E13.out E14.out E15.out), o2 HO.out HO5.out⟩
end Go.Proofs.YtfjmidcldjfckaaGreatDoor
