/- The document's Check and Encode of a record. -/
import Derived.Test.YtfjmidcldjfckaaGreatDoorMZLay
import Derived.Test.YtfjmidcldjfckaaGreatDoorREnc
namespace Go.Proofs.YtfjmidcldjfckaaGreatDoor
open Go.RowKit

set_option maxRecDepth 100000 in
set_option maxHeartbeats 3200000 in
theorem zbody_any (w : World) (r : Rc) (L : Loc) (h : RcAt w r L) (k0 : 1 ≤ r.kind) (k1 : r.kind ≤ 13) (hr : r.inRange) (hs : r.short) (he : imErr r.images = 0) :
    Calls Tryz.prog 15 #[.agg (r.cells L)] w fun e w' => e = .returned (.string (str r.lay)) ∧ Only (fun _ => False) w w' := by
  have HR := hide h
  have HRG := hide hr
  have HE := hide he
  have HOX := hide (onlyA w (.cells (r.cells L) 28))
  have HB := hide (Bx.new w r L)
  obtain ⟨W0, hW0⟩ : ∃ W0, w.alloc (.cells (r.cells L) 28) = W0 := ⟨_, rfl⟩
  rw [hW0] at HOX HB
  have HW0 := hide hW0
  have HR0 := hide (HR.out.go HOX.out)
  obtain ⟨T, hims⟩ := HR0.out.images
  have HI := hide hims
  obtain ⟨s1, s2, s3, s4, s5, s6⟩ := hs
  have hten := hr.ten
  simp only [List.mem_cons, List.not_mem_nil, or_false, forall_eq_or_imp, forall_eq] at hten
  obtain ⟨t0, t1, t2, t3, t4, t5, t6, t7, t8⟩ := hten
  have H10 : Hid (∀ z ∈ [r.lsn, r.prev, r.next, r.kind, r.xid, r.page, r.slot, r.old, r.new, r.redo], z ≤ top) := by
    intro z hz
    simp only [List.mem_cons, List.not_mem_nil, or_false] at hz
    rcases hz with rfl | rfl | rfl | rfl | rfl | rfl | rfl | rfl | rfl | rfl
    · exact t0.2
    · exact t1.2
    · exact t2.2
    · unfold top; omega
    · exact t4.2
    · exact t5.2
    · exact t6.2
    · exact t7.2
    · exact t8.2
    · exact t3.2
  have hk : IntKind.i64.wrap r.kind = r.kind := wraps_i64 _ (by omega) (by omega)
  clear h hr he hW0 hims t0 t1 t2 t3 t4 t5 t6 t7 t8
  obtain ⟨m1, hm1⟩ : ∃ m, nums [r.lsn, r.prev, r.next, r.kind, r.xid, r.page, r.slot, r.old, r.new, r.redo] = m := ⟨_, rfl⟩
  obtain ⟨m2, hm2⟩ : ∃ m, textL r.data = m := ⟨_, rfl⟩
  have hml1 : m1.length ≤ 100 := by rw [← hm1]; exact nums_len _
  have hml2 : m2.length ≤ 522 := by
    rw [← hm2]
    have := sev_len r.data.size
    unfold textL
    rw [List.length_append, bl_len]; omega
  have H29 : Hid (∀ X, Only (fun _ => False) (W0.alloc (.cells #[.int .i64 r.lsn, .int .i64 r.prev, .int .i64 r.next, .int .i64 r.kind, .int .i64 r.xid, .int .i64 r.page, .int .i64 r.slot, .int .i64 r.old, .int .i64 r.new, .int .i64 r.redo] 3)) X → Calls Tryz.prog 43 #[.slice (some ⟨W0.heap.size, 0, none⟩) 10 10] X fun e w' => e = .returned (.string (str m1)) ∧ Only (fun _ => False) W0 w') := by
    intro X hX
    rw [← hm1]
    exact znum_tenX W0 X _ _ _ _ _ _ _ _ _ _ hX H10.out
  have H32 : Hid (∀ W, Calls Tryz.prog 44 #[.string r.data] W fun e w' => e = .returned (.string (str m2)) ∧ Only (fun _ => False) W w') := by
    intro W
    rw [← hm2]
    exact ztext_any W _ s1
  obtain ⟨Y1, hY1⟩ : ∃ Y, str m1 = Y := ⟨_, rfl⟩
  obtain ⟨Y2, hY2⟩ : ∃ Y, str m2 = Y := ⟨_, rfl⟩
  have hys1 : Y1.size ≤ 100 := by rw [← hY1, str_size]; exact hml1
  have hys2 : Y2.size ≤ 522 := by rw [← hY2, str_size]; exact hml2
  have hyb : Y1.size + Y2.size ≤ 9223372036854775807 := by omega
  obtain ⟨C1, hC1⟩ : ∃ C, Y1 ++ Y2 = C := ⟨_, rfl⟩
  obtain ⟨l1, hl1⟩ : ∃ l, m1 ++ m2 = l := ⟨_, rfl⟩
  have HCV : Hid (∀ W, Only (fun _ => False) W0 W → ∃ v' w', (convert 9 78 (.string C1)).run Tryz.prog W = .ok v' w' ∧ LN W0 w' v' l1 622) := by
    intro W hW
    rw [← hC1, ← hY1, ← hY2, str_cat, hl1]
    exact ln_new l1 622 (by rw [← hl1, List.length_append]; omega) (by omega) hW
  rw [hY1] at H29
  rw [hY2] at H32
  have E1 : Hid (nums [r.lsn, r.prev, r.next, r.kind, r.xid, r.page, r.slot, r.old, r.new, r.redo] ++ textL r.data = l1) := by unfold Hid; rw [hm1, hm2, hl1]
  clear hY1 hY2 hys1 hys2 hml1 hml2 hm1 hm2 hl1
  go_enter Tryz.func15, Tryz.ntmps15
  go_upto_region 1 with fail
  rw [HW0.out]
  refine wp_region_noPanic ?_
  refine wp_region_held_drew (S := fun W => Only (fun _ => False) W0 W) (by kernel_rfl) (Only.drew _ _) (fun hHeld => ?_)
  refine wpAnyH_take (i := 0) (oi := { dst := some 7, op := Op.fieldAddr 28 (Operand.tmp 1) 0, type := 0, pos := "ref.go:59", after := #[], guard := none }) (v := .pointer (some ⟨w.heap.size, 0, none⟩)) rfl (by kernel_rfl) (by kernel_rfl) (by kernel_rfl) (fun _ _ _ h => h) (Or.inl ⟨by rfl, fun w' hSw => by clear hSw; go_simp⟩) (by assumption) ?_
  simp only [Act.put, List.setIfInBounds_toArray, List.set_cons_zero, List.set_cons_succ]
  refine wpAnyH_take (i := 2) (oi := { dst := some 9, op := Op.fieldAddr 28 (Operand.tmp 1) 1, type := 0, pos := "ref.go:59", after := #[], guard := none }) (v := .pointer (some ⟨w.heap.size, 1, none⟩)) rfl (by kernel_rfl) (by kernel_rfl) (by kernel_rfl) (fun _ _ _ h => h) (Or.inl ⟨by rfl, fun w' hSw => by clear hSw; go_simp⟩) (by assumption) ?_
  simp only [Act.put, List.setIfInBounds_toArray, List.set_cons_zero, List.set_cons_succ]
  refine wpAnyH_take (i := 4) (oi := { dst := some 11, op := Op.fieldAddr 28 (Operand.tmp 1) 2, type := 0, pos := "ref.go:59", after := #[], guard := none }) (v := .pointer (some ⟨w.heap.size, 2, none⟩)) rfl (by kernel_rfl) (by kernel_rfl) (by kernel_rfl) (fun _ _ _ h => h) (Or.inl ⟨by rfl, fun w' hSw => by clear hSw; go_simp⟩) (by assumption) ?_
  simp only [Act.put, List.setIfInBounds_toArray, List.set_cons_zero, List.set_cons_succ]
  refine wpAnyH_take (i := 6) (oi := { dst := some 13, op := Op.fieldAddr 28 (Operand.tmp 1) 3, type := 0, pos := "ref.go:59", after := #[], guard := none }) (v := .pointer (some ⟨w.heap.size, 3, none⟩)) rfl (by kernel_rfl) (by kernel_rfl) (by kernel_rfl) (fun _ _ _ h => h) (Or.inl ⟨by rfl, fun w' hSw => by clear hSw; go_simp⟩) (by assumption) ?_
  simp only [Act.put, List.setIfInBounds_toArray, List.set_cons_zero, List.set_cons_succ]
  refine wpAnyH_take (i := 9) (oi := { dst := some 16, op := Op.fieldAddr 28 (Operand.tmp 1) 4, type := 0, pos := "ref.go:59", after := #[], guard := none }) (v := .pointer (some ⟨w.heap.size, 4, none⟩)) rfl (by kernel_rfl) (by kernel_rfl) (by kernel_rfl) (fun _ _ _ h => h) (Or.inl ⟨by rfl, fun w' hSw => by clear hSw; go_simp⟩) (by assumption) ?_
  simp only [Act.put, List.setIfInBounds_toArray, List.set_cons_zero, List.set_cons_succ]
  refine wpAnyH_take (i := 11) (oi := { dst := some 18, op := Op.fieldAddr 28 (Operand.tmp 1) 5, type := 0, pos := "ref.go:59", after := #[], guard := none }) (v := .pointer (some ⟨w.heap.size, 5, none⟩)) rfl (by kernel_rfl) (by kernel_rfl) (by kernel_rfl) (fun _ _ _ h => h) (Or.inl ⟨by rfl, fun w' hSw => by clear hSw; go_simp⟩) (by assumption) ?_
  simp only [Act.put, List.setIfInBounds_toArray, List.set_cons_zero, List.set_cons_succ]
  refine wpAnyH_take (i := 13) (oi := { dst := some 20, op := Op.fieldAddr 28 (Operand.tmp 1) 6, type := 0, pos := "ref.go:59", after := #[], guard := none }) (v := .pointer (some ⟨w.heap.size, 6, none⟩)) rfl (by kernel_rfl) (by kernel_rfl) (by kernel_rfl) (fun _ _ _ h => h) (Or.inl ⟨by rfl, fun w' hSw => by clear hSw; go_simp⟩) (by assumption) ?_
  simp only [Act.put, List.setIfInBounds_toArray, List.set_cons_zero, List.set_cons_succ]
  refine wpAnyH_take (i := 15) (oi := { dst := some 22, op := Op.fieldAddr 28 (Operand.tmp 1) 7, type := 0, pos := "ref.go:59", after := #[], guard := none }) (v := .pointer (some ⟨w.heap.size, 7, none⟩)) rfl (by kernel_rfl) (by kernel_rfl) (by kernel_rfl) (fun _ _ _ h => h) (Or.inl ⟨by rfl, fun w' hSw => by clear hSw; go_simp⟩) (by assumption) ?_
  simp only [Act.put, List.setIfInBounds_toArray, List.set_cons_zero, List.set_cons_succ]
  refine wpAnyH_take (i := 17) (oi := { dst := some 24, op := Op.fieldAddr 28 (Operand.tmp 1) 8, type := 0, pos := "ref.go:59", after := #[], guard := none }) (v := .pointer (some ⟨w.heap.size, 8, none⟩)) rfl (by kernel_rfl) (by kernel_rfl) (by kernel_rfl) (fun _ _ _ h => h) (Or.inl ⟨by rfl, fun w' hSw => by clear hSw; go_simp⟩) (by assumption) ?_
  simp only [Act.put, List.setIfInBounds_toArray, List.set_cons_zero, List.set_cons_succ]
  refine wpAnyH_take (i := 19) (oi := { dst := some 26, op := Op.fieldAddr 28 (Operand.tmp 1) 9, type := 0, pos := "ref.go:59", after := #[], guard := none }) (v := .pointer (some ⟨w.heap.size, 9, none⟩)) rfl (by kernel_rfl) (by kernel_rfl) (by kernel_rfl) (fun _ _ _ h => h) (Or.inl ⟨by rfl, fun w' hSw => by clear hSw; go_simp⟩) (by assumption) ?_
  simp only [Act.put, List.setIfInBounds_toArray, List.set_cons_zero, List.set_cons_succ]
  refine wpAnyH_take (i := 23) (oi := { dst := some 30, op := Op.fieldAddr 28 (Operand.tmp 1) 10, type := 0, pos := "ref.go:59", after := #[], guard := none }) (v := .pointer (some ⟨w.heap.size, 10, none⟩)) rfl (by kernel_rfl) (by kernel_rfl) (by kernel_rfl) (fun _ _ _ h => h) (Or.inl ⟨by rfl, fun w' hSw => by clear hSw; go_simp⟩) (by assumption) ?_
  simp only [Act.put, List.setIfInBounds_toArray, List.set_cons_zero, List.set_cons_succ]
  refine wpAnyH_take (i := 1) (oi := { dst := some 8, op := Op.load 3 (Operand.tmp 7), type := 3, pos := "ref.go:59", after := #[{ on := 0, ground := Ground.data }], guard := none }) (v := .int .i64 r.lsn) rfl (by kernel_rfl) (by kernel_rfl) (by kernel_rfl) (fun _ _ _ h => h) (yieldsIf_load_cell (by rfl) 3 _ rfl _ rfl (fun W hW => (HB.out.more hW).c0) (fun W hc => ld_int hc)) (by assumption) ?_
  simp only [Act.put, List.setIfInBounds_toArray, List.set_cons_zero, List.set_cons_succ]
  refine wpAnyH_take (i := 3) (oi := { dst := some 10, op := Op.load 3 (Operand.tmp 9), type := 3, pos := "ref.go:59", after := #[{ on := 2, ground := Ground.data }], guard := none }) (v := .int .i64 r.prev) rfl (by kernel_rfl) (by kernel_rfl) (by kernel_rfl) (fun _ _ _ h => h) (yieldsIf_load_cell (by rfl) 3 _ rfl _ rfl (fun W hW => (HB.out.more hW).c1) (fun W hc => ld_int hc)) (by assumption) ?_
  simp only [Act.put, List.setIfInBounds_toArray, List.set_cons_zero, List.set_cons_succ]
  refine wpAnyH_take (i := 5) (oi := { dst := some 12, op := Op.load 3 (Operand.tmp 11), type := 3, pos := "ref.go:59", after := #[{ on := 4, ground := Ground.data }], guard := none }) (v := .int .i64 r.next) rfl (by kernel_rfl) (by kernel_rfl) (by kernel_rfl) (fun _ _ _ h => h) (yieldsIf_load_cell (by rfl) 3 _ rfl _ rfl (fun W hW => (HB.out.more hW).c2) (fun W hc => ld_int hc)) (by assumption) ?_
  simp only [Act.put, List.setIfInBounds_toArray, List.set_cons_zero, List.set_cons_succ]
  refine wpAnyH_take (i := 7) (oi := { dst := some 14, op := Op.load 22 (Operand.tmp 13), type := 22, pos := "ref.go:59", after := #[{ on := 6, ground := Ground.data }], guard := none }) (v := .int .u8 r.kind) rfl (by kernel_rfl) (by kernel_rfl) (by kernel_rfl) (fun _ _ _ h => h) (yieldsIf_load_cell (by rfl) 22 _ rfl _ rfl (fun W hW => (HB.out.more hW).c3) (fun W hc => ld_kind hc)) (by assumption) ?_
  simp only [Act.put, List.setIfInBounds_toArray, List.set_cons_zero, List.set_cons_succ]
  refine wpAnyH_take (i := 10) (oi := { dst := some 17, op := Op.load 3 (Operand.tmp 16), type := 3, pos := "ref.go:59", after := #[{ on := 9, ground := Ground.data }], guard := none }) (v := .int .i64 r.xid) rfl (by kernel_rfl) (by kernel_rfl) (by kernel_rfl) (fun _ _ _ h => h) (yieldsIf_load_cell (by rfl) 3 _ rfl _ rfl (fun W hW => (HB.out.more hW).c4) (fun W hc => ld_int hc)) (by assumption) ?_
  simp only [Act.put, List.setIfInBounds_toArray, List.set_cons_zero, List.set_cons_succ]
  refine wpAnyH_take (i := 12) (oi := { dst := some 19, op := Op.load 3 (Operand.tmp 18), type := 3, pos := "ref.go:59", after := #[{ on := 11, ground := Ground.data }], guard := none }) (v := .int .i64 r.page) rfl (by kernel_rfl) (by kernel_rfl) (by kernel_rfl) (fun _ _ _ h => h) (yieldsIf_load_cell (by rfl) 3 _ rfl _ rfl (fun W hW => (HB.out.more hW).c5) (fun W hc => ld_int hc)) (by assumption) ?_
  simp only [Act.put, List.setIfInBounds_toArray, List.set_cons_zero, List.set_cons_succ]
  refine wpAnyH_take (i := 14) (oi := { dst := some 21, op := Op.load 3 (Operand.tmp 20), type := 3, pos := "ref.go:59", after := #[{ on := 13, ground := Ground.data }], guard := none }) (v := .int .i64 r.slot) rfl (by kernel_rfl) (by kernel_rfl) (by kernel_rfl) (fun _ _ _ h => h) (yieldsIf_load_cell (by rfl) 3 _ rfl _ rfl (fun W hW => (HB.out.more hW).c6) (fun W hc => ld_int hc)) (by assumption) ?_
  simp only [Act.put, List.setIfInBounds_toArray, List.set_cons_zero, List.set_cons_succ]
  refine wpAnyH_take (i := 16) (oi := { dst := some 23, op := Op.load 3 (Operand.tmp 22), type := 3, pos := "ref.go:59", after := #[{ on := 15, ground := Ground.data }], guard := none }) (v := .int .i64 r.old) rfl (by kernel_rfl) (by kernel_rfl) (by kernel_rfl) (fun _ _ _ h => h) (yieldsIf_load_cell (by rfl) 3 _ rfl _ rfl (fun W hW => (HB.out.more hW).c7) (fun W hc => ld_int hc)) (by assumption) ?_
  simp only [Act.put, List.setIfInBounds_toArray, List.set_cons_zero, List.set_cons_succ]
  refine wpAnyH_take (i := 18) (oi := { dst := some 25, op := Op.load 3 (Operand.tmp 24), type := 3, pos := "ref.go:59", after := #[{ on := 17, ground := Ground.data }], guard := none }) (v := .int .i64 r.new) rfl (by kernel_rfl) (by kernel_rfl) (by kernel_rfl) (fun _ _ _ h => h) (yieldsIf_load_cell (by rfl) 3 _ rfl _ rfl (fun W hW => (HB.out.more hW).c8) (fun W hc => ld_int hc)) (by assumption) ?_
  simp only [Act.put, List.setIfInBounds_toArray, List.set_cons_zero, List.set_cons_succ]
  refine wpAnyH_take (i := 20) (oi := { dst := some 27, op := Op.load 3 (Operand.tmp 26), type := 3, pos := "ref.go:59", after := #[{ on := 19, ground := Ground.data }], guard := none }) (v := .int .i64 r.redo) rfl (by kernel_rfl) (by kernel_rfl) (by kernel_rfl) (fun _ _ _ h => h) (yieldsIf_load_cell (by rfl) 3 _ rfl _ rfl (fun W hW => (HB.out.more hW).c9) (fun W hc => ld_int hc)) (by assumption) ?_
  simp only [Act.put, List.setIfInBounds_toArray, List.set_cons_zero, List.set_cons_succ]
  refine wpAnyH_take (i := 24) (oi := { dst := some 31, op := Op.load 9 (Operand.tmp 30), type := 9, pos := "ref.go:59", after := #[{ on := 23, ground := Ground.data }], guard := none }) (v := .string r.data) rfl (by kernel_rfl) (by kernel_rfl) (by kernel_rfl) (fun _ _ _ h => h) (yieldsIf_load_cell (by rfl) 9 _ rfl _ rfl (fun W hW => (HB.out.more hW).c10) (fun W hc => ld_string hc)) (by assumption) ?_
  simp only [Act.put, List.setIfInBounds_toArray, List.set_cons_zero, List.set_cons_succ]
  refine wpAnyH_take (i := 8) (oi := { dst := some 15, op := Op.convert 22 3 (Operand.tmp 14), type := 3, pos := "ref.go:59", after := #[{ on := 7, ground := Ground.data }], guard := none }) (v := .int .i64 r.kind) rfl (by kernel_rfl) (by kernel_rfl) (by kernel_rfl) (fun _ _ _ h => h) (Or.inl ⟨by rfl, fun w' hSw => by clear hSw; go_simp⟩) (by assumption) ?_
  simp only [Act.put, List.setIfInBounds_toArray, List.set_cons_zero, List.set_cons_succ]
  refine wpAnyH_ready (rs := [21]) (by kernel_rfl) (by simp) ?_
  refine AllReadyH.cons (o := { dst := some 28, op := Op.buildSlice 23 10 #[(0, Operand.tmp 8), (1, Operand.tmp 10), (2, Operand.tmp 12), (3, Operand.tmp 15), (4, Operand.tmp 17), (5, Operand.tmp 19), (6, Operand.tmp 21), (7, Operand.tmp 23), (8, Operand.tmp 25), (9, Operand.tmp 27)], type := 23, pos := "ref.go:59", after := #[{ on := 1, ground := Ground.data }, { on := 3, ground := Ground.data }, { on := 5, ground := Ground.data }, { on := 8, ground := Ground.data }, { on := 10, ground := Ground.data }, { on := 12, ground := Ground.data }, { on := 14, ground := Ground.data }, { on := 16, ground := Ground.data }, { on := 18, ground := Ground.data }, { on := 20, ground := Ground.data }], guard := none }) rfl (fun K hK => ?_) (AllReadyH.nil)
  go_simp
  refine hK.out _ _ (o2 (Only.drew _ _) (onlyA _ _)) (fun hHeld => ?_)
  clear hK K
  try simp only [Act.put, List.setIfInBounds_toArray, List.set_cons_zero, List.set_cons_succ]
  refine wpAnyH_ready (rs := [22]) (by kernel_rfl) (by simp) ?_
  refine AllReadyH.cons (o := { dst := some 29, op := Op.call { callee := Callee.value (Operand.func 43), args := #[Operand.tmp 28], argTypes := #[23] }, type := 9, pos := "ref.go:59", after := #[{ on := 21, ground := Ground.data }], guard := none }) rfl (fun K hK => ?_) (AllReadyH.nil)
  go_simp
  refine (H29.out _ (Only.drew _ _)).mono ?_
  rintro e x1 ⟨rfl, hx1⟩
  have HX1 := hide hx1
  clear hx1
  refine hK.out _ _ (HX1.out) (fun hHeld => ?_)
  clear hK K
  try simp only [Act.put, List.setIfInBounds_toArray, List.set_cons_zero, List.set_cons_succ]
  refine wpAnyH_ready (rs := [25]) (by kernel_rfl) (by simp) ?_
  refine AllReadyH.cons (o := { dst := some 32, op := Op.call { callee := Callee.value (Operand.func 44), args := #[Operand.tmp 31], argTypes := #[9] }, type := 9, pos := "ref.go:59", after := #[{ on := 24, ground := Ground.data }, { on := 22, ground := Ground.chain }], guard := none }) rfl (fun K hK => ?_) (AllReadyH.nil)
  go_simp
  refine (H32.out _).mono ?_
  rintro e x2 ⟨rfl, hx2⟩
  have HX2 := hide (o2 HX1.out hx2)
  clear hx2
  refine hK.out _ _ (HX2.out) (fun hHeld => ?_)
  clear hK K
  try simp only [Act.put, List.setIfInBounds_toArray, List.set_cons_zero, List.set_cons_succ]
  refine wpAnyH_take (i := 26) (oi := { dst := some 33, op := Op.binOp BinOp.add 9 (Operand.tmp 29) (Operand.tmp 32) 9, type := 9, pos := "ref.go:59", after := #[{ on := 22, ground := Ground.data }, { on := 25, ground := Ground.data }], guard := none }) (v := .string C1) rfl (by kernel_rfl) (by kernel_rfl) (by kernel_rfl) (fun _ _ _ h => h) (Or.inl ⟨by rfl, fun w' hSw => by clear hSw; go_simp⟩) (by assumption) ?_
  simp only [Act.put, List.setIfInBounds_toArray, List.set_cons_zero, List.set_cons_succ]
  refine wpAnyH_ready (rs := [27]) (by kernel_rfl) (by simp) ?_
  refine AllReadyH.cons (o := { dst := some 34, op := Op.convert 9 78 (Operand.tmp 33), type := 78, pos := "ref.go:59", after := #[{ on := 26, ground := Ground.data }], guard := none }) rfl (fun K hK => ?_) (AllReadyH.nil)
  obtain ⟨v1, w1, hcv, hL1⟩ := HCV.out _ HX2.out
  go_simp
  have L1 := hide hL1
  clear hcv hL1
  refine hK.out _ _ (L1.out.only) (fun hHeld => ?_)
  clear hK K
  try simp only [Act.put, List.setIfInBounds_toArray, List.set_cons_zero, List.set_cons_succ]
  refine wpAnyH_take (i := 28) (oi := { dst := some 3, op := Op.assign (Operand.tmp 34), type := 78, pos := "ref.go:59", after := #[{ on := 27, ground := Ground.data }, { on := 25, ground := Ground.chain }, { on := 0, ground := Ground.phase }, { on := 1, ground := Ground.phase }, { on := 2, ground := Ground.phase }, { on := 3, ground := Ground.phase }, { on := 4, ground := Ground.phase }, { on := 5, ground := Ground.phase }, { on := 6, ground := Ground.phase }, { on := 7, ground := Ground.phase }, { on := 8, ground := Ground.phase }, { on := 9, ground := Ground.phase }, { on := 10, ground := Ground.phase }, { on := 11, ground := Ground.phase }, { on := 12, ground := Ground.phase }, { on := 13, ground := Ground.phase }, { on := 14, ground := Ground.phase }, { on := 15, ground := Ground.phase }, { on := 16, ground := Ground.phase }, { on := 17, ground := Ground.phase }, { on := 18, ground := Ground.phase }, { on := 19, ground := Ground.phase }, { on := 20, ground := Ground.phase }, { on := 21, ground := Ground.phase }, { on := 22, ground := Ground.phase }, { on := 23, ground := Ground.phase }, { on := 24, ground := Ground.phase }, { on := 25, ground := Ground.phase }, { on := 26, ground := Ground.phase }, { on := 27, ground := Ground.phase }], guard := none }) (v := v1) rfl (by kernel_rfl) (by kernel_rfl) (by kernel_rfl) (fun _ _ _ h => h) (Or.inl ⟨by rfl, fun w' hSw => by clear hSw; go_simp⟩) (by assumption) ?_
  simp only [Act.put, List.setIfInBounds_toArray, List.set_cons_zero, List.set_cons_succ]
  refine wpAnyH_done (by kernel_rfl) ?_ _
  refine NoPanic.normal ?_
  rw [Exit.then]
  clear hyb hC1 hHeld
  have c1 := (HB.out.more L1.out.only).c11
  go_wp2_with fail
  refine (znum_one w1 (r.slots.length : Int) (by unfold top; omega)).mono ?_
  rintro e y2 ⟨rfl, ho2⟩
  obtain ⟨v2, w2, hr2, hl2⟩ := (L1.out.more ho2).text (sev (r.slots.length : Int).toNat) 10 (sev_len _) (by omega)
  have R2 := hide hr2
  obtain ⟨l2, el2⟩ : ∃ l, l1 ++ sev (r.slots.length : Int).toNat = l := ⟨_, rfl⟩
  rw [el2] at hl2
  have E2 := hide el2
  have L2 := hide hl2
  clear c1 ho2 hr2 el2 hl2
  have c2 := (HB.out.more L2.out.only).c11
  go_wp2_with (at_builtin; refine Lib.wpList_append_run _ rfl (.tmp 35) (.tmp 40) _ _ rfl _ _ rfl rfl _ _ R2.out ?_)
  refine (znum_zs w2 L.b1 L.c1 L.a1 r.slots (HR0.out.go L2.out.only).slots (fun z hz => (HRG.out.slots z hz).2) (by omega)).mono ?_
  rintro e y3 ⟨rfl, ho3⟩
  obtain ⟨v3, w3, hr3, hl3⟩ := (L2.out.more ho3).text (nums r.slots) 2550 (by have := nums_len r.slots; omega) (by omega)
  have R3 := hide hr3
  obtain ⟨l3, el3⟩ : ∃ l, l2 ++ nums r.slots = l := ⟨_, rfl⟩
  rw [el3] at hl3
  have E3 := hide el3
  have L3 := hide hl3
  clear c2 ho3 hr3 el3 hl3
  have c3 := (HB.out.more L3.out.only).c12
  go_wp2_with (at_builtin; refine Lib.wpList_append_run _ rfl (.tmp 42) (.tmp 45) _ _ rfl _ _ rfl rfl _ _ R3.out ?_)
  refine (znum_one w3 (r.more.length : Int) (by unfold top; omega)).mono ?_
  rintro e y4 ⟨rfl, ho4⟩
  obtain ⟨v4, w4, hr4, hl4⟩ := (L3.out.more ho4).text (sev (r.more.length : Int).toNat) 10 (sev_len _) (by omega)
  have R4 := hide hr4
  obtain ⟨l4, el4⟩ : ∃ l, l3 ++ sev (r.more.length : Int).toNat = l := ⟨_, rfl⟩
  rw [el4] at hl4
  have E4 := hide el4
  have L4 := hide hl4
  clear c3 ho4 hr4 el4 hl4
  have c4 := (HB.out.more L4.out.only).c12
  go_wp2_with (at_builtin; refine Lib.wpList_append_run _ rfl (.tmp 47) (.tmp 52) _ _ rfl _ _ rfl rfl _ _ R4.out ?_)
  refine (znum_zs w4 L.b2 L.c2 L.a2 r.more (HR0.out.go L4.out.only).more (fun z hz => (HRG.out.more z hz).2) (by omega)).mono ?_
  rintro e y5 ⟨rfl, ho5⟩
  obtain ⟨v5, w5, hr5, hl5⟩ := (L4.out.more ho5).text (nums r.more) 2550 (by have := nums_len r.more; omega) (by omega)
  have R5 := hide hr5
  obtain ⟨l5, el5⟩ : ∃ l, l4 ++ nums r.more = l := ⟨_, rfl⟩
  rw [el5] at hl5
  have E5 := hide el5
  have L5 := hide hl5
  clear c4 ho5 hr5 el5 hl5
  have c5 := (HB.out.more L5.out.only).c13
  go_wp2_with (at_builtin; refine Lib.wpList_append_run _ rfl (.tmp 54) (.tmp 57) _ _ rfl _ _ rfl rfl _ _ R5.out ?_)
  refine (znum_one w5 (r.images.length : Int) (by unfold top; omega)).mono ?_
  rintro e y6 ⟨rfl, ho6⟩
  obtain ⟨v6, w6, hr6, hl6⟩ := (L5.out.more ho6).text (sev (r.images.length : Int).toNat) 10 (sev_len _) (by omega)
  have R6 := hide hr6
  obtain ⟨l6, el6⟩ : ∃ l, l5 ++ sev (r.images.length : Int).toNat = l := ⟨_, rfl⟩
  rw [el6] at hl6
  have E6 := hide el6
  have L6 := hide hl6
  clear c5 ho6 hr6 el6 hl6
  have c6 := (HB.out.more L6.out.only).c13
  go_wp2_with (at_builtin; refine Lib.wpList_append_run _ rfl (.tmp 59) (.tmp 64) _ _ rfl _ _ rfl rfl _ _ R6.out ?_)
  have L6' := hide (L6.out.le (N' := 8000) (by omega))
  clear L6 R2 R3 R4 R5 R6
  go_loopw [3, 4] (fun x y wr => ∃ (j : Nat), j ≤ r.images.length ∧ y = .int .i64 (j : Int) ∧ Hid (LN W0 wr x (l6 ++ ((r.images.take j).map imL).flatten) (8000 + 600 * j))) (fun _ y _ => r.images.length - (intOf y).toNat)
  case atStart => exact ⟨0, by omega, rfl, by simpa using L6'⟩
  case round =>
    obtain ⟨j, hj, rfl, HL6⟩ := hrel
    clear c6
    by_cases hlt : j < r.images.length
    · obtain ⟨o, e1, c1⟩ := HI.out.at_ (by omega)
      obtain ⟨D, a, c, kim, _⟩ := c1 j hlt
      have hj1 : (j : Int) < (r.images.length : Int) := by omega
      obtain ⟨z, hz⟩ : ∃ z, r.images[j] = z := ⟨_, rfl⟩
      have hmem : z ∈ r.images := by rw [← hz]; exact List.getElem_mem hlt
      have hpg := HRG.out.images z hmem
      have hvz := imErr_all HE.out z hmem
      have HTK : Hid (((r.images.take (j + 1)).map imL).flatten = ((r.images.take j).map imL).flatten ++ imL z) := by
        unfold Hid; rw [List.take_succ_eq_append_getElem hlt, hz]; simp
      rw [hz] at kim
      have HB3 : Hid (L.b3 < W0.heap.size) := HI.out.lt (by omega)
      have KI : Hid (∀ W, Only (fun _ => False) W0 W → ImAt W L.b3 (o + j * 7) z D a c) := fun W hW => kim.kept HB3.out hW (fun h => h) (fun _ h => h)
      have KC : Hid (∀ W, Only (fun _ => False) W0 W → W.cell? ⟨w.heap.size, 13, none⟩ = some (.slice (some ⟨L.b3, o, none⟩) r.images.length L.c3)) := fun W hW => by rw [← e1]; exact (HB.out.more hW).c13
      obtain ⟨X, hX⟩ : ∃ X, str (bare z.body.enc) = X := ⟨_, rfl⟩
      have hXs : X.size ≤ 512 := by
        rw [← hX, str_size]
        have := bare_len z.body.enc
        rw [enc_len _ hvz.2.2.2.2] at this
        exact this
      have HXT : Hid (imL z = sev z.page.toNat ++ textL X) := by unfold Hid imL textL; rw [← hX, str_size, bl_str]
      have HBR : Hid (∀ W, Only (fun _ => False) W0 W → Calls Tryz.prog 45 #[.agg #[.int .i64 z.body.lsn, .int .i64 z.body.kind, .int .i64 z.body.level, .int .i64 z.body.right, .string z.body.high, .slice a z.body.items.length c]] W fun e w' => e = .returned (.string X) ∧ Only (fun _ => False) W w') := by
        intro W hW
        rw [← hX]
        have k := KI.out W hW
        exact zbare_any W _ _ _ _ _ D c a _ k.strs k.high k.lsn (by show z.body.out.2 = 0; rw [hvz.1])
      obtain ⟨m1, hm1⟩ : ∃ m, sev z.page.toNat = m := ⟨_, rfl⟩
      obtain ⟨m2, hm2⟩ : ∃ m, textL X = m := ⟨_, rfl⟩
      have hml1 : m1.length ≤ 10 := by rw [← hm1]; exact sev_len _
      have hml2 : m2.length ≤ 522 := by
        rw [← hm2]
        have := sev_len X.size
        unfold textL
        rw [List.length_append, bl_len]; omega
      have HN1 : Hid (∀ X, Only (fun _ => False) (wr.alloc (.cells #[.int .i64 z.page] 3)) X → Calls Tryz.prog 43 #[.slice (some ⟨wr.heap.size, 0, none⟩) 1 1] X fun e w' => e = .returned (.string (str m1)) ∧ Only (fun _ => False) wr w') := by
        intro X hX; rw [← hm1]; exact znum_oneX wr X _ hX hpg.2
      have HT2 : Hid (∀ W, Calls Tryz.prog 44 #[.string X] W fun e w' => e = .returned (.string (str m2)) ∧ Only (fun _ => False) W w') := by
        intro W; rw [← hm2]; exact ztext_any W X hXs
      obtain ⟨Y1, hY1⟩ : ∃ Y, str m1 = Y := ⟨_, rfl⟩
      obtain ⟨Y2, hY2⟩ : ∃ Y, str m2 = Y := ⟨_, rfl⟩
      have hyb : Y1.size + Y2.size ≤ 9223372036854775807 := by rw [← hY1, ← hY2, str_size, str_size]; omega
      obtain ⟨C, hC⟩ : ∃ C, Y1 ++ Y2 = C := ⟨_, rfl⟩
      have HA : Hid (∀ W, Only (fun _ => False) wr W → ∃ v' w', (Builtin.append_ #[78, 9] 78 #[u3, .string C]).run Tryz.prog W = .ok v' w' ∧ LN W0 w' v' (l6 ++ ((r.images.take (j + 1)).map imL).flatten) (8000 + 600 * (j + 1))) := by
        intro W hW
        obtain ⟨v', w', q1, q2⟩ := (HL6.out.more hW).text (m1 ++ m2) 600 (by rw [List.length_append]; omega) (by omega)
        refine ⟨v', w', ?_, ?_⟩
        · rw [← hC, ← hY1, ← hY2, str_cat]; exact q1
        · rw [HTK.out, HXT.out, hm1, hm2, ← List.append_assoc]
          exact q2.le (by omega)
      rw [hY1] at HN1
      rw [hY2] at HT2
      have c6 := (HB.out.more HL6.out.only).c13
      clear hX hXs hm1 hm2 hml1 hml2 hY1 hY2 hpg hvz hmem hz kim c1 e1
      go_upto_region 10 with fail
      refine wp_region_noPanic ?_
      refine wp_region_held_drew (S := fun W => Only (fun _ => False) W0 W) (by kernel_rfl) (o2 HL6.out.only (Only.drew _ _)) (fun hHeld => ?_)
      refine wpAnyH_take (i := 0) (oi := { dst := some 73, op := Op.move (Operand.tmp 3), type := 78, pos := "ref.go:66", after := #[], guard := none }) (v := u3) rfl (by kernel_rfl) (by kernel_rfl) (by kernel_rfl) (fun _ _ _ h => h) (Or.inl ⟨by rfl, fun w' hSw => by clear hSw; go_simp⟩) (by assumption) ?_
      simp only [Act.put, List.setIfInBounds_toArray, List.set_cons_zero, List.set_cons_succ]
      refine wpAnyH_take (i := 1) (oi := { dst := some 74, op := Op.fieldAddr 28 (Operand.tmp 1) 13, type := 0, pos := "ref.go:66", after := #[], guard := none }) (v := .pointer (some ⟨w.heap.size, 13, none⟩)) rfl (by kernel_rfl) (by kernel_rfl) (by kernel_rfl) (fun _ _ _ h => h) (Or.inl ⟨by rfl, fun w' hSw => by clear hSw; go_simp⟩) (by assumption) ?_
      simp only [Act.put, List.setIfInBounds_toArray, List.set_cons_zero, List.set_cons_succ]
      refine wpAnyH_take (i := 3) (oi := { dst := some 76, op := Op.move (Operand.tmp 4), type := 3, pos := "ref.go:66", after := #[], guard := none }) (v := .int .i64 (j : Int)) rfl (by kernel_rfl) (by kernel_rfl) (by kernel_rfl) (fun _ _ _ h => h) (Or.inl ⟨by rfl, fun w' hSw => by clear hSw; go_simp⟩) (by assumption) ?_
      simp only [Act.put, List.setIfInBounds_toArray, List.set_cons_zero, List.set_cons_succ]
      refine wpAnyH_take (i := 9) (oi := { dst := some 82, op := Op.fieldAddr 28 (Operand.tmp 1) 13, type := 0, pos := "ref.go:66", after := #[], guard := none }) (v := .pointer (some ⟨w.heap.size, 13, none⟩)) rfl (by kernel_rfl) (by kernel_rfl) (by kernel_rfl) (fun _ _ _ h => h) (Or.inl ⟨by rfl, fun w' hSw => by clear hSw; go_simp⟩) (by assumption) ?_
      simp only [Act.put, List.setIfInBounds_toArray, List.set_cons_zero, List.set_cons_succ]
      refine wpAnyH_take (i := 11) (oi := { dst := some 84, op := Op.move (Operand.tmp 4), type := 3, pos := "ref.go:66", after := #[], guard := none }) (v := .int .i64 (j : Int)) rfl (by kernel_rfl) (by kernel_rfl) (by kernel_rfl) (fun _ _ _ h => h) (Or.inl ⟨by rfl, fun w' hSw => by clear hSw; go_simp⟩) (by assumption) ?_
      simp only [Act.put, List.setIfInBounds_toArray, List.set_cons_zero, List.set_cons_succ]
      refine wpAnyH_take (i := 2) (oi := { dst := some 75, op := Op.load 24 (Operand.tmp 74), type := 24, pos := "ref.go:66", after := #[{ on := 1, ground := Ground.data }], guard := none }) (v := .slice (some ⟨L.b3, o, none⟩) r.images.length L.c3) rfl (by kernel_rfl) (by kernel_rfl) (by kernel_rfl) (fun _ _ _ h => h) (yieldsIf_load_cell (by rfl) 24 _ rfl _ rfl (fun W hW => KC.out W hW) (fun W hc => ld_images hc)) (by assumption) ?_
      simp only [Act.put, List.setIfInBounds_toArray, List.set_cons_zero, List.set_cons_succ]
      refine wpAnyH_take (i := 10) (oi := { dst := some 83, op := Op.load 24 (Operand.tmp 82), type := 24, pos := "ref.go:66", after := #[{ on := 9, ground := Ground.data }], guard := none }) (v := .slice (some ⟨L.b3, o, none⟩) r.images.length L.c3) rfl (by kernel_rfl) (by kernel_rfl) (by kernel_rfl) (fun _ _ _ h => h) (yieldsIf_load_cell (by rfl) 24 _ rfl _ rfl (fun W hW => KC.out W hW) (fun W hc => ld_images hc)) (by assumption) ?_
      simp only [Act.put, List.setIfInBounds_toArray, List.set_cons_zero, List.set_cons_succ]
      refine wpAnyH_take (i := 4) (oi := { dst := some 77, op := Op.indexAddr 24 (Operand.tmp 75) (Operand.tmp 76), type := 0, pos := "ref.go:66", after := #[{ on := 2, ground := Ground.data }, { on := 3, ground := Ground.data }], guard := none }) (v := .pointer (some ⟨L.b3, o + j * 7, none⟩)) rfl (by kernel_rfl) (by kernel_rfl) (by kernel_rfl) (fun _ _ _ h => h) (Or.inl ⟨by rfl, fun w' hSw => by clear hSw; go_simp⟩) (by assumption) ?_
      simp only [Act.put, List.setIfInBounds_toArray, List.set_cons_zero, List.set_cons_succ]
      refine wpAnyH_take (i := 12) (oi := { dst := some 85, op := Op.indexAddr 24 (Operand.tmp 83) (Operand.tmp 84), type := 0, pos := "ref.go:66", after := #[{ on := 10, ground := Ground.data }, { on := 11, ground := Ground.data }], guard := none }) (v := .pointer (some ⟨L.b3, o + j * 7, none⟩)) rfl (by kernel_rfl) (by kernel_rfl) (by kernel_rfl) (fun _ _ _ h => h) (Or.inl ⟨by rfl, fun w' hSw => by clear hSw; go_simp⟩) (by assumption) ?_
      simp only [Act.put, List.setIfInBounds_toArray, List.set_cons_zero, List.set_cons_succ]
      refine wpAnyH_take (i := 5) (oi := { dst := some 78, op := Op.fieldAddr 47 (Operand.tmp 77) 0, type := 0, pos := "ref.go:66", after := #[{ on := 4, ground := Ground.data }], guard := none }) (v := .pointer (some ⟨L.b3, o + j * 7, none⟩)) rfl (by kernel_rfl) (by kernel_rfl) (by kernel_rfl) (fun _ _ _ h => h) (Or.inl ⟨by rfl, fun w' hSw => by clear hSw; go_simp⟩) (by assumption) ?_
      simp only [Act.put, List.setIfInBounds_toArray, List.set_cons_zero, List.set_cons_succ]
      refine wpAnyH_take (i := 13) (oi := { dst := some 86, op := Op.fieldAddr 47 (Operand.tmp 85) 1, type := 0, pos := "ref.go:66", after := #[{ on := 12, ground := Ground.data }], guard := none }) (v := .pointer (some ⟨L.b3, o + j * 7 + 1, none⟩)) rfl (by kernel_rfl) (by kernel_rfl) (by kernel_rfl) (fun _ _ _ h => h) (Or.inl ⟨by rfl, fun w' hSw => by clear hSw; go_simp⟩) (by assumption) ?_
      simp only [Act.put, List.setIfInBounds_toArray, List.set_cons_zero, List.set_cons_succ]
      refine wpAnyH_take (i := 6) (oi := { dst := some 79, op := Op.load 3 (Operand.tmp 78), type := 3, pos := "ref.go:66", after := #[{ on := 5, ground := Ground.data }], guard := none }) (v := .int .i64 z.page) rfl (by kernel_rfl) (by kernel_rfl) (by kernel_rfl) (fun _ _ _ h => h) (yieldsIf_load_cell (by rfl) 3 _ rfl _ rfl (fun W hW => (KI.out W hW).c0) (fun W hc => ld_int hc)) (by assumption) ?_
      simp only [Act.put, List.setIfInBounds_toArray, List.set_cons_zero, List.set_cons_succ]
      refine wpAnyH_take (i := 14) (oi := { dst := some 87, op := Op.load 45 (Operand.tmp 86), type := 45, pos := "ref.go:66", after := #[{ on := 13, ground := Ground.data }], guard := none }) (v := .agg #[.int .i64 z.body.lsn, .int .i64 z.body.kind, .int .i64 z.body.level, .int .i64 z.body.right, .string z.body.high, .slice a z.body.items.length c]) rfl (by kernel_rfl) (by kernel_rfl) (by kernel_rfl) (fun _ _ _ h => h) (yieldsIf_load_im (by rfl) _ rfl rfl (fun W hW => KI.out W hW)) (by assumption) ?_
      simp only [Act.put, List.setIfInBounds_toArray, List.set_cons_zero, List.set_cons_succ]
      refine wpAnyH_ready (rs := [7]) (by kernel_rfl) (by simp) ?_
      refine AllReadyH.cons (o := { dst := some 80, op := Op.buildSlice 23 1 #[(0, Operand.tmp 79)], type := 23, pos := "ref.go:66", after := #[{ on := 6, ground := Ground.data }], guard := none }) rfl (fun K hK => ?_) (AllReadyH.nil)
      go_simp
      refine hK.out _ _ (o2 HL6.out.only (o2 (Only.drew _ _) (onlyA _ _))) (fun hHeld => ?_)
      clear hK K
      try simp only [Act.put, List.setIfInBounds_toArray, List.set_cons_zero, List.set_cons_succ]
      refine wpAnyH_ready (rs := [8]) (by kernel_rfl) (by simp) ?_
      refine AllReadyH.cons (o := { dst := some 81, op := Op.call { callee := Callee.value (Operand.func 43), args := #[Operand.tmp 80], argTypes := #[23] }, type := 9, pos := "ref.go:66", after := #[{ on := 7, ground := Ground.data }], guard := none }) rfl (fun K hK => ?_) (AllReadyH.nil)
      go_simp
      refine (HN1.out _ (Only.drew _ _)).mono ?_
      rintro e x1 ⟨rfl, hx1⟩
      have HX1 := hide hx1
      clear hx1
      refine hK.out _ _ (o2 HL6.out.only HX1.out) (fun hHeld => ?_)
      clear hK K
      try simp only [Act.put, List.setIfInBounds_toArray, List.set_cons_zero, List.set_cons_succ]
      refine wpAnyH_ready (rs := [15]) (by kernel_rfl) (by simp) ?_
      refine AllReadyH.cons (o := { dst := some 88, op := Op.call { callee := Callee.value (Operand.func 45), args := #[Operand.tmp 87], argTypes := #[45] }, type := 9, pos := "ref.go:66", after := #[{ on := 14, ground := Ground.data }, { on := 8, ground := Ground.chain }], guard := none }) rfl (fun K hK => ?_) (AllReadyH.nil)
      go_simp
      refine (HBR.out _ (o2 HL6.out.only HX1.out)).mono ?_
      rintro e x2 ⟨rfl, hx2⟩
      have HX2 := hide (o2 HX1.out hx2)
      clear hx2
      refine hK.out _ _ (o2 HL6.out.only HX2.out) (fun hHeld => ?_)
      clear hK K
      try simp only [Act.put, List.setIfInBounds_toArray, List.set_cons_zero, List.set_cons_succ]
      refine wpAnyH_ready (rs := [16]) (by kernel_rfl) (by simp) ?_
      refine AllReadyH.cons (o := { dst := some 89, op := Op.call { callee := Callee.value (Operand.func 44), args := #[Operand.tmp 88], argTypes := #[9] }, type := 9, pos := "ref.go:66", after := #[{ on := 15, ground := Ground.data }, { on := 15, ground := Ground.chain }], guard := none }) rfl (fun K hK => ?_) (AllReadyH.nil)
      go_simp
      refine (HT2.out _).mono ?_
      rintro e x3 ⟨rfl, hx3⟩
      have HX3 := hide (o2 HX2.out hx3)
      clear hx3
      refine hK.out _ _ (o2 HL6.out.only HX3.out) (fun hHeld => ?_)
      clear hK K
      try simp only [Act.put, List.setIfInBounds_toArray, List.set_cons_zero, List.set_cons_succ]
      refine wpAnyH_take (i := 17) (oi := { dst := some 90, op := Op.binOp BinOp.add 9 (Operand.tmp 81) (Operand.tmp 89) 9, type := 9, pos := "ref.go:66", after := #[{ on := 8, ground := Ground.data }, { on := 16, ground := Ground.data }], guard := none }) (v := .string C) rfl (by kernel_rfl) (by kernel_rfl) (by kernel_rfl) (fun _ _ _ h => h) (Or.inl ⟨by rfl, fun w' hSw => by clear hSw; go_simp⟩) (by assumption) ?_
      simp only [Act.put, List.setIfInBounds_toArray, List.set_cons_zero, List.set_cons_succ]
      refine wpAnyH_ready (rs := [18]) (by kernel_rfl) (by simp) ?_
      refine AllReadyH.cons (o := { dst := some 91, op := Op.call { callee := Callee.builtin Builtin.append, args := #[Operand.tmp 73, Operand.tmp 90], argTypes := #[78, 9] }, type := 78, pos := "ref.go:66", after := #[{ on := 0, ground := Ground.data }, { on := 17, ground := Ground.data }, { on := 16, ground := Ground.chain }], guard := none }) rfl (fun K hK => ?_) (AllReadyH.nil)
      obtain ⟨va, wa, hra, hla⟩ := HA.out _ HX3.out
      have RA := hide hra
      have HLA := hide hla
      clear hra hla
      rw [if_pos (by rfl)]
      refine Lib.wp_append_run _ (.tmp 73) (.tmp 90) _ _ rfl _ _ rfl rfl _ _ RA.out ?_
      refine hK.out _ _ (HLA.out.only) (fun hHeld => ?_)
      clear hK K
      try simp only [Act.put, List.setIfInBounds_toArray, List.set_cons_zero, List.set_cons_succ]
      refine wpAnyH_take (i := 19) (oi := { dst := some 3, op := Op.assign (Operand.tmp 91), type := 78, pos := "ref.go:66", after := #[{ on := 18, ground := Ground.data }, { on := 18, ground := Ground.chain }, { on := 0, ground := Ground.phase }, { on := 1, ground := Ground.phase }, { on := 2, ground := Ground.phase }, { on := 3, ground := Ground.phase }, { on := 4, ground := Ground.phase }, { on := 5, ground := Ground.phase }, { on := 6, ground := Ground.phase }, { on := 7, ground := Ground.phase }, { on := 8, ground := Ground.phase }, { on := 9, ground := Ground.phase }, { on := 10, ground := Ground.phase }, { on := 11, ground := Ground.phase }, { on := 12, ground := Ground.phase }, { on := 13, ground := Ground.phase }, { on := 14, ground := Ground.phase }, { on := 15, ground := Ground.phase }, { on := 16, ground := Ground.phase }, { on := 17, ground := Ground.phase }, { on := 18, ground := Ground.phase }], guard := none }) (v := va) rfl (by kernel_rfl) (by kernel_rfl) (by kernel_rfl) (fun _ _ _ h => h) (Or.inl ⟨by rfl, fun w' hSw => by clear hSw; go_simp⟩) (by assumption) ?_
      simp only [Act.put, List.setIfInBounds_toArray, List.set_cons_zero, List.set_cons_succ]
      refine wpAnyH_done (by kernel_rfl) ?_ _
      refine NoPanic.normal ?_
      go_wp2_with fail
      go_roundw
      case rel => exact ⟨j + 1, by omega, by go_num, HLA⟩
      case measure => simp [intOf]; omega
    · have hj1 : ¬ (j : Int) < (r.images.length : Int) := by omega
      have ej : r.images.take j = r.images := List.take_of_length_le (by omega)
      rw [ej] at HL6
      have c6 := (HB.out.more HL6.out.only).c13
      obtain ⟨lx, ex⟩ : ∃ lx, l6 ++ (r.images.map imL).flatten = lx := ⟨_, rfl⟩
      rw [ex] at HL6
      have EX6 := hide ex
      have cn := (HB.out.more HL6.out.only).c14
      clear ex
      go_wp2_with fail
      refine (znum_one wr (r.pages.length : Int) (by unfold top; omega)).mono ?_
      rintro e y ⟨rfl, ho⟩
      obtain ⟨v7, w7, hr, hl⟩ := (HL6.out.more ho).text (sev (r.pages.length : Int).toNat) 10 (sev_len _) (by omega)
      have R7 := hide hr
      obtain ⟨l7, el⟩ : ∃ l, lx ++ sev (r.pages.length : Int).toNat = l := ⟨_, rfl⟩
      rw [el] at hl
      have E7 := hide el
      have L7' := hide (hl.le (N' := 11000) (by omega))
      clear c6 cn ho hr el hl
      have c7 := (HB.out.more L7'.out.only).c14
      go_wp2_with (at_builtin; refine Lib.wpList_append_run _ rfl (.tmp 92) (.tmp 97) _ _ rfl _ _ rfl rfl _ _ R7.out ?_)
      clear R7
      go_loopw [3, 5] (fun x y wr => ∃ (j : Nat), j ≤ r.pages.length ∧ y = .int .i64 (j : Int) ∧ Hid (LN W0 wr x (l7 ++ ((r.pages.take j).map prL).flatten) (11000 + 20 * j))) (fun _ y _ => r.pages.length - (intOf y).toNat)
      case atStart => exact ⟨0, by omega, rfl, by simpa using L7'⟩
      case round =>
        obtain ⟨j, hj, rfl, HL7⟩ := hrel
        clear c7
        by_cases hlt : j < r.pages.length
        · obtain ⟨o, e1, c1⟩ := HR0.out.pages.at_ (by omega)
          obtain ⟨q0, q1⟩ := c1 j hlt
          have hj1 : (j : Int) < (r.pages.length : Int) := by omega
          obtain ⟨z, hz⟩ : ∃ z, r.pages[j] = z := ⟨_, rfl⟩
          have hmem : z ∈ r.pages := by rw [← hz]; exact List.getElem_mem hlt
          have hpg := HRG.out.pages z hmem
          have HTK : Hid (((r.pages.take (j + 1)).map prL).flatten = ((r.pages.take j).map prL).flatten ++ prL z) := by
            unfold Hid; rw [List.take_succ_eq_append_getElem hlt, hz]; simp
          rw [hz] at q0 q1
          have HBk : Hid (L.b4 < W0.heap.size) := HR0.out.pages.lt (by omega)
          have K0 : Hid (∀ W, Only (fun _ => False) W0 W → W.cell? ⟨L.b4, o + j * 2, none⟩ = some (.int .i64 z.1)) := fun W hW => (hW.cell (p := ⟨L.b4, o + j * 2, none⟩) HBk.out (fun h => h)).trans q0
          have K1 : Hid (∀ W, Only (fun _ => False) W0 W → W.cell? ⟨L.b4, o + j * 2 + 1, none⟩ = some (.int .i64 z.2)) := fun W hW => (hW.cell (p := ⟨L.b4, o + j * 2 + 1, none⟩) HBk.out (fun h => h)).trans q1
          have KC : Hid (∀ W, Only (fun _ => False) W0 W → W.cell? ⟨w.heap.size, 14, none⟩ = some (.slice (some ⟨L.b4, o, none⟩) r.pages.length L.c4)) := fun W hW => by rw [← e1]; exact (HB.out.more hW).c14
          obtain ⟨m1, hm1⟩ : ∃ m, prL z = m := ⟨_, rfl⟩
          have hml1 : m1.length ≤ 20 := by
            rw [← hm1]
            have := sev_len z.1.toNat
            have := sev_len z.2.toNat
            unfold prL
            rw [List.length_append]; omega
          have HN1 : Hid (∀ X, Only (fun _ => False) (wr.alloc (.cells #[.int .i64 z.1, .int .i64 z.2] 3)) X → Calls Tryz.prog 43 #[.slice (some ⟨wr.heap.size, 0, none⟩) 2 2] X fun e w' => e = .returned (.string (str m1)) ∧ Only (fun _ => False) wr w') := by
            intro X hX; rw [← hm1]; exact znum_twoX wr X _ _ hX hpg.1.2 hpg.2.2
          obtain ⟨Y1, hY1⟩ : ∃ Y, str m1 = Y := ⟨_, rfl⟩
          have HA : Hid (∀ W, Only (fun _ => False) wr W → ∃ v' w', (Builtin.append_ #[78, 9] 78 #[u3, .string Y1]).run Tryz.prog W = .ok v' w' ∧ LN W0 w' v' (l7 ++ ((r.pages.take (j + 1)).map prL).flatten) (11000 + 20 * (j + 1))) := by
            intro W hW
            obtain ⟨v', w', q1, q2⟩ := (HL7.out.more hW).text m1 20 hml1 (by omega)
            refine ⟨v', w', ?_, ?_⟩
            · rw [← hY1]; exact q1
            · rw [HTK.out, hm1, ← List.append_assoc]
              exact q2.le (by omega)
          rw [hY1] at HN1
          have c7 := (HB.out.more HL7.out.only).c14
          clear hm1 hml1 hY1 hpg hmem hz c1 e1 q0 q1
          go_upto_region 15 with fail
          refine wp_region_noPanic ?_
          refine wp_region_held_drew (S := fun W => Only (fun _ => False) W0 W) (by kernel_rfl) (o2 HL7.out.only (Only.drew _ _)) (fun hHeld => ?_)
          refine wpAnyH_take (i := 0) (oi := { dst := some 106, op := Op.move (Operand.tmp 3), type := 78, pos := "ref.go:70", after := #[], guard := none }) (v := u3) rfl (by kernel_rfl) (by kernel_rfl) (by kernel_rfl) (fun _ _ _ h => h) (Or.inl ⟨by rfl, fun w' hSw => by clear hSw; go_simp⟩) (by assumption) ?_
          simp only [Act.put, List.setIfInBounds_toArray, List.set_cons_zero, List.set_cons_succ]
          refine wpAnyH_take (i := 1) (oi := { dst := some 107, op := Op.fieldAddr 28 (Operand.tmp 1) 14, type := 0, pos := "ref.go:70", after := #[], guard := none }) (v := .pointer (some ⟨w.heap.size, 14, none⟩)) rfl (by kernel_rfl) (by kernel_rfl) (by kernel_rfl) (fun _ _ _ h => h) (Or.inl ⟨by rfl, fun w' hSw => by clear hSw; go_simp⟩) (by assumption) ?_
          simp only [Act.put, List.setIfInBounds_toArray, List.set_cons_zero, List.set_cons_succ]
          refine wpAnyH_take (i := 3) (oi := { dst := some 109, op := Op.move (Operand.tmp 5), type := 3, pos := "ref.go:70", after := #[], guard := none }) (v := .int .i64 (j : Int)) rfl (by kernel_rfl) (by kernel_rfl) (by kernel_rfl) (fun _ _ _ h => h) (Or.inl ⟨by rfl, fun w' hSw => by clear hSw; go_simp⟩) (by assumption) ?_
          simp only [Act.put, List.setIfInBounds_toArray, List.set_cons_zero, List.set_cons_succ]
          refine wpAnyH_take (i := 7) (oi := { dst := some 113, op := Op.fieldAddr 28 (Operand.tmp 1) 14, type := 0, pos := "ref.go:70", after := #[], guard := none }) (v := .pointer (some ⟨w.heap.size, 14, none⟩)) rfl (by kernel_rfl) (by kernel_rfl) (by kernel_rfl) (fun _ _ _ h => h) (Or.inl ⟨by rfl, fun w' hSw => by clear hSw; go_simp⟩) (by assumption) ?_
          simp only [Act.put, List.setIfInBounds_toArray, List.set_cons_zero, List.set_cons_succ]
          refine wpAnyH_take (i := 9) (oi := { dst := some 115, op := Op.move (Operand.tmp 5), type := 3, pos := "ref.go:70", after := #[], guard := none }) (v := .int .i64 (j : Int)) rfl (by kernel_rfl) (by kernel_rfl) (by kernel_rfl) (fun _ _ _ h => h) (Or.inl ⟨by rfl, fun w' hSw => by clear hSw; go_simp⟩) (by assumption) ?_
          simp only [Act.put, List.setIfInBounds_toArray, List.set_cons_zero, List.set_cons_succ]
          refine wpAnyH_take (i := 2) (oi := { dst := some 108, op := Op.load 25 (Operand.tmp 107), type := 25, pos := "ref.go:70", after := #[{ on := 1, ground := Ground.data }], guard := none }) (v := .slice (some ⟨L.b4, o, none⟩) r.pages.length L.c4) rfl (by kernel_rfl) (by kernel_rfl) (by kernel_rfl) (fun _ _ _ h => h) (yieldsIf_load_cell (by rfl) 25 _ rfl _ rfl (fun W hW => KC.out W hW) (fun W hc => ld_oweds hc)) (by assumption) ?_
          simp only [Act.put, List.setIfInBounds_toArray, List.set_cons_zero, List.set_cons_succ]
          refine wpAnyH_take (i := 8) (oi := { dst := some 114, op := Op.load 25 (Operand.tmp 113), type := 25, pos := "ref.go:70", after := #[{ on := 7, ground := Ground.data }], guard := none }) (v := .slice (some ⟨L.b4, o, none⟩) r.pages.length L.c4) rfl (by kernel_rfl) (by kernel_rfl) (by kernel_rfl) (fun _ _ _ h => h) (yieldsIf_load_cell (by rfl) 25 _ rfl _ rfl (fun W hW => KC.out W hW) (fun W hc => ld_oweds hc)) (by assumption) ?_
          simp only [Act.put, List.setIfInBounds_toArray, List.set_cons_zero, List.set_cons_succ]
          refine wpAnyH_take (i := 4) (oi := { dst := some 110, op := Op.indexAddr 25 (Operand.tmp 108) (Operand.tmp 109), type := 0, pos := "ref.go:70", after := #[{ on := 2, ground := Ground.data }, { on := 3, ground := Ground.data }], guard := none }) (v := .pointer (some ⟨L.b4, o + j * 2, none⟩)) rfl (by kernel_rfl) (by kernel_rfl) (by kernel_rfl) (fun _ _ _ h => h) (Or.inl ⟨by rfl, fun w' hSw => by clear hSw; go_simp⟩) (by assumption) ?_
          simp only [Act.put, List.setIfInBounds_toArray, List.set_cons_zero, List.set_cons_succ]
          refine wpAnyH_take (i := 10) (oi := { dst := some 116, op := Op.indexAddr 25 (Operand.tmp 114) (Operand.tmp 115), type := 0, pos := "ref.go:70", after := #[{ on := 8, ground := Ground.data }, { on := 9, ground := Ground.data }], guard := none }) (v := .pointer (some ⟨L.b4, o + j * 2, none⟩)) rfl (by kernel_rfl) (by kernel_rfl) (by kernel_rfl) (fun _ _ _ h => h) (Or.inl ⟨by rfl, fun w' hSw => by clear hSw; go_simp⟩) (by assumption) ?_
          simp only [Act.put, List.setIfInBounds_toArray, List.set_cons_zero, List.set_cons_succ]
          refine wpAnyH_take (i := 5) (oi := { dst := some 111, op := Op.fieldAddr 50 (Operand.tmp 110) 0, type := 0, pos := "ref.go:70", after := #[{ on := 4, ground := Ground.data }], guard := none }) (v := .pointer (some ⟨L.b4, o + j * 2, none⟩)) rfl (by kernel_rfl) (by kernel_rfl) (by kernel_rfl) (fun _ _ _ h => h) (Or.inl ⟨by rfl, fun w' hSw => by clear hSw; go_simp⟩) (by assumption) ?_
          simp only [Act.put, List.setIfInBounds_toArray, List.set_cons_zero, List.set_cons_succ]
          refine wpAnyH_take (i := 11) (oi := { dst := some 117, op := Op.fieldAddr 50 (Operand.tmp 116) 1, type := 0, pos := "ref.go:70", after := #[{ on := 10, ground := Ground.data }], guard := none }) (v := .pointer (some ⟨L.b4, o + j * 2 + 1, none⟩)) rfl (by kernel_rfl) (by kernel_rfl) (by kernel_rfl) (fun _ _ _ h => h) (Or.inl ⟨by rfl, fun w' hSw => by clear hSw; go_simp⟩) (by assumption) ?_
          simp only [Act.put, List.setIfInBounds_toArray, List.set_cons_zero, List.set_cons_succ]
          refine wpAnyH_take (i := 6) (oi := { dst := some 112, op := Op.load 3 (Operand.tmp 111), type := 3, pos := "ref.go:70", after := #[{ on := 5, ground := Ground.data }], guard := none }) (v := .int .i64 z.1) rfl (by kernel_rfl) (by kernel_rfl) (by kernel_rfl) (fun _ _ _ h => h) (yieldsIf_load_cell (by rfl) 3 _ rfl _ rfl (fun W hW => K0.out W hW) (fun W hc => ld_int hc)) (by assumption) ?_
          simp only [Act.put, List.setIfInBounds_toArray, List.set_cons_zero, List.set_cons_succ]
          refine wpAnyH_take (i := 12) (oi := { dst := some 118, op := Op.load 3 (Operand.tmp 117), type := 3, pos := "ref.go:70", after := #[{ on := 11, ground := Ground.data }], guard := none }) (v := .int .i64 z.2) rfl (by kernel_rfl) (by kernel_rfl) (by kernel_rfl) (fun _ _ _ h => h) (yieldsIf_load_cell (by rfl) 3 _ rfl _ rfl (fun W hW => K1.out W hW) (fun W hc => ld_int hc)) (by assumption) ?_
          simp only [Act.put, List.setIfInBounds_toArray, List.set_cons_zero, List.set_cons_succ]
          refine wpAnyH_ready (rs := [13]) (by kernel_rfl) (by simp) ?_
          refine AllReadyH.cons (o := { dst := some 119, op := Op.buildSlice 23 2 #[(0, Operand.tmp 112), (1, Operand.tmp 118)], type := 23, pos := "ref.go:70", after := #[{ on := 6, ground := Ground.data }, { on := 12, ground := Ground.data }], guard := none }) rfl (fun K hK => ?_) (AllReadyH.nil)
          go_simp
          refine hK.out _ _ (o2 HL7.out.only (o2 (Only.drew _ _) (onlyA _ _))) (fun hHeld => ?_)
          clear hK K
          try simp only [Act.put, List.setIfInBounds_toArray, List.set_cons_zero, List.set_cons_succ]
          refine wpAnyH_ready (rs := [14]) (by kernel_rfl) (by simp) ?_
          refine AllReadyH.cons (o := { dst := some 120, op := Op.call { callee := Callee.value (Operand.func 43), args := #[Operand.tmp 119], argTypes := #[23] }, type := 9, pos := "ref.go:70", after := #[{ on := 13, ground := Ground.data }], guard := none }) rfl (fun K hK => ?_) (AllReadyH.nil)
          go_simp
          refine (HN1.out _ (Only.drew _ _)).mono ?_
          rintro e x1 ⟨rfl, hx1⟩
          have HX1 := hide hx1
          clear hx1
          refine hK.out _ _ (o2 HL7.out.only HX1.out) (fun hHeld => ?_)
          clear hK K
          try simp only [Act.put, List.setIfInBounds_toArray, List.set_cons_zero, List.set_cons_succ]
          refine wpAnyH_ready (rs := [15]) (by kernel_rfl) (by simp) ?_
          refine AllReadyH.cons (o := { dst := some 121, op := Op.call { callee := Callee.builtin Builtin.append, args := #[Operand.tmp 106, Operand.tmp 120], argTypes := #[78, 9] }, type := 78, pos := "ref.go:70", after := #[{ on := 0, ground := Ground.data }, { on := 14, ground := Ground.data }, { on := 14, ground := Ground.chain }], guard := none }) rfl (fun K hK => ?_) (AllReadyH.nil)
          obtain ⟨va, wa, hra, hla⟩ := HA.out _ HX1.out
          have RA := hide hra
          have HLA := hide hla
          clear hra hla
          rw [if_pos (by rfl)]
          refine Lib.wp_append_run _ (.tmp 106) (.tmp 120) _ _ rfl _ _ rfl rfl _ _ RA.out ?_
          refine hK.out _ _ (HLA.out.only) (fun hHeld => ?_)
          clear hK K
          try simp only [Act.put, List.setIfInBounds_toArray, List.set_cons_zero, List.set_cons_succ]
          refine wpAnyH_take (i := 16) (oi := { dst := some 3, op := Op.assign (Operand.tmp 121), type := 78, pos := "ref.go:70", after := #[{ on := 15, ground := Ground.data }, { on := 15, ground := Ground.chain }, { on := 0, ground := Ground.phase }, { on := 1, ground := Ground.phase }, { on := 2, ground := Ground.phase }, { on := 3, ground := Ground.phase }, { on := 4, ground := Ground.phase }, { on := 5, ground := Ground.phase }, { on := 6, ground := Ground.phase }, { on := 7, ground := Ground.phase }, { on := 8, ground := Ground.phase }, { on := 9, ground := Ground.phase }, { on := 10, ground := Ground.phase }, { on := 11, ground := Ground.phase }, { on := 12, ground := Ground.phase }, { on := 13, ground := Ground.phase }, { on := 14, ground := Ground.phase }, { on := 15, ground := Ground.phase }], guard := none }) (v := va) rfl (by kernel_rfl) (by kernel_rfl) (by kernel_rfl) (fun _ _ _ h => h) (Or.inl ⟨by rfl, fun w' hSw => by clear hSw; go_simp⟩) (by assumption) ?_
          simp only [Act.put, List.setIfInBounds_toArray, List.set_cons_zero, List.set_cons_succ]
          refine wpAnyH_done (by kernel_rfl) ?_ _
          refine NoPanic.normal ?_
          go_wp2_with fail
          go_roundw
          case rel => exact ⟨j + 1, by omega, by go_num, HLA⟩
          case measure => simp [intOf]; omega
        · have hj1 : ¬ (j : Int) < (r.pages.length : Int) := by omega
          have ej : r.pages.take j = r.pages := List.take_of_length_le (by omega)
          rw [ej] at HL7
          have c7 := (HB.out.more HL7.out.only).c14
          obtain ⟨lx, ex⟩ : ∃ lx, l7 ++ (r.pages.map prL).flatten = lx := ⟨_, rfl⟩
          rw [ex] at HL7
          have EX7 := hide ex
          have cn := (HB.out.more HL7.out.only).c15
          clear ex
          go_wp2_with fail
          refine (znum_one wr (r.txns.length : Int) (by unfold top; omega)).mono ?_
          rintro e y ⟨rfl, ho⟩
          obtain ⟨v8, w8, hr, hl⟩ := (HL7.out.more ho).text (sev (r.txns.length : Int).toNat) 10 (sev_len _) (by omega)
          have R8 := hide hr
          obtain ⟨l8, el⟩ : ∃ l, lx ++ sev (r.txns.length : Int).toNat = l := ⟨_, rfl⟩
          rw [el] at hl
          have E8 := hide el
          have L8' := hide (hl.le (N' := 200000) (by omega))
          clear c7 cn ho hr el hl
          have c8 := (HB.out.more L8'.out.only).c15
          go_wp2_with (at_builtin; refine Lib.wpList_append_run _ rfl (.tmp 122) (.tmp 127) _ _ rfl _ _ rfl rfl _ _ R8.out ?_)
          clear R8
          go_loopw [3, 6] (fun x y wr => ∃ (j : Nat), j ≤ r.txns.length ∧ y = .int .i64 (j : Int) ∧ Hid (LN W0 wr x (l8 ++ ((r.txns.take j).map prL).flatten) (200000 + 20 * j))) (fun _ y _ => r.txns.length - (intOf y).toNat)
          case atStart => exact ⟨0, by omega, rfl, by simpa using L8'⟩
          case round =>
            obtain ⟨j, hj, rfl, HL8⟩ := hrel
            clear c8
            by_cases hlt : j < r.txns.length
            · obtain ⟨o, e1, c1⟩ := HR0.out.txns.at_ (by omega)
              obtain ⟨q0, q1⟩ := c1 j hlt
              have hj1 : (j : Int) < (r.txns.length : Int) := by omega
              obtain ⟨z, hz⟩ : ∃ z, r.txns[j] = z := ⟨_, rfl⟩
              have hmem : z ∈ r.txns := by rw [← hz]; exact List.getElem_mem hlt
              have hpg := HRG.out.txns z hmem
              have HTK : Hid (((r.txns.take (j + 1)).map prL).flatten = ((r.txns.take j).map prL).flatten ++ prL z) := by
                unfold Hid; rw [List.take_succ_eq_append_getElem hlt, hz]; simp
              rw [hz] at q0 q1
              have HBk : Hid (L.b5 < W0.heap.size) := HR0.out.txns.lt (by omega)
              have K0 : Hid (∀ W, Only (fun _ => False) W0 W → W.cell? ⟨L.b5, o + j * 2, none⟩ = some (.int .i64 z.1)) := fun W hW => (hW.cell (p := ⟨L.b5, o + j * 2, none⟩) HBk.out (fun h => h)).trans q0
              have K1 : Hid (∀ W, Only (fun _ => False) W0 W → W.cell? ⟨L.b5, o + j * 2 + 1, none⟩ = some (.int .i64 z.2)) := fun W hW => (hW.cell (p := ⟨L.b5, o + j * 2 + 1, none⟩) HBk.out (fun h => h)).trans q1
              have KC : Hid (∀ W, Only (fun _ => False) W0 W → W.cell? ⟨w.heap.size, 15, none⟩ = some (.slice (some ⟨L.b5, o, none⟩) r.txns.length L.c5)) := fun W hW => by rw [← e1]; exact (HB.out.more hW).c15
              obtain ⟨m1, hm1⟩ : ∃ m, prL z = m := ⟨_, rfl⟩
              have hml1 : m1.length ≤ 20 := by
                rw [← hm1]
                have := sev_len z.1.toNat
                have := sev_len z.2.toNat
                unfold prL
                rw [List.length_append]; omega
              have HN1 : Hid (∀ X, Only (fun _ => False) (wr.alloc (.cells #[.int .i64 z.1, .int .i64 z.2] 3)) X → Calls Tryz.prog 43 #[.slice (some ⟨wr.heap.size, 0, none⟩) 2 2] X fun e w' => e = .returned (.string (str m1)) ∧ Only (fun _ => False) wr w') := by
                intro X hX; rw [← hm1]; exact znum_twoX wr X _ _ hX hpg.1.2 hpg.2.2
              obtain ⟨Y1, hY1⟩ : ∃ Y, str m1 = Y := ⟨_, rfl⟩
              have HA : Hid (∀ W, Only (fun _ => False) wr W → ∃ v' w', (Builtin.append_ #[78, 9] 78 #[u3, .string Y1]).run Tryz.prog W = .ok v' w' ∧ LN W0 w' v' (l8 ++ ((r.txns.take (j + 1)).map prL).flatten) (200000 + 20 * (j + 1))) := by
                intro W hW
                obtain ⟨v', w', q1, q2⟩ := (HL8.out.more hW).text m1 20 hml1 (by omega)
                refine ⟨v', w', ?_, ?_⟩
                · rw [← hY1]; exact q1
                · rw [HTK.out, hm1, ← List.append_assoc]
                  exact q2.le (by omega)
              rw [hY1] at HN1
              have c8 := (HB.out.more HL8.out.only).c15
              clear hm1 hml1 hY1 hpg hmem hz c1 e1 q0 q1
              go_upto_region 20 with fail
              refine wp_region_noPanic ?_
              refine wp_region_held_drew (S := fun W => Only (fun _ => False) W0 W) (by kernel_rfl) (o2 HL8.out.only (Only.drew _ _)) (fun hHeld => ?_)
              refine wpAnyH_take (i := 0) (oi := { dst := some 136, op := Op.move (Operand.tmp 3), type := 78, pos := "ref.go:74", after := #[], guard := none }) (v := u3) rfl (by kernel_rfl) (by kernel_rfl) (by kernel_rfl) (fun _ _ _ h => h) (Or.inl ⟨by rfl, fun w' hSw => by clear hSw; go_simp⟩) (by assumption) ?_
              simp only [Act.put, List.setIfInBounds_toArray, List.set_cons_zero, List.set_cons_succ]
              refine wpAnyH_take (i := 1) (oi := { dst := some 137, op := Op.fieldAddr 28 (Operand.tmp 1) 15, type := 0, pos := "ref.go:74", after := #[], guard := none }) (v := .pointer (some ⟨w.heap.size, 15, none⟩)) rfl (by kernel_rfl) (by kernel_rfl) (by kernel_rfl) (fun _ _ _ h => h) (Or.inl ⟨by rfl, fun w' hSw => by clear hSw; go_simp⟩) (by assumption) ?_
              simp only [Act.put, List.setIfInBounds_toArray, List.set_cons_zero, List.set_cons_succ]
              refine wpAnyH_take (i := 3) (oi := { dst := some 139, op := Op.move (Operand.tmp 6), type := 3, pos := "ref.go:74", after := #[], guard := none }) (v := .int .i64 (j : Int)) rfl (by kernel_rfl) (by kernel_rfl) (by kernel_rfl) (fun _ _ _ h => h) (Or.inl ⟨by rfl, fun w' hSw => by clear hSw; go_simp⟩) (by assumption) ?_
              simp only [Act.put, List.setIfInBounds_toArray, List.set_cons_zero, List.set_cons_succ]
              refine wpAnyH_take (i := 7) (oi := { dst := some 143, op := Op.fieldAddr 28 (Operand.tmp 1) 15, type := 0, pos := "ref.go:74", after := #[], guard := none }) (v := .pointer (some ⟨w.heap.size, 15, none⟩)) rfl (by kernel_rfl) (by kernel_rfl) (by kernel_rfl) (fun _ _ _ h => h) (Or.inl ⟨by rfl, fun w' hSw => by clear hSw; go_simp⟩) (by assumption) ?_
              simp only [Act.put, List.setIfInBounds_toArray, List.set_cons_zero, List.set_cons_succ]
              refine wpAnyH_take (i := 9) (oi := { dst := some 145, op := Op.move (Operand.tmp 6), type := 3, pos := "ref.go:74", after := #[], guard := none }) (v := .int .i64 (j : Int)) rfl (by kernel_rfl) (by kernel_rfl) (by kernel_rfl) (fun _ _ _ h => h) (Or.inl ⟨by rfl, fun w' hSw => by clear hSw; go_simp⟩) (by assumption) ?_
              simp only [Act.put, List.setIfInBounds_toArray, List.set_cons_zero, List.set_cons_succ]
              refine wpAnyH_take (i := 2) (oi := { dst := some 138, op := Op.load 26 (Operand.tmp 137), type := 26, pos := "ref.go:74", after := #[{ on := 1, ground := Ground.data }], guard := none }) (v := .slice (some ⟨L.b5, o, none⟩) r.txns.length L.c5) rfl (by kernel_rfl) (by kernel_rfl) (by kernel_rfl) (fun _ _ _ h => h) (yieldsIf_load_cell (by rfl) 26 _ rfl _ rfl (fun W hW => KC.out W hW) (fun W hc => ld_beguns hc)) (by assumption) ?_
              simp only [Act.put, List.setIfInBounds_toArray, List.set_cons_zero, List.set_cons_succ]
              refine wpAnyH_take (i := 8) (oi := { dst := some 144, op := Op.load 26 (Operand.tmp 143), type := 26, pos := "ref.go:74", after := #[{ on := 7, ground := Ground.data }], guard := none }) (v := .slice (some ⟨L.b5, o, none⟩) r.txns.length L.c5) rfl (by kernel_rfl) (by kernel_rfl) (by kernel_rfl) (fun _ _ _ h => h) (yieldsIf_load_cell (by rfl) 26 _ rfl _ rfl (fun W hW => KC.out W hW) (fun W hc => ld_beguns hc)) (by assumption) ?_
              simp only [Act.put, List.setIfInBounds_toArray, List.set_cons_zero, List.set_cons_succ]
              refine wpAnyH_take (i := 4) (oi := { dst := some 140, op := Op.indexAddr 26 (Operand.tmp 138) (Operand.tmp 139), type := 0, pos := "ref.go:74", after := #[{ on := 2, ground := Ground.data }, { on := 3, ground := Ground.data }], guard := none }) (v := .pointer (some ⟨L.b5, o + j * 2, none⟩)) rfl (by kernel_rfl) (by kernel_rfl) (by kernel_rfl) (fun _ _ _ h => h) (Or.inl ⟨by rfl, fun w' hSw => by clear hSw; go_simp⟩) (by assumption) ?_
              simp only [Act.put, List.setIfInBounds_toArray, List.set_cons_zero, List.set_cons_succ]
              refine wpAnyH_take (i := 10) (oi := { dst := some 146, op := Op.indexAddr 26 (Operand.tmp 144) (Operand.tmp 145), type := 0, pos := "ref.go:74", after := #[{ on := 8, ground := Ground.data }, { on := 9, ground := Ground.data }], guard := none }) (v := .pointer (some ⟨L.b5, o + j * 2, none⟩)) rfl (by kernel_rfl) (by kernel_rfl) (by kernel_rfl) (fun _ _ _ h => h) (Or.inl ⟨by rfl, fun w' hSw => by clear hSw; go_simp⟩) (by assumption) ?_
              simp only [Act.put, List.setIfInBounds_toArray, List.set_cons_zero, List.set_cons_succ]
              refine wpAnyH_take (i := 5) (oi := { dst := some 141, op := Op.fieldAddr 52 (Operand.tmp 140) 0, type := 0, pos := "ref.go:74", after := #[{ on := 4, ground := Ground.data }], guard := none }) (v := .pointer (some ⟨L.b5, o + j * 2, none⟩)) rfl (by kernel_rfl) (by kernel_rfl) (by kernel_rfl) (fun _ _ _ h => h) (Or.inl ⟨by rfl, fun w' hSw => by clear hSw; go_simp⟩) (by assumption) ?_
              simp only [Act.put, List.setIfInBounds_toArray, List.set_cons_zero, List.set_cons_succ]
              refine wpAnyH_take (i := 11) (oi := { dst := some 147, op := Op.fieldAddr 52 (Operand.tmp 146) 1, type := 0, pos := "ref.go:74", after := #[{ on := 10, ground := Ground.data }], guard := none }) (v := .pointer (some ⟨L.b5, o + j * 2 + 1, none⟩)) rfl (by kernel_rfl) (by kernel_rfl) (by kernel_rfl) (fun _ _ _ h => h) (Or.inl ⟨by rfl, fun w' hSw => by clear hSw; go_simp⟩) (by assumption) ?_
              simp only [Act.put, List.setIfInBounds_toArray, List.set_cons_zero, List.set_cons_succ]
              refine wpAnyH_take (i := 6) (oi := { dst := some 142, op := Op.load 3 (Operand.tmp 141), type := 3, pos := "ref.go:74", after := #[{ on := 5, ground := Ground.data }], guard := none }) (v := .int .i64 z.1) rfl (by kernel_rfl) (by kernel_rfl) (by kernel_rfl) (fun _ _ _ h => h) (yieldsIf_load_cell (by rfl) 3 _ rfl _ rfl (fun W hW => K0.out W hW) (fun W hc => ld_int hc)) (by assumption) ?_
              simp only [Act.put, List.setIfInBounds_toArray, List.set_cons_zero, List.set_cons_succ]
              refine wpAnyH_take (i := 12) (oi := { dst := some 148, op := Op.load 3 (Operand.tmp 147), type := 3, pos := "ref.go:74", after := #[{ on := 11, ground := Ground.data }], guard := none }) (v := .int .i64 z.2) rfl (by kernel_rfl) (by kernel_rfl) (by kernel_rfl) (fun _ _ _ h => h) (yieldsIf_load_cell (by rfl) 3 _ rfl _ rfl (fun W hW => K1.out W hW) (fun W hc => ld_int hc)) (by assumption) ?_
              simp only [Act.put, List.setIfInBounds_toArray, List.set_cons_zero, List.set_cons_succ]
              refine wpAnyH_ready (rs := [13]) (by kernel_rfl) (by simp) ?_
              refine AllReadyH.cons (o := { dst := some 149, op := Op.buildSlice 23 2 #[(0, Operand.tmp 142), (1, Operand.tmp 148)], type := 23, pos := "ref.go:74", after := #[{ on := 6, ground := Ground.data }, { on := 12, ground := Ground.data }], guard := none }) rfl (fun K hK => ?_) (AllReadyH.nil)
              go_simp
              refine hK.out _ _ (o2 HL8.out.only (o2 (Only.drew _ _) (onlyA _ _))) (fun hHeld => ?_)
              clear hK K
              try simp only [Act.put, List.setIfInBounds_toArray, List.set_cons_zero, List.set_cons_succ]
              refine wpAnyH_ready (rs := [14]) (by kernel_rfl) (by simp) ?_
              refine AllReadyH.cons (o := { dst := some 150, op := Op.call { callee := Callee.value (Operand.func 43), args := #[Operand.tmp 149], argTypes := #[23] }, type := 9, pos := "ref.go:74", after := #[{ on := 13, ground := Ground.data }], guard := none }) rfl (fun K hK => ?_) (AllReadyH.nil)
              go_simp
              refine (HN1.out _ (Only.drew _ _)).mono ?_
              rintro e x1 ⟨rfl, hx1⟩
              have HX1 := hide hx1
              clear hx1
              refine hK.out _ _ (o2 HL8.out.only HX1.out) (fun hHeld => ?_)
              clear hK K
              try simp only [Act.put, List.setIfInBounds_toArray, List.set_cons_zero, List.set_cons_succ]
              refine wpAnyH_ready (rs := [15]) (by kernel_rfl) (by simp) ?_
              refine AllReadyH.cons (o := { dst := some 151, op := Op.call { callee := Callee.builtin Builtin.append, args := #[Operand.tmp 136, Operand.tmp 150], argTypes := #[78, 9] }, type := 78, pos := "ref.go:74", after := #[{ on := 0, ground := Ground.data }, { on := 14, ground := Ground.data }, { on := 14, ground := Ground.chain }], guard := none }) rfl (fun K hK => ?_) (AllReadyH.nil)
              obtain ⟨va, wa, hra, hla⟩ := HA.out _ HX1.out
              have RA := hide hra
              have HLA := hide hla
              clear hra hla
              rw [if_pos (by rfl)]
              refine Lib.wp_append_run _ (.tmp 136) (.tmp 150) _ _ rfl _ _ rfl rfl _ _ RA.out ?_
              refine hK.out _ _ (HLA.out.only) (fun hHeld => ?_)
              clear hK K
              try simp only [Act.put, List.setIfInBounds_toArray, List.set_cons_zero, List.set_cons_succ]
              refine wpAnyH_take (i := 16) (oi := { dst := some 3, op := Op.assign (Operand.tmp 151), type := 78, pos := "ref.go:74", after := #[{ on := 15, ground := Ground.data }, { on := 15, ground := Ground.chain }, { on := 0, ground := Ground.phase }, { on := 1, ground := Ground.phase }, { on := 2, ground := Ground.phase }, { on := 3, ground := Ground.phase }, { on := 4, ground := Ground.phase }, { on := 5, ground := Ground.phase }, { on := 6, ground := Ground.phase }, { on := 7, ground := Ground.phase }, { on := 8, ground := Ground.phase }, { on := 9, ground := Ground.phase }, { on := 10, ground := Ground.phase }, { on := 11, ground := Ground.phase }, { on := 12, ground := Ground.phase }, { on := 13, ground := Ground.phase }, { on := 14, ground := Ground.phase }, { on := 15, ground := Ground.phase }], guard := none }) (v := va) rfl (by kernel_rfl) (by kernel_rfl) (by kernel_rfl) (fun _ _ _ h => h) (Or.inl ⟨by rfl, fun w' hSw => by clear hSw; go_simp⟩) (by assumption) ?_
              simp only [Act.put, List.setIfInBounds_toArray, List.set_cons_zero, List.set_cons_succ]
              refine wpAnyH_done (by kernel_rfl) ?_ _
              refine NoPanic.normal ?_
              go_wp2_with fail
              go_roundw
              case rel => exact ⟨j + 1, by omega, by go_num, HLA⟩
              case measure => simp [intOf]; omega
            · have hj1 : ¬ (j : Int) < (r.txns.length : Int) := by omega
              have ej : r.txns.take j = r.txns := List.take_of_length_le (by omega)
              rw [ej] at HL8
              have c8 := (HB.out.more HL8.out.only).c15
              have hcv := HL8.out.back
              go_wp2_with fail
              go_ret
              refine ⟨ret_txt ?_, o2 HOX.out HL8.out.only⟩
              apply congrArg str
              rw [← E8.out, ← EX7.out, ← E7.out, ← EX6.out, ← E6.out, ← E5.out, ← E4.out, ← E3.out, ← E2.out, ← E1.out]
              simp only [Int.toNat_natCast, List.append_assoc, Rc.lay]
end Go.Proofs.YtfjmidcldjfckaaGreatDoor

namespace Go.Proofs.YtfjmidcldjfckaaGreatDoor
open Go.RowKit

set_option maxRecDepth 100000 in
set_option maxHeartbeats 3200000 in
theorem zcheck_any (w : World) (r : Rc) (L : Loc) (h : RcAt w r L) :
    Calls Tryz.prog 14 #[.agg (r.cells L)] w fun e w' => CkQ w w' e r := by
  have HR := hide h
  have hk0 := h.kind.1
  have hk1 := h.kind.2
  clear h
  have HO0 := hide (onlyA w (.cells (r.cells L) 28))
  have HB := hide (Bx.new w r L)
  obtain ⟨W0, hW0⟩ : ∃ W0, w.alloc (.cells (r.cells L) 28) = W0 := ⟨_, rfl⟩
  rw [hW0] at HO0 HB
  have HW0 := hide hW0
  clear hW0
  by_cases hk : 1 ≤ r.kind ∧ r.kind ≤ 13
  · obtain ⟨k0, k1⟩ := hk
    have k0' : ¬ r.kind < 1 := by omega
    have k1' : ¬ 13 < r.kind := by omega
    go_enter Tryz.func14, Tryz.ntmps14
    go_wp2_with fail
    rw [HW0.out]
    refine (zranges_any W0 r L (HR.out.go HO0.out)).mono ?_
    rintro e w1 ⟨hb, ho1⟩
    obtain ⟨c, rfl, hc⟩ := hb.ex
    have HC1 := hide hc
    have HO1 := hide (o2 HO0.out ho1)
    have HB1 := hide (HB.out.more ho1)
    clear hc hb ho1
    cases c with
    | false =>
      go_wp2_with fail
      go_ret
      exact ⟨⟨([], 4), bd_rng ⟨k0, k1⟩ (fun h => by have := HC1.out.2 h; simp at this), rfl⟩, HO1.out⟩
    | true =>
      have HRG := hide (HC1.out.1 (by trivial))
      obtain ⟨_, _, _, _, _, _, _, _, _, _, b10, b11, b12, b13, b14, b15, _⟩ := HB1.out
      by_cases q0 : r.data.size ≤ 512
      · have q0' : ¬ (512 : Int) < (r.data.size : Int) := by omega
        by_cases q1 : r.slots.length ≤ 255
        · have q1' : ¬ (255 : Int) < (r.slots.length : Int) := by omega
          by_cases q2 : r.more.length ≤ 255
          · have q2' : ¬ (255 : Int) < (r.more.length : Int) := by omega
            by_cases q3 : r.images.length ≤ 4
            · have q3' : ¬ (4 : Int) < (r.images.length : Int) := by omega
              by_cases q4 : r.pages.length ≤ 8192
              · have q4' : ¬ (8192 : Int) < (r.pages.length : Int) := by omega
                by_cases q5 : r.txns.length ≤ 1024
                · have q5' : ¬ (1024 : Int) < (r.txns.length : Int) := by omega
                  have HSH : Hid r.short := ⟨q0, q1, q2, q3, q4, q5⟩
                  have HR1 := hide (HR.out.go HO1.out)
                  obtain ⟨T, hims⟩ := HR1.out.images
                  have HI := hide hims
                  clear hims
                  go_wp2_with fail
                  clear b10 b11 b12 b13 b14 b15 q0' q1' q2' q3' q4' q5'
                  go_loopw [3, 4, 5] (fun x _ _ wr => ∃ (j : Nat), j ≤ r.images.length ∧ x = .int .i64 (j : Int) ∧ Hid (imErr (r.images.take j) = 0) ∧ Hid (Only (fun _ => False) w1 wr)) (fun x _ _ _ => r.images.length - (intOf x).toNat)
                  case atStart => exact ⟨0, by omega, rfl, rfl, Only.refl _ _⟩
                  case round =>
                    obtain ⟨j, hj, rfl, HE, HX⟩ := hrel
                    have b13 := (HB1.out.more HX.out).c13
                    by_cases hlt : j < r.images.length
                    · have hj1 : (j : Int) < (r.images.length : Int) := by omega
                      obtain ⟨o, e1, c1⟩ := (HI.out.more HX.out).at_ (by omega)
                      obtain ⟨D, a, c, kim, _⟩ := c1 j hlt
                      obtain ⟨z, hz⟩ : ∃ z, r.images[j] = z := ⟨_, rfl⟩
                      have HT : Hid (r.images.take (j + 1) = r.images.take j ++ [z]) := by unfold Hid; rw [List.take_succ_eq_append_getElem hlt, hz]
                      rw [hz] at kim
                      have HOUT : Hid (imErr (r.images.take (j + 1)) = z.body.out.2) := by unfold Hid; rw [HT.out]; exact imErr_app _ _ HE.out
                      have HEN := hide (yencode_any wr z.body.lsn z.body.kind z.body.level z.body.right z.body.high D c a z.body.items kim.strs kim.high kim.lsn)
                      have d1 := kim.c1
                      have d2 := kim.c2
                      have d3 := kim.c3
                      have d4 := kim.c4
                      have d5 := kim.c5
                      have d6 := kim.c6
                      rw [e1] at b13
                      clear c1 hz kim e1
                      go_wp2_with fail
                      refine HEN.out.mono ?_
                      rintro e w2 ⟨rfl, ho2⟩
                      have HX2 := hide (o2 HX.out ho2)
                      have HB2 := hide (HB1.out.more HX2.out)
                      obtain ⟨X, hX⟩ : ∃ X, str (Pg.out ⟨z.body.lsn, z.body.kind, z.body.level, z.body.right, z.body.high, z.body.items⟩).1 = X := ⟨_, rfl⟩
                      obtain ⟨q, hq⟩ : ∃ q, (Pg.out ⟨z.body.lsn, z.body.kind, z.body.level, z.body.right, z.body.high, z.body.items⟩).2 = q := ⟨_, rfl⟩
                      rw [hX, hq]
                      have HQ : Hid (z.body.out.2 = q) := hq
                      clear hX hq ho2 b13 d1 d2 d3 d4 d5 d6
                      by_cases hc : q = 0
                      · have hc' : (q != 0) = false := by simpa using hc
                        have HC0 := hide hc
                        clear hc
                        go_wp2_with fail
                        go_roundw
                        case rel => exact ⟨j + 1, by omega, by go_num, HOUT.out.trans (HQ.out.trans HC0.out), HX2⟩
                        case measure => simp [intOf]; omega
                      · have hc' : (q != 0) = true := by simpa using hc
                        have HC0 := hide hc
                        clear hc
                        have HER : Hid (imErr r.images = q) := by
                          unfold Hid
                          rw [← HQ.out, ← HOUT.out]
                          exact imErr_take r.images (j + 1) (by rw [HOUT.out, HQ.out]; exact HC0.out)
                        go_wp2_with fail
                        go_ret
                        refine ⟨⟨([], imErr r.images), bd_ims ⟨k0, k1⟩ HRG.out HSH.out (by rw [HER.out]; exact HC0.out), ?_⟩, o2 HO1.out HX2.out⟩
                        rw [HER.out]; rfl
                    · have hj1 : ¬ (j : Int) < (r.images.length : Int) := by omega
                      have ej : r.images.take j = r.images := List.take_of_length_le (by omega)
                      rw [ej] at HE
                      clear b13
                      obtain ⟨b0, b1, b2, b3, b4, b5, b6, b7, b8, b9, b10, b11, b12, b13, b14, b15, _⟩ := HB1.out.more HX.out
                      have HR2 := hide (HR1.out.go HX.out)
                      go_wp2_with fail
                      refine (zbody_any wr r L HR2.out k0 k1 HRG.out HSH.out HE.out).mono ?_
                      rintro e w4 ⟨rfl, ho4⟩
                      have HO4 := hide (o2 HO1.out (o2 HX.out ho4))
                      clear ho4 b0 b1 b2 b3 b4 b5 b6 b7 b8 b9 b10 b11 b12 b13 b14 b15
                      obtain ⟨X, hX⟩ : ∃ X, str r.lay = X := ⟨_, rfl⟩
                      have hXs : X.size = r.lay.length := by rw [← hX, str_size]
                      rw [hX]
                      clear hX
                      by_cases hl : 65535 < r.lay.length
                      · have hl' : (65535 : Int) < (X.size : Int) := by omega
                        clear hXs
                        go_wp2_with fail
                        go_ret
                        exact ⟨⟨([], 3), bd_len ⟨k0, k1⟩ HRG.out HSH.out HE.out hl, rfl⟩, HO4.out⟩
                      · have hl' : ¬ (65535 : Int) < (X.size : Int) := by omega
                        clear hXs
                        go_wp2_with fail
                        go_ret
                        exact ⟨⟨(r.lay, 0), bd_ok ⟨k0, k1, HRG.out, HSH.out, HE.out, by omega⟩, rfl⟩, HO4.out⟩
                · have q5' : (1024 : Int) < (r.txns.length : Int) := by omega
                  go_wp2_with fail
                  go_ret
                  exact ⟨⟨([], 3), bd_short ⟨k0, k1⟩ HRG.out (fun h => q5 h.txns), rfl⟩, HO1.out⟩
              · have q4' : (8192 : Int) < (r.pages.length : Int) := by omega
                go_wp2_with fail
                go_ret
                exact ⟨⟨([], 3), bd_short ⟨k0, k1⟩ HRG.out (fun h => q4 h.pages), rfl⟩, HO1.out⟩
            · have q3' : (4 : Int) < (r.images.length : Int) := by omega
              go_wp2_with fail
              go_ret
              exact ⟨⟨([], 3), bd_short ⟨k0, k1⟩ HRG.out (fun h => q3 h.images), rfl⟩, HO1.out⟩
          · have q2' : (255 : Int) < (r.more.length : Int) := by omega
            go_wp2_with fail
            go_ret
            exact ⟨⟨([], 3), bd_short ⟨k0, k1⟩ HRG.out (fun h => q2 h.more), rfl⟩, HO1.out⟩
        · have q1' : (255 : Int) < (r.slots.length : Int) := by omega
          go_wp2_with fail
          go_ret
          exact ⟨⟨([], 3), bd_short ⟨k0, k1⟩ HRG.out (fun h => q1 h.slots), rfl⟩, HO1.out⟩
      · have q0' : (512 : Int) < (r.data.size : Int) := by omega
        go_wp2_with fail
        go_ret
        exact ⟨⟨([], 3), bd_short ⟨k0, k1⟩ HRG.out (fun h => q0 h.data), rfl⟩, HO1.out⟩
  · by_cases hk2 : r.kind < 1
    · go_enter Tryz.func14, Tryz.ntmps14
      go_wp2_with fail
      rw [HW0.out]
      go_ret
      exact ⟨⟨([], 41), bd_kind (by omega), rfl⟩, HO0.out⟩
    · have hk3 : 13 < r.kind := by omega
      clear hk
      go_enter Tryz.func14, Tryz.ntmps14
      go_wp2_with fail
      rw [HW0.out]
      go_ret
      exact ⟨⟨([], 41), bd_kind (by omega), rfl⟩, HO0.out⟩
end Go.Proofs.YtfjmidcldjfckaaGreatDoor
