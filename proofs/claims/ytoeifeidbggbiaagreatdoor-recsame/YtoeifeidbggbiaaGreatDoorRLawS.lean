/- Walk of RecSame. -/
import Derived.Test.YtoeifeidbggbiaaGreatDoorRLawT
namespace Go.Proofs.YtoeifeidbggbiaaGreatDoor
open Go.RowKit

theorem EnQ.any {w w' : World} {e : Ending} {r : Rc} (h : EnQ w w' e r) : ∃ s c, e = .returned (.tuple #[.string s, .int .i64 c]) ∧ ((c = 0 ∧ r.valid ∧ s = str r.enc) ∨ (c != 0) = true) := by
  by_cases hv : r.valid
  · exact ⟨_, _, h.ok hv, .inl ⟨rfl, hv, rfl⟩⟩
  · obtain ⟨c, hc, _, he⟩ := h.bad hv
    exact ⟨_, _, he, .inr (by simpa using hc)⟩
set_option maxRecDepth 100000 in
set_option maxHeartbeats 6400000 in
theorem rsame_law (w : World) (r r2 : Rc) (L L2 : Loc) (hat : RcAt w r L) (hat2 : RcAt w r2 L2) : Calls Tryz.prog 5 #[.agg (r.cells L), .agg (r2.cells L2)] w fun e w' => e = .returned (.bool true) ∧ Only (fun _ => False) w w' := by
  have HAT := hide hat
  have HAT2 := hide hat2
  obtain ⟨T, him⟩ := hat.images
  have HLS := hide him.lsn
  obtain ⟨T2, him2⟩ := hat2.images
  have HLS2 := hide him2.lsn
  have HOa := hide (onlyA w (.cells (r.cells L) 28))
  have HRa := hide (range_new w r L)
  have hsa : (w.alloc (.cells (r.cells L) 28)).heap.size = w.heap.size + 1 := by simp
  obtain ⟨Wa, hWa⟩ : ∃ Wa, w.alloc (.cells (r.cells L) 28) = Wa := ⟨_, rfl⟩
  rw [hWa] at HOa HRa hsa
  have HWa := hide hWa
  have HOb := hide (onlyA Wa (.cells (r2.cells L2) 28))
  have HRb := hide (range_new Wa r2 L2)
  have hsb : Wa.heap.size < (Wa.alloc (.cells (r2.cells L2) 28)).heap.size := by simp
  obtain ⟨Wb, hWb⟩ : ∃ Wb, Wa.alloc (.cells (r2.cells L2) 28) = Wb := ⟨_, rfl⟩
  rw [hWb] at HOb HRb hsb
  have HWb := hide hWb
  obtain ⟨b0, hb0⟩ : ∃ b0, w.heap.size = b0 := ⟨_, rfl⟩
  obtain ⟨b1, hb1⟩ : ∃ b1, Wa.heap.size = b1 := ⟨_, rfl⟩
  have HB0 := hide hb0
  have HB1 : Hid (b0 + 1 = b1) := by unfold Hid; omega
  rw [hb0] at HRa
  rw [hb1] at HRb
  have HO0 := hide (o2 HOa.out HOb.out)
  have HRA0 := hide (range_kept HRa.out HOb.out (fun h => h))
  have hl0 : b0 < Wb.heap.size := by omega
  have hl1 : b1 < Wb.heap.size := by omega
  have HAW : Hid (∀ W, Only (fun _ => False) w W → Calls Tryz.prog 13 #[] W fun e w' => e = .returned (.bool true) ∧ Only (fun _ => False) w w') := fun W hW => (rawake_any W).mono fun e w' hx => ⟨hx.1, o2 hW hx.2⟩
  clear hat hat2 him him2 hWa hWb hb0 hb1 hsa hsb
  go_enter Tryz.func5, Tryz.ntmps5
  go_upto_region 1 with fail
  rw [HWa.out, HB0.out, HB1.out, HWb.out]
  go_wp2_with (refine wpList_load_rec rfl (.tmp 2) rfl b0 rfl r L HRA0.out ?_; go_frame)
  refine (rencode_any Wb r L (HAT.out.go HO0.out)).mono ?_
  rintro e w1 hq
  obtain ⟨s1, c1, rfl, hc1⟩ := hq.any
  have HC1 := hide hc1
  have HO1 := hide (o2 HO0.out hq.only)
  have HRA1 := hide (range_kept HRA0.out hq.only (fun h => h))
  have HRB1 := hide (range_kept HRb.out hq.only (fun h => h))
  have hz1 := hq.only.size
  have hl2 : b0 < w1.heap.size := by omega
  have hl3 : b1 < w1.heap.size := by omega
  clear hq hc1 hz1
  go_upto_region 2 with fail
  go_wp2_with (refine wpList_load_rec rfl (.tmp 3) rfl b1 rfl r2 L2 HRB1.out ?_; go_frame)
  refine (rencode_any w1 r2 L2 (HAT2.out.go HO1.out)).mono ?_
  rintro e w2 hq
  obtain ⟨s2, c2, rfl, hc2⟩ := hq.any
  have HC2 := hide hc2
  have HO2 := hide (o2 HO1.out hq.only)
  have HRA2 := hide (range_kept HRA1.out hq.only (fun h => h))
  have HRB2 := hide (range_kept HRB1.out hq.only (fun h => h))
  have hz1 := hq.only.size
  have hl4 : b0 < w2.heap.size := by omega
  have hl5 : b1 < w2.heap.size := by omega
  clear hq hc2 hz1
  go_upto_region 3 with fail
  have HCL : Hid (∀ W, Hid (Only (fun _ => False) w2 W) → (fun W => W.rangeAt b0 0 (r.cl L) ∧ W.rangeAt b1 0 (r2.cl L2)) W) := fun W hW => ⟨range_kept HRA2.out hW.out (fun h => h), range_kept HRB2.out hW.out (fun h => h)⟩
  obtain ⟨x, hx⟩ : ∃ x : Bool, (x = true ↔ r = r2) := by
    by_cases h : r = r2
    · exact ⟨true, ⟨fun _ => h, fun _ => rfl⟩⟩
    · exact ⟨false, ⟨fun h' => (by cases h'), fun h' => absurd h' h⟩⟩
  have HX := hide hx
  clear hx
  have HSA : Hid (∀ W, Hid (Only (fun _ => False) w2 W) → Calls Tryz.prog 11 #[.agg (r.cells L), .agg (r2.cells L2)] W fun e w' => e = .returned (.bool x) ∧ Hid (Only (fun _ => False) w2 w')) := fun W hW => (rsame_any W r r2 L L2 (HAT.out.go (o2 HO2.out hW.out)) (HAT2.out.go (o2 HO2.out hW.out))).mono fun e w' h => by
    obtain ⟨c, hc, hp⟩ := h.1.ex
    have hcx : c = x := Bool.eq_iff_iff.2 (hp.trans HX.out.symm)
    rw [hcx] at hc
    exact ⟨hc, o2 hW.out h.2⟩
  have HSB : Hid (∀ W, Hid (Only (fun _ => False) w2 W) → Calls Tryz.prog 11 #[.agg (r2.cells L2), .agg (r.cells L)] W fun e w' => e = .returned (.bool x) ∧ Hid (Only (fun _ => False) w2 w')) := fun W hW => (rsame_any W r2 r L2 L (HAT2.out.go (o2 HO2.out hW.out)) (HAT.out.go (o2 HO2.out hW.out))).mono fun e w' h => by
    obtain ⟨c, hc, hp⟩ := h.1.ex
    have hcx : c = x := Bool.eq_iff_iff.2 ((hp.trans ⟨Eq.symm, Eq.symm⟩).trans HX.out.symm)
    rw [hcx] at hc
    exact ⟨hc, o2 hW.out h.2⟩
  have HSC : Hid (∀ W, Hid (Only (fun _ => False) w2 W) → Calls Tryz.prog 11 #[.agg (r.cells L), .agg (r.cells L)] W fun e w' => e = .returned (.bool true) ∧ Hid (Only (fun _ => False) w2 w')) := fun W hW => (rsame_any W r r L L (HAT.out.go (o2 HO2.out hW.out)) (HAT.out.go (o2 HO2.out hW.out))).mono fun e w' h => by
    obtain ⟨c, hc, hp⟩ := h.1.ex
    rw [hp.2 rfl] at hc
    exact ⟨hc, o2 hW.out h.2⟩
  clear hl0 hl1 hl2 hl3 hl4 hl5
  refine wp_region_noPanic ?_
  refine wp_region_held_drew (S := fun W => W.rangeAt b0 0 (r.cl L) ∧ W.rangeAt b1 0 (r2.cl L2)) (by kernel_rfl) (HCL.out _ (hide (Only.drew _ _))) (fun hHeld => ?_)
  refine wpAnyH_take (i := 0) (oi := { dst := some 19, op := Op.load 28 (Operand.tmp 2), type := 28, pos := "law.go:78", after := #[], guard := none }) (v := .agg (r.cl L).toArray) rfl (by kernel_rfl) (by kernel_rfl) (by kernel_rfl) (fun _ _ _ h => h) (yieldsIf_load_mid (by rfl) 28 _ rfl _ _ rfl (r.cl L) _ (fun w h => h.1) Tryz.underlying28 rfl Tryz.sizeRec) (by assumption) ?_
  simp only [Act.put, List.setIfInBounds_toArray, List.set_cons_zero, List.set_cons_succ]
  refine wpAnyH_take (i := 1) (oi := { dst := some 20, op := Op.load 28 (Operand.tmp 3), type := 28, pos := "law.go:78", after := #[], guard := none }) (v := .agg (r2.cl L2).toArray) rfl (by kernel_rfl) (by kernel_rfl) (by kernel_rfl) (fun _ _ _ h => h) (yieldsIf_load_mid (by rfl) 28 _ rfl _ _ rfl (r2.cl L2) _ (fun w h => h.2) Tryz.underlying28 rfl Tryz.sizeRec) (by assumption) ?_
  simp only [Act.put, List.setIfInBounds_toArray, List.set_cons_zero, List.set_cons_succ]
  refine wpAnyH_take (i := 3) (oi := { dst := some 22, op := Op.load 28 (Operand.tmp 3), type := 28, pos := "law.go:78", after := #[], guard := none }) (v := .agg (r2.cl L2).toArray) rfl (by kernel_rfl) (by kernel_rfl) (by kernel_rfl) (fun _ _ _ h => h) (yieldsIf_load_mid (by rfl) 28 _ rfl _ _ rfl (r2.cl L2) _ (fun w h => h.2) Tryz.underlying28 rfl Tryz.sizeRec) (by assumption) ?_
  simp only [Act.put, List.setIfInBounds_toArray, List.set_cons_zero, List.set_cons_succ]
  refine wpAnyH_take (i := 4) (oi := { dst := some 23, op := Op.load 28 (Operand.tmp 2), type := 28, pos := "law.go:78", after := #[], guard := none }) (v := .agg (r.cl L).toArray) rfl (by kernel_rfl) (by kernel_rfl) (by kernel_rfl) (fun _ _ _ h => h) (yieldsIf_load_mid (by rfl) 28 _ rfl _ _ rfl (r.cl L) _ (fun w h => h.1) Tryz.underlying28 rfl Tryz.sizeRec) (by assumption) ?_
  simp only [Act.put, List.setIfInBounds_toArray, List.set_cons_zero, List.set_cons_succ]
  refine wpAnyH_ready (rs := [2]) (by kernel_rfl) (by simp) ?_
  refine AllReadyH.cons (o := { dst := some 21, op := Op.call { callee := Callee.value (Operand.func 11), args := #[Operand.tmp 19, Operand.tmp 20], argTypes := #[28, 28] }, type := 4, pos := "law.go:78", after := #[{ on := 0, ground := Ground.data }, { on := 1, ground := Ground.data }], guard := none }) rfl (fun K hK => ?_) AllReadyH.nil
  go_simp
  refine (HSA.out _ (hide (Only.drew _ _))).mono ?_
  rintro e x1 ⟨rfl, HX1⟩
  refine hK.out _ _ (HCL.out _ HX1) (fun hHeld => ?_)
  clear hK K
  try simp only [Act.put, List.setIfInBounds_toArray, List.set_cons_zero, List.set_cons_succ]
  refine wpAnyH_ready (rs := [5]) (by kernel_rfl) (by simp) ?_
  refine AllReadyH.cons (o := { dst := some 24, op := Op.call { callee := Callee.value (Operand.func 11), args := #[Operand.tmp 22, Operand.tmp 23], argTypes := #[28, 28] }, type := 4, pos := "law.go:78", after := #[{ on := 3, ground := Ground.data }, { on := 4, ground := Ground.data }, { on := 2, ground := Ground.chain }], guard := none }) rfl (fun K hK => ?_) AllReadyH.nil
  go_simp
  refine (HSB.out _ HX1).mono ?_
  rintro e x2 ⟨rfl, HX2⟩
  refine hK.out _ _ (HCL.out _ HX2) (fun hHeld => ?_)
  clear hK K
  try simp only [Act.put, List.setIfInBounds_toArray, List.set_cons_zero, List.set_cons_succ]
  refine wpAnyH_take (i := 6) (oi := { dst := some 25, op := Op.binOp BinOp.neq 4 (Operand.tmp 21) (Operand.tmp 24) 4, type := 4, pos := "law.go:78", after := #[{ on := 2, ground := Ground.data }, { on := 5, ground := Ground.data }], guard := none }) (v := .bool false) rfl (by kernel_rfl) (by kernel_rfl) (by kernel_rfl) (fun _ _ _ h => h) (Or.inl ⟨by rfl, fun w' hSw => by clear hSw; go_simp⟩) (by assumption) ?_
  simp only [Act.put, List.setIfInBounds_toArray, List.set_cons_zero, List.set_cons_succ]
  refine wpAnyH_take (i := 7) (oi := { dst := some 26, op := Op.move (Operand.tmp 25), type := 4, pos := "law.go:78", after := #[{ on := 6, ground := Ground.data }, { on := 5, ground := Ground.chain }], guard := none }) (v := .bool false) rfl (by kernel_rfl) (by kernel_rfl) (by kernel_rfl) (fun _ _ _ h => h) (Or.inl ⟨by rfl, fun w' hSw => by clear hSw; go_simp⟩) (by assumption) ?_
  simp only [Act.put, List.setIfInBounds_toArray, List.set_cons_zero, List.set_cons_succ]
  refine wpAnyH_take (i := 8) (oi := { dst := some 27, op := Op.load 28 (Operand.tmp 2), type := 28, pos := "law.go:78", after := #[{ on := 7, ground := Ground.guard }], guard := some (7, false) }) (v := .agg (r.cl L).toArray) rfl (by kernel_rfl) (by kernel_rfl) (by kernel_rfl) (fun _ _ _ h => h) (yieldsIf_load_mid (by rfl) 28 _ rfl _ _ rfl (r.cl L) _ (fun w h => h.1) Tryz.underlying28 rfl Tryz.sizeRec) (by assumption) ?_
  simp only [Act.put, List.setIfInBounds_toArray, List.set_cons_zero, List.set_cons_succ]
  refine wpAnyH_take (i := 9) (oi := { dst := some 28, op := Op.load 28 (Operand.tmp 2), type := 28, pos := "law.go:78", after := #[{ on := 7, ground := Ground.guard }], guard := some (7, false) }) (v := .agg (r.cl L).toArray) rfl (by kernel_rfl) (by kernel_rfl) (by kernel_rfl) (fun _ _ _ h => h) (yieldsIf_load_mid (by rfl) 28 _ rfl _ _ rfl (r.cl L) _ (fun w h => h.1) Tryz.underlying28 rfl Tryz.sizeRec) (by assumption) ?_
  simp only [Act.put, List.setIfInBounds_toArray, List.set_cons_zero, List.set_cons_succ]
  refine wpAnyH_ready (rs := [10]) (by kernel_rfl) (by simp) ?_
  refine AllReadyH.cons (o := { dst := some 29, op := Op.call { callee := Callee.value (Operand.func 11), args := #[Operand.tmp 27, Operand.tmp 28], argTypes := #[28, 28] }, type := 4, pos := "law.go:78", after := #[{ on := 8, ground := Ground.data }, { on := 9, ground := Ground.data }, { on := 7, ground := Ground.chain }, { on := 7, ground := Ground.guard }], guard := some (7, false) }) rfl (fun K hK => ?_) AllReadyH.nil
  go_simp
  refine (HSC.out _ HX2).mono ?_
  rintro e x3 ⟨rfl, HX3⟩
  refine hK.out _ _ (HCL.out _ HX3) (fun hHeld => ?_)
  clear hK K
  try simp only [Act.put, List.setIfInBounds_toArray, List.set_cons_zero, List.set_cons_succ]
  refine wpAnyH_take (i := 11) (oi := { dst := some 30, op := Op.unOp UnOp.not 4 (Operand.tmp 29), type := 4, pos := "law.go:78", after := #[{ on := 10, ground := Ground.data }, { on := 7, ground := Ground.guard }], guard := some (7, false) }) (v := .bool false) rfl (by kernel_rfl) (by kernel_rfl) (by kernel_rfl) (fun _ _ _ h => h) (Or.inl ⟨by rfl, fun w' hSw => by clear hSw; go_simp⟩) (by assumption) ?_
  simp only [Act.put, List.setIfInBounds_toArray, List.set_cons_zero, List.set_cons_succ]
  refine wpAnyH_take (i := 12) (oi := { dst := some 31, op := Op.pick (Operand.tmp 26) (Operand.const (Value.bool true)) (Operand.tmp 30), type := 4, pos := "law.go:78", after := #[{ on := 7, ground := Ground.data }, { on := 11, ground := Ground.data }], guard := none }) (v := .bool false) rfl (by kernel_rfl) (by kernel_rfl) (by kernel_rfl) (fun _ _ _ h => h) (Or.inl ⟨by rfl, fun w' hSw => by clear hSw; go_simp⟩) (by assumption) ?_
  simp only [Act.put, List.setIfInBounds_toArray, List.set_cons_zero, List.set_cons_succ]
  refine wpAnyH_done (by kernel_rfl) ?_ _
  refine NoPanic.normal ?_
  rw [Exit.then]
  have HR3 := hide hHeld
  clear hHeld
  rcases HC1.out with ⟨rfl, hv1, hs1⟩ | hc1
  · rcases HC2.out with ⟨rfl, hv2, hs2⟩ | hc2
    · have hcase : (x = true ∧ s1 = s2) ∨ (x = false ∧ ¬ s1.toList = s2.toList) := by
        by_cases hrr : r = r2
        · exact .inl ⟨HX.out.2 hrr, by rw [hs1, hs2, hrr]⟩
        · refine .inr ⟨by cases hxx : x with | false => rfl | true => exact absurd (HX.out.1 hxx) hrr, fun ht => hrr (enc_inj hv1 hv2 HLS.out HLS2.out ?_)⟩
          have h1 := ba_toList ht
          rw [hs1, hs2] at h1
          have h2 := congrArg bl h1
          rwa [bl_str, bl_str] at h2
      clear hv1 hv2 hs1 hs2 HC1 HC2
      go_upto_region 7 with fail
      go_wp2_with (first
        | (refine wpList_load_rec rfl (.tmp 2) rfl b0 rfl r L HR3.out.1 ?_; go_frame)
        | (refine wpList_load_rec rfl (.tmp 3) rfl b1 rfl r2 L2 HR3.out.2 ?_; go_frame))
      refine (HSA.out _ HX3).mono ?_
      rintro e x4 ⟨rfl, HX4⟩
      rcases hcase with ⟨rfl, rfl⟩ | ⟨rfl, hne⟩
      · go_wp2_with fail
        refine (HAW.out _ (o2 HO2.out HX4.out)).mono ?_
        rintro e w9 ⟨rfl, ho9⟩
        have HO9 := hide ho9
        clear ho9
        go_wp2_with fail
        go_ret
        exact ⟨rfl, HO9.out⟩
      · go_wp2_with fail
        refine (HAW.out _ (o2 HO2.out HX4.out)).mono ?_
        rintro e w9 ⟨rfl, ho9⟩
        have HO9 := hide ho9
        clear ho9
        go_wp2_with fail
        go_ret
        exact ⟨ret_bool (by simpa using hne), HO9.out⟩
    · clear HC1 HC2
      go_wp2_with fail
      refine (HAW.out _ (o2 HO2.out HX3.out)).mono ?_
      rintro e w9 ⟨rfl, ho9⟩
      have HO9 := hide ho9
      clear ho9
      go_wp2_with fail
      go_ret
      exact ⟨rfl, HO9.out⟩
  · clear HC1 HC2
    go_wp2_with fail
    refine (HAW.out _ (o2 HO2.out HX3.out)).mono ?_
    rintro e w9 ⟨rfl, ho9⟩
    have HO9 := hide ho9
    clear ho9
    go_wp2_with fail
    go_ret
    exact ⟨rfl, HO9.out⟩
end Go.Proofs.YtoeifeidbggbiaaGreatDoor
