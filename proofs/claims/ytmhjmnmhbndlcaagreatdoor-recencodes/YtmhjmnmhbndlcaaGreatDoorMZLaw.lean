/- For any two records the statement RecEncodes returns true: the code lays, checks and compares records as the document does; no condition on them. Go's own tables of the library hold what they are laid with. -/
import Derived.Test.YtmhjmnmhbndlcaaGreatDoorRSame
import Derived.Test.YtmhjmnmhbndlcaaGreatDoorMRAwake
import Derived.Test.YtmhjmnmhbndlcaaGreatDoorMZEnc
import Derived.Test.YtmhjmnmhbndlcaaGreatDoorMZSame
import Derived.Test.YtmhjmnmhbndlcaaGreatDoorMROpen
namespace Go.Proofs.YtmhjmnmhbndlcaaGreatDoor
open Go.RowKit

theorem enq_any {w w' : World} {e : Ending} {r : Rc} (h : EnQ w w' e r) : ∃ s c, e = .returned (.tuple #[.string s, .int .i64 c]) := by
  by_cases hv : r.valid
  · exact ⟨_, _, h.ok hv⟩
  · obtain ⟨c, hc, _, he⟩ := h.bad hv
    exact ⟨_, _, he⟩
theorem enq_two {r : Rc} {w w' v v' : World} {e e' : Ending} (h : EnQ w w' e r) (h' : EnQ v v' e' r) : e = e' := by
  by_cases hv : r.valid
  · rw [h.ok hv, h'.ok hv]
  · obtain ⟨c, _, ho, he⟩ := h.bad hv
    obtain ⟨c', _, ho', he'⟩ := h'.bad hv
    have hcc : c = c' := congrArg Prod.snd (ho.one ho')
    rw [he, he', hcc]
theorem out_ex (r : Rc) : ∃ o, r.Out o := by
  by_cases hk : 1 ≤ r.kind ∧ r.kind ≤ 13
  · by_cases hr : r.inRange
    · by_cases hs : r.short
      · by_cases hi : imErr r.images = 0
        · by_cases hl : 65535 < r.lay.length
          · exact ⟨_, bd_len hk hr hs hi hl⟩
          · exact ⟨_, bd_ok ⟨hk.1, hk.2, hr, hs, hi, by omega⟩⟩
        · exact ⟨_, bd_ims hk hr hs hi⟩
      · exact ⟨_, bd_short hk hr hs⟩
    · exact ⟨_, bd_rng hk hr⟩
  · exact ⟨_, bd_kind hk⟩
set_option maxRecDepth 100000 in
set_option maxHeartbeats 6400000 in
theorem rencodes_law (w : World) (r r2 : Rc) (L L2 : Loc) (hat : RcAt w r L) (hat2 : RcAt w r2 L2) : Calls Tryz.prog 3 #[.agg (r.cells L), .agg (r2.cells L2)] w fun e w' => e = .returned (.bool true) ∧ Only (fun _ => False) w w' := by
  have HAT := hide hat
  have HAT2 := hide hat2
  have HOa := hide (onlyA w (.cells (r.cells L) 28))
  have HRa := hide (range_new w r L)
  have hsa : (w.alloc (.cells (r.cells L) 28)).heap.size = w.heap.size + 1 := by simp
  obtain ⟨Wa, hWa⟩ : ∃ Wa, w.alloc (.cells (r.cells L) 28) = Wa := ⟨_, rfl⟩
  rw [hWa] at HOa HRa hsa
  have HWa := hide hWa
  have HOb := hide (onlyA Wa (.cells (r2.cells L2) 28))
  have HRb := hide (range_new Wa r2 L2)
  have hsb : Wa.heap.size < (Wa.alloc (.cells (r2.cells L2) 28)).heap.size := by simp
  obtain ⟨Wb, hWb⟩ : ∃ Wb, Wa.alloc (.cells (r2.cells L2) 28) = Wb := ⟨_, rfl⟩
  rw [hWb] at HOb HRb hsb
  have HWb := hide hWb
  obtain ⟨b0, hb0⟩ : ∃ b0, w.heap.size = b0 := ⟨_, rfl⟩
  obtain ⟨b1, hb1⟩ : ∃ b1, Wa.heap.size = b1 := ⟨_, rfl⟩
  have HB0 := hide hb0
  have HB1 : Hid (b0 + 1 = b1) := by unfold Hid; omega
  rw [hb0] at HRa
  rw [hb1] at HRb
  have HO0 := hide (o2 HOa.out HOb.out)
  have HRA0 := hide (range_kept HRa.out HOb.out (fun h => h))
  clear hat hat2 hWa hWb hb0 hb1 hsa hsb
  go_enter Tryz.func3, Tryz.ntmps3
  go_upto_region 1 with fail
  rw [HWa.out, HB0.out, HB1.out, HWb.out]
  go_wp2_with (refine wpList_load_rec rfl (.tmp 2) rfl b0 rfl r L HRA0.out ?_; go_frame)
  refine (rencode_any Wb r L (HAT.out.go HO0.out)).mono ?_
  rintro e w1 hq
  have HQ1 := hide hq
  obtain ⟨s1, c1, he1⟩ := enq_any hq
  subst he1
  have HO1 := hide (o2 HO0.out hq.only)
  have HRA1 := hide (range_kept HRA0.out hq.only (fun h => h))
  have HRB1 := hide (range_kept HRb.out hq.only (fun h => h))
  clear hq
  go_upto_region 2 with fail
  go_wp2_with (refine wpList_load_rec rfl (.tmp 2) rfl b0 rfl r L HRA1.out ?_; go_frame)
  refine (zencode_any w1 r L (HAT.out.go HO1.out)).mono ?_
  rintro e w2 hq
  have he2 := enq_two HQ1.out hq
  subst he2
  have HO2 := hide (o2 HO1.out hq.only)
  have HRA2 := hide (range_kept HRA1.out hq.only (fun h => h))
  have HRB2 := hide (range_kept HRB1.out hq.only (fun h => h))
  clear hq
  obtain ⟨x, hx⟩ : ∃ x : Bool, (x = true ↔ r = r2) := by
    by_cases h : r = r2
    · exact ⟨true, ⟨fun _ => h, fun _ => rfl⟩⟩
    · exact ⟨false, ⟨fun h' => (by cases h'), fun h' => absurd h' h⟩⟩
  have HX := hide hx
  clear hx
  have HSA : Hid (∀ W, Hid (Only (fun _ => False) w2 W) → Calls Tryz.prog 9 #[.agg (r.cells L), .agg (r2.cells L2)] W fun e w' => e = .returned (.bool x) ∧ Only (fun _ => False) w2 w') := fun W hW => (rsame_any W r r2 L L2 (HAT.out.go (o2 HO2.out hW.out)) (HAT2.out.go (o2 HO2.out hW.out))).mono fun e w' h => by
    obtain ⟨c, hc, hp⟩ := h.1.ex
    have hcx : c = x := Bool.eq_iff_iff.2 (hp.trans HX.out.symm)
    rw [hcx] at hc
    exact ⟨hc, o2 hW.out h.2⟩
  have HZA : Hid (∀ W, Hid (Only (fun _ => False) w2 W) → Calls Tryz.prog 10 #[.agg (r.cells L), .agg (r2.cells L2)] W fun e w' => e = .returned (.bool x) ∧ Only (fun _ => False) w2 w') := fun W hW => (zsame_any W r r2 L L2 (HAT.out.go (o2 HO2.out hW.out)) (HAT2.out.go (o2 HO2.out hW.out))).mono fun e w' h => by
    obtain ⟨c, hc, hp⟩ := h.1.ex
    have hcx : c = x := Bool.eq_iff_iff.2 (hp.trans HX.out.symm)
    rw [hcx] at hc
    exact ⟨hc, o2 hW.out h.2⟩
  have HSC : Hid (∀ W, Hid (Only (fun _ => False) w2 W) → Calls Tryz.prog 9 #[.agg (r.cells L), .agg (r.cells L)] W fun e w' => e = .returned (.bool true) ∧ Only (fun _ => False) w2 w') := fun W hW => (rsame_any W r r L L (HAT.out.go (o2 HO2.out hW.out)) (HAT.out.go (o2 HO2.out hW.out))).mono fun e w' h => by
    obtain ⟨c, hc, hp⟩ := h.1.ex
    rw [hp.2 rfl] at hc
    exact ⟨hc, o2 hW.out h.2⟩
  obtain ⟨o, ho⟩ := out_ex r
  obtain ⟨q, hq⟩ : ∃ q, o.2 = q := ⟨_, rfl⟩
  have HRC : Hid (∀ W, Hid (Only (fun _ => False) w2 W) → Calls Tryz.prog 7 #[.agg (r.cells L)] W fun e w' => e = .returned (.int .i64 q) ∧ Only (fun _ => False) w2 w') := fun W hW => (rcheck_any W r L (HAT.out.go (o2 HO2.out hW.out))).mono fun e w' h => by
    obtain ⟨p, hp, he⟩ := h.ex
    rw [hp.one ho, hq] at he
    exact ⟨he, o2 hW.out h.only⟩
  have HZC : Hid (∀ W, Hid (Only (fun _ => False) w2 W) → Calls Tryz.prog 8 #[.agg (r.cells L)] W fun e w' => e = .returned (.int .i64 q) ∧ Only (fun _ => False) w2 w') := fun W hW => (zcheck_any W r L (HAT.out.go (o2 HO2.out hW.out))).mono fun e w' h => by
    obtain ⟨p, hp, he⟩ := h.ex
    rw [hp.one ho, hq] at he
    exact ⟨he, o2 hW.out h.only⟩
  have HAW : Hid (∀ W, Hid (Only (fun _ => False) w2 W) → Calls Tryz.prog 11 #[] W fun e w' => e = .returned (.bool true) ∧ Only (fun _ => False) w2 w') := fun W hW => (rawake_any W).mono fun e w' hx => ⟨hx.1, o2 hW.out hx.2⟩
  clear ho hq
  go_upto_region 3 with fail
  refine wp_region_noPanic ?_
  refine wp_region_held_drew (S := fun W => Only (fun _ => False) w2 W) (by kernel_rfl) (Only.drew _ _) (fun hHeld => ?_)
  refine wpAnyH_take (i := 0) (oi := { dst := some 19, op := Op.move (Operand.tmp 5), type := 9, pos := "law.go:25", after := #[], guard := none }) (v := .string s1) rfl (by kernel_rfl) (by kernel_rfl) (by kernel_rfl) (fun _ _ _ h => h) (Or.inl ⟨by rfl, fun w' hSw => by clear hSw; go_simp⟩) (by assumption) ?_
  simp only [Act.put, List.setIfInBounds_toArray, List.set_cons_zero, List.set_cons_succ]
  refine wpAnyH_take (i := 1) (oi := { dst := some 20, op := Op.move (Operand.tmp 7), type := 9, pos := "law.go:25", after := #[], guard := none }) (v := .string s1) rfl (by kernel_rfl) (by kernel_rfl) (by kernel_rfl) (fun _ _ _ h => h) (Or.inl ⟨by rfl, fun w' hSw => by clear hSw; go_simp⟩) (by assumption) ?_
  simp only [Act.put, List.setIfInBounds_toArray, List.set_cons_zero, List.set_cons_succ]
  refine wpAnyH_take (i := 2) (oi := { dst := some 21, op := Op.binOp BinOp.eql 9 (Operand.tmp 19) (Operand.tmp 20) 9, type := 4, pos := "law.go:25", after := #[{ on := 0, ground := Ground.data }, { on := 1, ground := Ground.data }], guard := none }) (v := .bool true) rfl (by kernel_rfl) (by kernel_rfl) (by kernel_rfl) (fun _ _ _ h => h) (Or.inl ⟨by rfl, fun w' hSw => by clear hSw; go_simp⟩) (by assumption) ?_
  simp only [Act.put, List.setIfInBounds_toArray, List.set_cons_zero, List.set_cons_succ]
  refine wpAnyH_take (i := 3) (oi := { dst := some 22, op := Op.move (Operand.tmp 21), type := 4, pos := "law.go:25", after := #[{ on := 2, ground := Ground.data }], guard := none }) (v := .bool true) rfl (by kernel_rfl) (by kernel_rfl) (by kernel_rfl) (fun _ _ _ h => h) (Or.inl ⟨by rfl, fun w' hSw => by clear hSw; go_simp⟩) (by assumption) ?_
  simp only [Act.put, List.setIfInBounds_toArray, List.set_cons_zero, List.set_cons_succ]
  refine wpAnyH_take (i := 4) (oi := { dst := some 23, op := Op.move (Operand.tmp 6), type := 29, pos := "law.go:25", after := #[{ on := 3, ground := Ground.guard }], guard := some (3, true) }) (v := .int .i64 c1) rfl (by kernel_rfl) (by kernel_rfl) (by kernel_rfl) (fun _ _ _ h => h) (Or.inl ⟨by rfl, fun w' hSw => by clear hSw; go_simp⟩) (by assumption) ?_
  simp only [Act.put, List.setIfInBounds_toArray, List.set_cons_zero, List.set_cons_succ]
  refine wpAnyH_take (i := 5) (oi := { dst := some 24, op := Op.move (Operand.tmp 8), type := 29, pos := "law.go:25", after := #[{ on := 3, ground := Ground.guard }], guard := some (3, true) }) (v := .int .i64 c1) rfl (by kernel_rfl) (by kernel_rfl) (by kernel_rfl) (fun _ _ _ h => h) (Or.inl ⟨by rfl, fun w' hSw => by clear hSw; go_simp⟩) (by assumption) ?_
  simp only [Act.put, List.setIfInBounds_toArray, List.set_cons_zero, List.set_cons_succ]
  refine wpAnyH_take (i := 6) (oi := { dst := some 25, op := Op.binOp BinOp.eql 29 (Operand.tmp 23) (Operand.tmp 24) 29, type := 4, pos := "law.go:25", after := #[{ on := 4, ground := Ground.data }, { on := 5, ground := Ground.data }, { on := 3, ground := Ground.guard }], guard := some (3, true) }) (v := .bool true) rfl (by kernel_rfl) (by kernel_rfl) (by kernel_rfl) (fun _ _ _ h => h) (Or.inl ⟨by rfl, fun w' hSw => by clear hSw; go_simp⟩) (by assumption) ?_
  simp only [Act.put, List.setIfInBounds_toArray, List.set_cons_zero, List.set_cons_succ]
  refine wpAnyH_take (i := 7) (oi := { dst := some 26, op := Op.pick (Operand.tmp 22) (Operand.tmp 25) (Operand.const (Value.bool false)), type := 4, pos := "law.go:25", after := #[{ on := 3, ground := Ground.data }, { on := 6, ground := Ground.data }], guard := none }) (v := .bool true) rfl (by kernel_rfl) (by kernel_rfl) (by kernel_rfl) (fun _ _ _ h => h) (Or.inl ⟨by rfl, fun w' hSw => by clear hSw; go_simp⟩) (by assumption) ?_
  simp only [Act.put, List.setIfInBounds_toArray, List.set_cons_zero, List.set_cons_succ]
  refine wpAnyH_take (i := 8) (oi := { dst := some 27, op := Op.move (Operand.tmp 26), type := 4, pos := "law.go:25", after := #[{ on := 7, ground := Ground.data }, { on := 3, ground := Ground.chain }], guard := none }) (v := .bool true) rfl (by kernel_rfl) (by kernel_rfl) (by kernel_rfl) (fun _ _ _ h => h) (Or.inl ⟨by rfl, fun w' hSw => by clear hSw; go_simp⟩) (by assumption) ?_
  simp only [Act.put, List.setIfInBounds_toArray, List.set_cons_zero, List.set_cons_succ]
  refine wpAnyH_take (i := 9) (oi := { dst := some 28, op := Op.load 28 (Operand.tmp 2), type := 28, pos := "law.go:25", after := #[{ on := 8, ground := Ground.guard }], guard := some (8, true) }) (v := .agg (r.cl L).toArray) rfl (by kernel_rfl) (by kernel_rfl) (by kernel_rfl) (fun _ _ _ h => h) (yieldsIf_load_mid (by rfl) 28 _ rfl _ _ rfl (r.cl L) _ (fun w h => range_kept HRA2.out h (fun h => h)) Tryz.underlying28 rfl Tryz.sizeRec) (by assumption) ?_
  simp only [Act.put, List.setIfInBounds_toArray, List.set_cons_zero, List.set_cons_succ]
  refine wpAnyH_take (i := 11) (oi := { dst := some 30, op := Op.load 28 (Operand.tmp 2), type := 28, pos := "law.go:25", after := #[{ on := 8, ground := Ground.guard }], guard := some (8, true) }) (v := .agg (r.cl L).toArray) rfl (by kernel_rfl) (by kernel_rfl) (by kernel_rfl) (fun _ _ _ h => h) (yieldsIf_load_mid (by rfl) 28 _ rfl _ _ rfl (r.cl L) _ (fun w h => range_kept HRA2.out h (fun h => h)) Tryz.underlying28 rfl Tryz.sizeRec) (by assumption) ?_
  simp only [Act.put, List.setIfInBounds_toArray, List.set_cons_zero, List.set_cons_succ]
  refine wpAnyH_ready (rs := [10]) (by kernel_rfl) (by simp) ?_
  refine AllReadyH.cons (o := { dst := some 29, op := Op.call { callee := Callee.value (Operand.func 7), args := #[Operand.tmp 28], argTypes := #[28] }, type := 29, pos := "law.go:25", after := #[{ on := 9, ground := Ground.data }, { on := 8, ground := Ground.chain }, { on := 8, ground := Ground.guard }], guard := some (8, true) }) rfl (fun K hK => ?_) (AllReadyH.nil)
  go_simp
  refine (HRC.out _ (hide hHeld)).mono ?_
  rintro e x1 ⟨rfl, hx1⟩
  have HX1 := hide hx1
  clear hx1
  refine hK.out _ _ (HX1.out) (fun hHeld => ?_)
  clear hK K
  try simp only [Act.put, List.setIfInBounds_toArray, List.set_cons_zero, List.set_cons_succ]
  refine wpAnyH_ready (rs := [12]) (by kernel_rfl) (by simp) ?_
  refine AllReadyH.cons (o := { dst := some 31, op := Op.call { callee := Callee.value (Operand.func 8), args := #[Operand.tmp 30], argTypes := #[28] }, type := 29, pos := "law.go:25", after := #[{ on := 11, ground := Ground.data }, { on := 10, ground := Ground.chain }, { on := 8, ground := Ground.guard }], guard := some (8, true) }) rfl (fun K hK => ?_) (AllReadyH.nil)
  go_simp
  refine (HZC.out _ (hide hHeld)).mono ?_
  rintro e x2 ⟨rfl, hx2⟩
  have HX2 := hide hx2
  clear hx2
  refine hK.out _ _ (HX2.out) (fun hHeld => ?_)
  clear hK K
  try simp only [Act.put, List.setIfInBounds_toArray, List.set_cons_zero, List.set_cons_succ]
  refine wpAnyH_take (i := 13) (oi := { dst := some 32, op := Op.binOp BinOp.eql 29 (Operand.tmp 29) (Operand.tmp 31) 29, type := 4, pos := "law.go:25", after := #[{ on := 10, ground := Ground.data }, { on := 12, ground := Ground.data }, { on := 8, ground := Ground.guard }], guard := some (8, true) }) (v := .bool true) rfl (by kernel_rfl) (by kernel_rfl) (by kernel_rfl) (fun _ _ _ h => h) (Or.inl ⟨by rfl, fun w' hSw => by clear hSw; go_simp⟩) (by assumption) ?_
  simp only [Act.put, List.setIfInBounds_toArray, List.set_cons_zero, List.set_cons_succ]
  refine wpAnyH_take (i := 14) (oi := { dst := some 33, op := Op.pick (Operand.tmp 27) (Operand.tmp 32) (Operand.const (Value.bool false)), type := 4, pos := "law.go:25", after := #[{ on := 8, ground := Ground.data }, { on := 13, ground := Ground.data }], guard := none }) (v := .bool true) rfl (by kernel_rfl) (by kernel_rfl) (by kernel_rfl) (fun _ _ _ h => h) (Or.inl ⟨by rfl, fun w' hSw => by clear hSw; go_simp⟩) (by assumption) ?_
  simp only [Act.put, List.setIfInBounds_toArray, List.set_cons_zero, List.set_cons_succ]
  refine wpAnyH_take (i := 15) (oi := { dst := some 34, op := Op.move (Operand.tmp 33), type := 4, pos := "law.go:25", after := #[{ on := 14, ground := Ground.data }, { on := 12, ground := Ground.chain }], guard := none }) (v := .bool true) rfl (by kernel_rfl) (by kernel_rfl) (by kernel_rfl) (fun _ _ _ h => h) (Or.inl ⟨by rfl, fun w' hSw => by clear hSw; go_simp⟩) (by assumption) ?_
  simp only [Act.put, List.setIfInBounds_toArray, List.set_cons_zero, List.set_cons_succ]
  refine wpAnyH_take (i := 16) (oi := { dst := some 35, op := Op.load 28 (Operand.tmp 2), type := 28, pos := "law.go:25", after := #[{ on := 15, ground := Ground.guard }], guard := some (15, true) }) (v := .agg (r.cl L).toArray) rfl (by kernel_rfl) (by kernel_rfl) (by kernel_rfl) (fun _ _ _ h => h) (yieldsIf_load_mid (by rfl) 28 _ rfl _ _ rfl (r.cl L) _ (fun w h => range_kept HRA2.out h (fun h => h)) Tryz.underlying28 rfl Tryz.sizeRec) (by assumption) ?_
  simp only [Act.put, List.setIfInBounds_toArray, List.set_cons_zero, List.set_cons_succ]
  refine wpAnyH_take (i := 17) (oi := { dst := some 36, op := Op.load 28 (Operand.tmp 3), type := 28, pos := "law.go:25", after := #[{ on := 15, ground := Ground.guard }], guard := some (15, true) }) (v := .agg (r2.cl L2).toArray) rfl (by kernel_rfl) (by kernel_rfl) (by kernel_rfl) (fun _ _ _ h => h) (yieldsIf_load_mid (by rfl) 28 _ rfl _ _ rfl (r2.cl L2) _ (fun w h => range_kept HRB2.out h (fun h => h)) Tryz.underlying28 rfl Tryz.sizeRec) (by assumption) ?_
  simp only [Act.put, List.setIfInBounds_toArray, List.set_cons_zero, List.set_cons_succ]
  refine wpAnyH_take (i := 19) (oi := { dst := some 38, op := Op.load 28 (Operand.tmp 2), type := 28, pos := "law.go:25", after := #[{ on := 15, ground := Ground.guard }], guard := some (15, true) }) (v := .agg (r.cl L).toArray) rfl (by kernel_rfl) (by kernel_rfl) (by kernel_rfl) (fun _ _ _ h => h) (yieldsIf_load_mid (by rfl) 28 _ rfl _ _ rfl (r.cl L) _ (fun w h => range_kept HRA2.out h (fun h => h)) Tryz.underlying28 rfl Tryz.sizeRec) (by assumption) ?_
  simp only [Act.put, List.setIfInBounds_toArray, List.set_cons_zero, List.set_cons_succ]
  refine wpAnyH_take (i := 20) (oi := { dst := some 39, op := Op.load 28 (Operand.tmp 3), type := 28, pos := "law.go:25", after := #[{ on := 15, ground := Ground.guard }], guard := some (15, true) }) (v := .agg (r2.cl L2).toArray) rfl (by kernel_rfl) (by kernel_rfl) (by kernel_rfl) (fun _ _ _ h => h) (yieldsIf_load_mid (by rfl) 28 _ rfl _ _ rfl (r2.cl L2) _ (fun w h => range_kept HRB2.out h (fun h => h)) Tryz.underlying28 rfl Tryz.sizeRec) (by assumption) ?_
  simp only [Act.put, List.setIfInBounds_toArray, List.set_cons_zero, List.set_cons_succ]
  refine wpAnyH_ready (rs := [18]) (by kernel_rfl) (by simp) ?_
  refine AllReadyH.cons (o := { dst := some 37, op := Op.call { callee := Callee.value (Operand.func 9), args := #[Operand.tmp 35, Operand.tmp 36], argTypes := #[28, 28] }, type := 4, pos := "law.go:25", after := #[{ on := 16, ground := Ground.data }, { on := 17, ground := Ground.data }, { on := 15, ground := Ground.chain }, { on := 15, ground := Ground.guard }], guard := some (15, true) }) rfl (fun K hK => ?_) (AllReadyH.nil)
  go_simp
  refine (HSA.out _ (hide hHeld)).mono ?_
  rintro e x3 ⟨rfl, hx3⟩
  have HX3 := hide hx3
  clear hx3
  refine hK.out _ _ (HX3.out) (fun hHeld => ?_)
  clear hK K
  try simp only [Act.put, List.setIfInBounds_toArray, List.set_cons_zero, List.set_cons_succ]
  refine wpAnyH_ready (rs := [21]) (by kernel_rfl) (by simp) ?_
  refine AllReadyH.cons (o := { dst := some 40, op := Op.call { callee := Callee.value (Operand.func 10), args := #[Operand.tmp 38, Operand.tmp 39], argTypes := #[28, 28] }, type := 4, pos := "law.go:25", after := #[{ on := 19, ground := Ground.data }, { on := 20, ground := Ground.data }, { on := 18, ground := Ground.chain }, { on := 15, ground := Ground.guard }], guard := some (15, true) }) rfl (fun K hK => ?_) (AllReadyH.nil)
  go_simp
  refine (HZA.out _ (hide hHeld)).mono ?_
  rintro e x4 ⟨rfl, hx4⟩
  have HX4 := hide hx4
  clear hx4
  refine hK.out _ _ (HX4.out) (fun hHeld => ?_)
  clear hK K
  try simp only [Act.put, List.setIfInBounds_toArray, List.set_cons_zero, List.set_cons_succ]
  refine wpAnyH_take (i := 22) (oi := { dst := some 41, op := Op.binOp BinOp.eql 4 (Operand.tmp 37) (Operand.tmp 40) 4, type := 4, pos := "law.go:25", after := #[{ on := 18, ground := Ground.data }, { on := 21, ground := Ground.data }, { on := 15, ground := Ground.guard }], guard := some (15, true) }) (v := .bool true) rfl (by kernel_rfl) (by kernel_rfl) (by kernel_rfl) (fun _ _ _ h => h) (Or.inl ⟨by rfl, fun w' hSw => by clear hSw; go_simp⟩) (by assumption) ?_
  simp only [Act.put, List.setIfInBounds_toArray, List.set_cons_zero, List.set_cons_succ]
  refine wpAnyH_take (i := 23) (oi := { dst := some 42, op := Op.pick (Operand.tmp 34) (Operand.tmp 41) (Operand.const (Value.bool false)), type := 4, pos := "law.go:25", after := #[{ on := 15, ground := Ground.data }, { on := 22, ground := Ground.data }], guard := none }) (v := .bool true) rfl (by kernel_rfl) (by kernel_rfl) (by kernel_rfl) (fun _ _ _ h => h) (Or.inl ⟨by rfl, fun w' hSw => by clear hSw; go_simp⟩) (by assumption) ?_
  simp only [Act.put, List.setIfInBounds_toArray, List.set_cons_zero, List.set_cons_succ]
  refine wpAnyH_take (i := 24) (oi := { dst := some 43, op := Op.move (Operand.tmp 42), type := 4, pos := "law.go:25", after := #[{ on := 23, ground := Ground.data }, { on := 21, ground := Ground.chain }], guard := none }) (v := .bool true) rfl (by kernel_rfl) (by kernel_rfl) (by kernel_rfl) (fun _ _ _ h => h) (Or.inl ⟨by rfl, fun w' hSw => by clear hSw; go_simp⟩) (by assumption) ?_
  simp only [Act.put, List.setIfInBounds_toArray, List.set_cons_zero, List.set_cons_succ]
  refine wpAnyH_take (i := 25) (oi := { dst := some 44, op := Op.load 28 (Operand.tmp 2), type := 28, pos := "law.go:25", after := #[{ on := 24, ground := Ground.guard }], guard := some (24, true) }) (v := .agg (r.cl L).toArray) rfl (by kernel_rfl) (by kernel_rfl) (by kernel_rfl) (fun _ _ _ h => h) (yieldsIf_load_mid (by rfl) 28 _ rfl _ _ rfl (r.cl L) _ (fun w h => range_kept HRA2.out h (fun h => h)) Tryz.underlying28 rfl Tryz.sizeRec) (by assumption) ?_
  simp only [Act.put, List.setIfInBounds_toArray, List.set_cons_zero, List.set_cons_succ]
  refine wpAnyH_take (i := 26) (oi := { dst := some 45, op := Op.load 28 (Operand.tmp 2), type := 28, pos := "law.go:25", after := #[{ on := 24, ground := Ground.guard }], guard := some (24, true) }) (v := .agg (r.cl L).toArray) rfl (by kernel_rfl) (by kernel_rfl) (by kernel_rfl) (fun _ _ _ h => h) (yieldsIf_load_mid (by rfl) 28 _ rfl _ _ rfl (r.cl L) _ (fun w h => range_kept HRA2.out h (fun h => h)) Tryz.underlying28 rfl Tryz.sizeRec) (by assumption) ?_
  simp only [Act.put, List.setIfInBounds_toArray, List.set_cons_zero, List.set_cons_succ]
  refine wpAnyH_ready (rs := [27]) (by kernel_rfl) (by simp) ?_
  refine AllReadyH.cons (o := { dst := some 46, op := Op.call { callee := Callee.value (Operand.func 9), args := #[Operand.tmp 44, Operand.tmp 45], argTypes := #[28, 28] }, type := 4, pos := "law.go:25", after := #[{ on := 25, ground := Ground.data }, { on := 26, ground := Ground.data }, { on := 24, ground := Ground.chain }, { on := 24, ground := Ground.guard }], guard := some (24, true) }) rfl (fun K hK => ?_) (AllReadyH.nil)
  go_simp
  refine (HSC.out _ (hide hHeld)).mono ?_
  rintro e x5 ⟨rfl, hx5⟩
  have HX5 := hide hx5
  clear hx5
  refine hK.out _ _ (HX5.out) (fun hHeld => ?_)
  clear hK K
  try simp only [Act.put, List.setIfInBounds_toArray, List.set_cons_zero, List.set_cons_succ]
  refine wpAnyH_take (i := 28) (oi := { dst := some 47, op := Op.pick (Operand.tmp 43) (Operand.tmp 46) (Operand.const (Value.bool false)), type := 4, pos := "law.go:25", after := #[{ on := 24, ground := Ground.data }, { on := 27, ground := Ground.data }], guard := none }) (v := .bool true) rfl (by kernel_rfl) (by kernel_rfl) (by kernel_rfl) (fun _ _ _ h => h) (Or.inl ⟨by rfl, fun w' hSw => by clear hSw; go_simp⟩) (by assumption) ?_
  simp only [Act.put, List.setIfInBounds_toArray, List.set_cons_zero, List.set_cons_succ]
  refine wpAnyH_take (i := 29) (oi := { dst := some 48, op := Op.move (Operand.tmp 47), type := 4, pos := "law.go:25", after := #[{ on := 28, ground := Ground.data }, { on := 27, ground := Ground.chain }], guard := none }) (v := .bool true) rfl (by kernel_rfl) (by kernel_rfl) (by kernel_rfl) (fun _ _ _ h => h) (Or.inl ⟨by rfl, fun w' hSw => by clear hSw; go_simp⟩) (by assumption) ?_
  simp only [Act.put, List.setIfInBounds_toArray, List.set_cons_zero, List.set_cons_succ]
  refine wpAnyH_ready (rs := [30]) (by kernel_rfl) (by simp) ?_
  refine AllReadyH.cons (o := { dst := some 49, op := Op.call { callee := Callee.value (Operand.func 11), args := #[], argTypes := #[] }, type := 4, pos := "law.go:25", after := #[{ on := 29, ground := Ground.chain }, { on := 29, ground := Ground.guard }], guard := some (29, true) }) rfl (fun K hK => ?_) (AllReadyH.nil)
  go_simp
  refine (HAW.out _ (hide hHeld)).mono ?_
  rintro e x6 ⟨rfl, hx6⟩
  have HX6 := hide hx6
  clear hx6
  refine hK.out _ _ (HX6.out) (fun hHeld => ?_)
  clear hK K
  try simp only [Act.put, List.setIfInBounds_toArray, List.set_cons_zero, List.set_cons_succ]
  refine wpAnyH_take (i := 31) (oi := { dst := some 50, op := Op.pick (Operand.tmp 48) (Operand.tmp 49) (Operand.const (Value.bool false)), type := 4, pos := "law.go:25", after := #[{ on := 29, ground := Ground.data }, { on := 30, ground := Ground.data }], guard := none }) (v := .bool true) rfl (by kernel_rfl) (by kernel_rfl) (by kernel_rfl) (fun _ _ _ h => h) (Or.inl ⟨by rfl, fun w' hSw => by clear hSw; go_simp⟩) (by assumption) ?_
  simp only [Act.put, List.setIfInBounds_toArray, List.set_cons_zero, List.set_cons_succ]
  refine wpAnyH_take (i := 32) (oi := { dst := some 4, op := Op.assign (Operand.tmp 50), type := 4, pos := "law.go:25", after := #[{ on := 31, ground := Ground.data }, { on := 30, ground := Ground.chain }, { on := 0, ground := Ground.phase }, { on := 1, ground := Ground.phase }, { on := 2, ground := Ground.phase }, { on := 3, ground := Ground.phase }, { on := 4, ground := Ground.phase }, { on := 5, ground := Ground.phase }, { on := 6, ground := Ground.phase }, { on := 7, ground := Ground.phase }, { on := 8, ground := Ground.phase }, { on := 9, ground := Ground.phase }, { on := 10, ground := Ground.phase }, { on := 11, ground := Ground.phase }, { on := 12, ground := Ground.phase }, { on := 13, ground := Ground.phase }, { on := 14, ground := Ground.phase }, { on := 15, ground := Ground.phase }, { on := 16, ground := Ground.phase }, { on := 17, ground := Ground.phase }, { on := 18, ground := Ground.phase }, { on := 19, ground := Ground.phase }, { on := 20, ground := Ground.phase }, { on := 21, ground := Ground.phase }, { on := 22, ground := Ground.phase }, { on := 23, ground := Ground.phase }, { on := 24, ground := Ground.phase }, { on := 25, ground := Ground.phase }, { on := 26, ground := Ground.phase }, { on := 27, ground := Ground.phase }, { on := 28, ground := Ground.phase }, { on := 29, ground := Ground.phase }, { on := 30, ground := Ground.phase }, { on := 31, ground := Ground.phase }], guard := none }) (v := .bool true) rfl (by kernel_rfl) (by kernel_rfl) (by kernel_rfl) (fun _ _ _ h => h) (Or.inl ⟨by rfl, fun w' hSw => by clear hSw; go_simp⟩) (by assumption) ?_
  simp only [Act.put, List.setIfInBounds_toArray, List.set_cons_zero, List.set_cons_succ]
  refine wpAnyH_done (by kernel_rfl) ?_ _
  refine NoPanic.normal ?_
  have HX9 := hide hHeld
  clear hHeld
  go_wp2_with fail
  go_ret
  exact ⟨rfl, o2 HO2.out HX9.out⟩
end Go.Proofs.YtmhjmnmhbndlcaaGreatDoor

namespace Go.Proofs.YtmhjmnmhbndlcaaGreatDoor.recEncodes
open Go.ChangeShapes Go.WideShapes Go.ChangeAt Go.RowKit

theorem laid_met (os : Os) : laidMet Tryz.prog Rows.recEncodesRow.laid ((laidWorld os).forCall (fun _ _ => 0) ⟨#[], #[.agg #[.int .i64 0, .int .i64 0, .int .i64 0, .int .u8 0, .int .i64 0, .int .i64 0, .int .i64 0, .int .i64 0, .int .i64 0, .int .i64 0, .string ByteArray.empty, .slice none 0 0, .slice none 0 0, .slice none 0 0, .slice none 0 0, .slice none 0 0], .agg #[.int .i64 0, .int .i64 0, .int .i64 0, .int .u8 0, .int .i64 0, .int .i64 0, .int .i64 0, .int .i64 0, .int .i64 0, .int .i64 0, .string ByteArray.empty, .slice none 0 0, .slice none 0 0, .slice none 0 0, .slice none 0 0, .slice none 0 0]], []⟩).memory :=
  laidMet_of_run' 8 (by kernel_rfl) (by kernel_rfl)
set_option maxRecDepth 100000 in
theorem lifted (os : Os) (started : os.Started) (H : Type) (enc : TypeId × Value → H) (F : Stop.Interp) :
    ReturnsInHanded {} Tryz.checked os 3 .any ((OpenSpec.ofChange Rows.recEncodesSpec).preRow enc Tryz.prog Tryz.f3 Rows.recEncodesRow.domain false Rows.recEncodesRow.laid) (((OpenSpec.ofChange Rows.recEncodesSpec).at F).post enc Tryz.prog Tryz.f3 false true false false) := by
  refine returnsInHanded_of_row (C := Tryz.checked) (s := OpenSpec.ofChange Rows.recEncodesSpec) ownKnob_none started (by kernel_rfl) Tryz.func3
    (witness_row_at (enc := enc) (C := Tryz.checked) false (laidWorld os) #[.agg #[.int .i64 0, .int .i64 0, .int .i64 0, .int .u8 0, .int .i64 0, .int .i64 0, .int .i64 0, .int .i64 0, .int .i64 0, .int .i64 0, .string ByteArray.empty, .slice none 0 0, .slice none 0 0, .slice none 0 0, .slice none 0 0, .slice none 0 0], .agg #[.int .i64 0, .int .i64 0, .int .i64 0, .int .u8 0, .int .i64 0, .int .i64 0, .int .i64 0, .int .i64 0, .int .i64 0, .int .i64 0, .string ByteArray.empty, .slice none 0 0, .slice none 0 0, .slice none 0 0, .slice none 0 0, .slice none 0 0]] rfl (by kernel_rfl) (by kernel_rfl) (by kernel_rfl)
      (OpenSpec.preRow_of_cond (x := ([.agg [.lit (.int .i64 0), .lit (.int .i64 0), .lit (.int .i64 0), .lit (.int .u8 0), .lit (.int .i64 0), .lit (.int .i64 0), .lit (.int .i64 0), .lit (.int .i64 0), .lit (.int .i64 0), .lit (.int .i64 0), .lit (.string []), .nil, .nil, .nil, .nil, .nil], .agg [.lit (.int .i64 0), .lit (.int .i64 0), .lit (.int .i64 0), .lit (.int .u8 0), .lit (.int .i64 0), .lit (.int .i64 0), .lit (.int .i64 0), .lit (.int .i64 0), .lit (.int .i64 0), .lit (.int .i64 0), .lit (.string []), .nil, .nil, .nil, .nil, .nil]], [], [])) 8 (by kernel_rfl) (by kernel_rfl) (fun k hk => by cases hk) (by kernel_rfl) (laid_met os))) ?_
  intro W base args ds gs before hval0 hW _ _ hsz _ _ _
  have hval : ∀ (j : Nat) t v, Tryz.f3.params[j]? = some t → args[j]? = some v → Value.okWide Tryz.prog W .any base t v := hval0
  have hW' := hW
  obtain ⟨p, q, hA0, hV, rfl, hfz, hnd⟩ := hW
  have hA : DataW.TrodAll enc Tryz.prog W 0 (fun _ => true) true Tryz.f3.params.toList args.toList ds p := hA0
  rw [Tryz.params3] at hA hval hsz
  obtain ⟨v0, vs0, d0, ds0, p0, q0, hargs, rfl, rfl, h0, r0⟩ := trodAll_cons hA
  obtain ⟨v1, vs1, d1, ds1, p1, q1, rfl, rfl, rfl, h1, r1⟩ := trodAll_cons r0
  obtain ⟨rfl, rfl, rfl⟩ := trodAll_nil r1
  obtain rfl : args = #[v0, v1] := by cases args; simp_all
  obtain ⟨rfl, rfl⟩ := trodVars_none hV
  obtain ⟨r, L, rfl, hat⟩ := open_rec (hval 0 28 v0 rfl rfl) h0 (sized_mem hsz (j := 0) rfl rfl)
  obtain ⟨r2, L2, rfl, hat2⟩ := open_rec (hval 1 28 v1 rfl rfl) h1 (sized_mem hsz (j := 1) rfl rfl)
  have lt0 : ∀ x ∈ p0, x.block < W.heap.size := fun x hx => hW'.lt x (by simp [hx])
  have lt1 : ∀ x ∈ p1, x.block < W.heap.size := fun x hx => hW'.lt x (by simp [hx])
  clear hA0 hval0
  simp only [List.append_nil] at hW'
  refine (rencodes_law W r r2 L L2 hat hat2).mono fun e W' ⟨he, ho⟩ => ?_
  subst he
  have bel : Below W.heap.size W W' := ho.below (Nat.le_refl _) (fun _ _ h => h)
  exact ⟨_, rfl, _, _, _, [], _, [], hW', trodAll_mk1 (shut_bool Tryz.underlying4 _), (trodAll_cons_mk (Below.trod Tryz.laidOut (by kernel_rfl) (of_decide_eq_true (by kernel_rfl)) h0 bel lt0) (trodAll_cons_mk (Below.trod Tryz.laidOut (by kernel_rfl) (of_decide_eq_true (by kernel_rfl)) h1 bel lt1) trodAll_mk0)), rfl, bel.frame _, fun h => by cases h⟩

theorem said : Rows.RecEncodesSaid :=
  OpenClaim.holds_of_cond 3 Tryz.f3 rfl rfl rfl rfl rfl rfl rfl ⟨rfl, rfl, rfl, rfl, rfl⟩ rfl rfl rfl rfl rfl (by kernel_rfl) Tryz.func3 (by kernel_rfl)
    (of_decide_eq_true (by kernel_rfl)) (by unfold Func.isWrapper; first | (rw [if_pos (by decide +kernel)]; kernel_rfl) | (rw [if_neg (by decide +kernel)]; exact ⟨rfl, rfl⟩))
    (fun os started H enc _ F => by rw [OpenClaim.pre_eq_preRow]; exact lifted os started H enc F)
theorem plain (f : FuncId) (fn : Func) (hf : Tryz.pinned.checked.prog.funcNamed "almonry/almonrylaw04.RecEncodes" = some f) (hfn : Tryz.pinned.checked.prog.funcs[f]? = some fn) :
    false = Tryz.pinned.checked.prog.looks [] ∧ ∀ (j : Nat) t, fn.params[j]? = some t → Tryz.pinned.checked.prog.wantsStandIn t = false := by
  obtain rfl : f = 3 := Option.some.inj ((show Tryz.prog.funcNamed "almonry/almonrylaw04.RecEncodes" = some 3 by kernel_rfl).symm.trans hf) |>.symm
  obtain rfl : fn = Tryz.f3 := (Option.some.inj (Tryz.func3.symm.trans hfn)).symm
  refine ⟨by kernel_rfl, fun j t ht => ?_⟩
  rw [Tryz.params3] at ht
  have ht' : t = 28 := by simpa using Array.mem_of_getElem? ht
  subst ht'
  exact (show Tryz.prog.wantsStandIn 28 = false by kernel_rfl)
theorem card : Rows.RecEncodesCardSaid :=
  Claim7.holds_tied_plain_at .later [] _ _ _ _ said (fun _ h => by cases h) (by kernel_rfl) (fun _ h => by cases h) recEncodes_row_tie rfl ⟨rfl, rfl⟩ (by kernel_rfl) rfl plain (by kernel_rfl)
end Go.Proofs.YtmhjmnmhbndlcaaGreatDoor.recEncodes
namespace Go.Proofs.YtmhjmnmhbndlcaaGreatDoor
theorem recEncodes_holds : Rows.RecEncodesCardSaid := recEncodes.card
#print axioms recEncodes_holds
end Go.Proofs.YtmhjmnmhbndlcaaGreatDoor
