/- Parts. -/
import Derived.Test.YtajjakljheafjaaGreatK40
set_option maxRecDepth 100000
namespace Go.Proofs.YtajjakljheafjaaGreat
open Go.RowKit
theorem Cb.putF {w : World} {b : Nat} {cs : List Value} (h : Cb w b cs) (ds : List Value) (hl : ds.length = cs.length) : Cb (w.setCells b 0 ds) b ds := by
  have q := Cb.sets (c1 := []) (c2 := cs) (c3 := []) (by simpa using h) ds hl
  simpa using q
set_option maxRecDepth 100000 in
set_option maxHeartbeats 1600000 in
theorem mark_step (w : World) (Z : Nat → Prop) (p : Nat) (P : Pn) (h : Pm w Z p P) (hown : I64 P.own) (V : Vv) (B : Pv) (fa : Option Addr) (fn fc : Nat) (R : Hr) (c : Int)
    (hM : ∀ W, Only (fun _ => False) w W → Calls Tryz.prog 183 #[.agg B.ar, .int .i64 P.wp, .int .i64 P.old.slot, .int .i64 P.own] W fun x w' => x = .returned (.tuple #[.agg R.cells, .int .i64 c]) ∧ Only (fun _ => False) W w') :
    Calls Tryz.prog 164 #[.pointer (some ⟨p, 0, none⟩), .agg V.ar, .agg B.ar, .slice fa fn fc] w (SQ w Z p (fun P' cs is => if c = 0 then P' = P.gon ∧ is = true ∧ cs = R.cl else P' = P.fl c ∧ is = false ∧ cs = Hr.none.cl)) := by
  have H3 := hide (St3.new w V B)
  have HH := hide (h.more H3.out.only)
  have HM := hide hM
  have HOW := hide hown
  have HZW := hide h.zlt
  have HZP : Hid (Z p) := h.zp
  clear h hM hown
  unfold Vv.ar Pv.ar at *
  have HNR : Hid (¬ Z (w.heap.size + 1 + 1)) := fun q => by have := HZW.out _ q; omega
  go_enter Tryz.func164, Tryz.ntmps164
  go_upto_region 1 with fail
  obtain ⟨W0, hW0⟩ : ∃ y, ((w.alloc (.cells #[.int .i64 V.m, .int .i64 V.nx, .slice V.aA V.nA V.cA, .int .i64 V.ow, .slice V.aR V.nR V.cR, .int .i64 V.l, .int .i64 V.k, .int .i64 V.v, .int .i64 V.r, .string V.h, .slice V.aP V.nP V.cP] 42)).alloc (.cells #[.int .i64 B.a, .int .i64 B.k, .int .i64 B.v, .int .i64 B.r, .string B.h, .slice B.ao B.n B.cp] 37)).alloc (.cells Hr.none.cells 50) = y := ⟨_, rfl⟩
  rw [hW0] at H3 HH ⊢
  clear hW0
  refine wp_region_noPanic ?_
  refine wp_region_held_drew (S := fun W => Only (fun _ => False) W0 W) (by kernel_rfl) (Only.drew _ _) (fun hHeld => ?_)
  refine wpAnyH_take (i := 0) (oi := { dst := some 13, op := Op.load 37 (Operand.tmp 6), type := 37, pos := "change.go:13", after := #[], guard := none }) (v := .agg #[.int .i64 B.a, .int .i64 B.k, .int .i64 B.v, .int .i64 B.r, .string B.h, .slice B.ao B.n B.cp]) rfl (by kernel_rfl) (by kernel_rfl) (by kernel_rfl) (fun _ _ _ h => h) (yieldsIf_load_page (by rfl) _ rfl _ rfl (fun W hW => (H3.out.more hW).pb.pag)) (by assumption) ?_
  simp only [Act.put, List.setIfInBounds_toArray, List.set_cons_zero, List.set_cons_succ]
  refine wpAnyH_take (i := 1) (oi := { dst := some 14, op := Op.move (Operand.tmp 0), type := 27, pos := "change.go:13", after := #[], guard := none }) (v := .pointer (some ⟨p, 0, none⟩)) rfl (by kernel_rfl) (by kernel_rfl) (by kernel_rfl) (fun _ _ _ h => h) (Or.inl ⟨by rfl, fun w' hSw => by clear hSw; go_simp⟩) (by assumption) ?_
  simp only [Act.put, List.setIfInBounds_toArray, List.set_cons_zero, List.set_cons_succ]
  refine wpAnyH_take (i := 6) (oi := { dst := some 19, op := Op.move (Operand.tmp 0), type := 27, pos := "change.go:13", after := #[], guard := none }) (v := .pointer (some ⟨p, 0, none⟩)) rfl (by kernel_rfl) (by kernel_rfl) (by kernel_rfl) (fun _ _ _ h => h) (Or.inl ⟨by rfl, fun w' hSw => by clear hSw; go_simp⟩) (by assumption) ?_
  simp only [Act.put, List.setIfInBounds_toArray, List.set_cons_zero, List.set_cons_succ]
  refine wpAnyH_take (i := 11) (oi := { dst := some 24, op := Op.move (Operand.tmp 0), type := 27, pos := "change.go:13", after := #[], guard := none }) (v := .pointer (some ⟨p, 0, none⟩)) rfl (by kernel_rfl) (by kernel_rfl) (by kernel_rfl) (fun _ _ _ h => h) (Or.inl ⟨by rfl, fun w' hSw => by clear hSw; go_simp⟩) (by assumption) ?_
  simp only [Act.put, List.setIfInBounds_toArray, List.set_cons_zero, List.set_cons_succ]
  refine wpAnyH_take (i := 2) (oi := { dst := some 15, op := Op.nilCheck (Operand.tmp 14), type := 0, pos := "change.go:13", after := #[{ on := 1, ground := Ground.data }], guard := none }) (v := .pointer (some ⟨p, 0, none⟩)) rfl (by kernel_rfl) (by kernel_rfl) (by kernel_rfl) (fun _ _ _ h => h) (Or.inl ⟨by rfl, fun w' hSw => by clear hSw; go_simp⟩) (by assumption) ?_
  simp only [Act.put, List.setIfInBounds_toArray, List.set_cons_zero, List.set_cons_succ]
  refine wpAnyH_take (i := 7) (oi := { dst := some 20, op := Op.nilCheck (Operand.tmp 19), type := 0, pos := "change.go:13", after := #[{ on := 6, ground := Ground.data }], guard := none }) (v := .pointer (some ⟨p, 0, none⟩)) rfl (by kernel_rfl) (by kernel_rfl) (by kernel_rfl) (fun _ _ _ h => h) (Or.inl ⟨by rfl, fun w' hSw => by clear hSw; go_simp⟩) (by assumption) ?_
  simp only [Act.put, List.setIfInBounds_toArray, List.set_cons_zero, List.set_cons_succ]
  refine wpAnyH_take (i := 12) (oi := { dst := some 25, op := Op.nilCheck (Operand.tmp 24), type := 0, pos := "change.go:13", after := #[{ on := 11, ground := Ground.data }], guard := none }) (v := .pointer (some ⟨p, 0, none⟩)) rfl (by kernel_rfl) (by kernel_rfl) (by kernel_rfl) (fun _ _ _ h => h) (Or.inl ⟨by rfl, fun w' hSw => by clear hSw; go_simp⟩) (by assumption) ?_
  simp only [Act.put, List.setIfInBounds_toArray, List.set_cons_zero, List.set_cons_succ]
  refine wpAnyH_take (i := 3) (oi := { dst := some 16, op := Op.fieldAddr 96 (Operand.tmp 15) 2, type := 0, pos := "change.go:13", after := #[{ on := 2, ground := Ground.data }], guard := none }) (v := .pointer (some ⟨p, 6, none⟩)) rfl (by kernel_rfl) (by kernel_rfl) (by kernel_rfl) (fun _ _ _ h => h) (Or.inl ⟨by rfl, fun w' hSw => by clear hSw; go_simp⟩) (by assumption) ?_
  simp only [Act.put, List.setIfInBounds_toArray, List.set_cons_zero, List.set_cons_succ]
  refine wpAnyH_take (i := 8) (oi := { dst := some 21, op := Op.fieldAddr 96 (Operand.tmp 20) 6, type := 0, pos := "change.go:13", after := #[{ on := 7, ground := Ground.data }], guard := none }) (v := .pointer (some ⟨p, 20, none⟩)) rfl (by kernel_rfl) (by kernel_rfl) (by kernel_rfl) (fun _ _ _ h => h) (Or.inl ⟨by rfl, fun w' hSw => by clear hSw; go_simp⟩) (by assumption) ?_
  simp only [Act.put, List.setIfInBounds_toArray, List.set_cons_zero, List.set_cons_succ]
  refine wpAnyH_take (i := 13) (oi := { dst := some 26, op := Op.fieldAddr 96 (Operand.tmp 25) 1, type := 0, pos := "change.go:13", after := #[{ on := 12, ground := Ground.data }], guard := none }) (v := .pointer (some ⟨p, 5, none⟩)) rfl (by kernel_rfl) (by kernel_rfl) (by kernel_rfl) (fun _ _ _ h => h) (Or.inl ⟨by rfl, fun w' hSw => by clear hSw; go_simp⟩) (by assumption) ?_
  simp only [Act.put, List.setIfInBounds_toArray, List.set_cons_zero, List.set_cons_succ]
  refine wpAnyH_take (i := 4) (oi := { dst := some 17, op := Op.fieldAddr 32 (Operand.tmp 16) 3, type := 0, pos := "change.go:13", after := #[{ on := 3, ground := Ground.data }], guard := none }) (v := .pointer (some ⟨p, 9, none⟩)) rfl (by kernel_rfl) (by kernel_rfl) (by kernel_rfl) (fun _ _ _ h => h) (Or.inl ⟨by rfl, fun w' hSw => by clear hSw; go_simp⟩) (by assumption) ?_
  simp only [Act.put, List.setIfInBounds_toArray, List.set_cons_zero, List.set_cons_succ]
  refine wpAnyH_take (i := 9) (oi := { dst := some 22, op := Op.fieldAddr 89 (Operand.tmp 21) 2, type := 0, pos := "change.go:13", after := #[{ on := 8, ground := Ground.data }], guard := none }) (v := .pointer (some ⟨p, 22, none⟩)) rfl (by kernel_rfl) (by kernel_rfl) (by kernel_rfl) (fun _ _ _ h => h) (Or.inl ⟨by rfl, fun w' hSw => by clear hSw; go_simp⟩) (by assumption) ?_
  simp only [Act.put, List.setIfInBounds_toArray, List.set_cons_zero, List.set_cons_succ]
  refine wpAnyH_take (i := 14) (oi := { dst := some 27, op := Op.load 3 (Operand.tmp 26), type := 3, pos := "change.go:13", after := #[{ on := 13, ground := Ground.data }], guard := none }) (v := .int .i64 P.own) rfl (by kernel_rfl) (by kernel_rfl) (by kernel_rfl) (fun _ _ _ h => h) (yieldsIf_load_cell (by rfl) 3 _ rfl _ rfl (fun W hW => (HH.out.more hW).cb.c 5 _ rfl) (fun W hc => ld_int hc)) (by assumption) ?_
  simp only [Act.put, List.setIfInBounds_toArray, List.set_cons_zero, List.set_cons_succ]
  refine wpAnyH_take (i := 5) (oi := { dst := some 18, op := Op.load 3 (Operand.tmp 17), type := 3, pos := "change.go:13", after := #[{ on := 4, ground := Ground.data }], guard := none }) (v := .int .i64 P.wp) rfl (by kernel_rfl) (by kernel_rfl) (by kernel_rfl) (fun _ _ _ h => h) (yieldsIf_load_cell (by rfl) 3 _ rfl _ rfl (fun W hW => (HH.out.more hW).cb.c 9 _ rfl) (fun W hc => ld_int hc)) (by assumption) ?_
  simp only [Act.put, List.setIfInBounds_toArray, List.set_cons_zero, List.set_cons_succ]
  refine wpAnyH_take (i := 10) (oi := { dst := some 23, op := Op.load 3 (Operand.tmp 22), type := 3, pos := "change.go:13", after := #[{ on := 9, ground := Ground.data }], guard := none }) (v := .int .i64 P.old.slot) rfl (by kernel_rfl) (by kernel_rfl) (by kernel_rfl) (fun _ _ _ h => h) (yieldsIf_load_cell (by rfl) 3 _ rfl _ rfl (fun W hW => (HH.out.more hW).cb.c 22 _ rfl) (fun W hc => ld_int hc)) (by assumption) ?_
  simp only [Act.put, List.setIfInBounds_toArray, List.set_cons_zero, List.set_cons_succ]
  refine wpAnyH_ready (rs := [15, 19]) (by kernel_rfl) (by simp) ?_
  refine AllReadyH.cons (o := { dst := some 28, op := Op.call { callee := Callee.value (Operand.func 183), args := #[Operand.tmp 13, Operand.tmp 18, Operand.tmp 23, Operand.tmp 27], argTypes := #[37, 3, 3, 3] }, type := 130, pos := "change.go:13", after := #[{ on := 0, ground := Ground.data }, { on := 5, ground := Ground.data }, { on := 10, ground := Ground.data }, { on := 14, ground := Ground.data }], guard := none }) rfl (fun K hK => ?_) (AllReadyH.cons (o := { dst := some 10, op := Op.alloc 50, type := 0, pos := "change.go:13", after := #[], guard := none }) rfl (fun K hK => ?_) (AllReadyH.nil))
  · go_simp
    refine (HM.out _ (o2 H3.out.only hHeld)).mono ?_
    rintro x w2 ⟨rfl, ho⟩
    have HO2 := hide (o2 hHeld ho)
    clear ho
    refine hK.out _ _ (HO2.out) (fun hHeld => ?_)
    clear hK K
    try simp only [Act.put, List.setIfInBounds_toArray, List.set_cons_zero, List.set_cons_succ]
    refine wpAnyH_take (i := 16) (oi := { dst := some 12, op := Op.move (Operand.tmp 28), type := 130, pos := "change.go:13", after := #[{ on := 15, ground := Ground.data }], guard := none }) (v := .tuple #[.agg R.cells, .int .i64 c]) rfl (by kernel_rfl) (by kernel_rfl) (by kernel_rfl) (fun _ _ _ h => h) (Or.inl ⟨by rfl, fun w' hSw => by clear hSw; go_simp⟩) (by assumption) ?_
    simp only [Act.put, List.setIfInBounds_toArray, List.set_cons_zero, List.set_cons_succ]
    refine wpAnyH_take (i := 17) (oi := { dst := some 29, op := Op.extract (Operand.tmp 12) 0, type := 50, pos := "change.go:13", after := #[{ on := 16, ground := Ground.data }], guard := none }) (v := .agg R.cells) rfl (by kernel_rfl) (by kernel_rfl) (by kernel_rfl) (fun _ _ _ h => h) (Or.inl ⟨by rfl, fun w' hSw => by clear hSw; go_simp⟩) (by assumption) ?_
    simp only [Act.put, List.setIfInBounds_toArray, List.set_cons_zero, List.set_cons_succ]
    refine wpAnyH_take (i := 18) (oi := { dst := some 30, op := Op.extract (Operand.tmp 12) 1, type := 28, pos := "change.go:13", after := #[{ on := 16, ground := Ground.data }, { on := 20, ground := Ground.gcOnly Departure.lateStores }], guard := none }) (v := .int .i64 c) rfl (by kernel_rfl) (by kernel_rfl) (by kernel_rfl) (fun _ _ _ h => h) (Or.inl ⟨by rfl, fun w' hSw => by clear hSw; go_simp⟩) (by assumption) ?_
    simp only [Act.put, List.setIfInBounds_toArray, List.set_cons_zero, List.set_cons_succ]
    refine wpAnyH_ready (rs := [19]) (by kernel_rfl) (by simp) ?_
    refine AllReadyH.cons (o := { dst := some 10, op := Op.alloc 50, type := 0, pos := "change.go:13", after := #[], guard := none }) rfl (fun K hK => ?_) (AllReadyH.nil)
    go_simp
    have HCB := hide (Cb.new w2 Hr.none.cl 50)
    have HO3 := hide (o2 HO2.out (onlyA w2 (.cells Hr.none.cells 50)))
    refine hK.out _ _ (HO3.out) (fun hHeld => ?_)
    clear hK K
    try simp only [Act.put, List.setIfInBounds_toArray, List.set_cons_zero, List.set_cons_succ]
    refine wpAnyH_ready (rs := [20]) (by kernel_rfl) (by simp) ?_
    refine AllReadyH.cons (o := { dst := none, op := Op.store 50 (Operand.tmp 10) (Operand.tmp 29), type := 0, pos := "change.go:13", after := #[{ on := 19, ground := Ground.data }, { on := 17, ground := Ground.data }, { on := 15, ground := Ground.chain }, { on := 0, ground := Ground.phase }, { on := 1, ground := Ground.phase }, { on := 2, ground := Ground.phase }, { on := 3, ground := Ground.phase }, { on := 4, ground := Ground.phase }, { on := 5, ground := Ground.phase }, { on := 6, ground := Ground.phase }, { on := 7, ground := Ground.phase }, { on := 8, ground := Ground.phase }, { on := 9, ground := Ground.phase }, { on := 10, ground := Ground.phase }, { on := 11, ground := Ground.phase }, { on := 12, ground := Ground.phase }, { on := 13, ground := Ground.phase }, { on := 14, ground := Ground.phase }, { on := 15, ground := Ground.phase }, { on := 16, ground := Ground.phase }, { on := 17, ground := Ground.phase }, { on := 18, ground := Ground.textOnly Departure.lateStores }, { on := 19, ground := Ground.phase }], guard := none }) rfl (fun K hK => ?_) (AllReadyH.nil)
    rw [if_pos (by rfl)]
    have HTH : Hid ((w2.alloc (.cells Hr.none.cells 50)).there w2.heap.size 0 R.cells.size) := by exact HCB.out.rg.there
    refine wp_store_mid 50 (.tmp 10) (.tmp 29) rfl w2.heap.size 0 R.cells rfl rfl HTH.out Tryz.sizeRecF (by simp [Value.oneCell']) ?_
    have HLB : Hid (W0.heap.size ≤ w2.heap.size) := HO2.out.size
    have HC4 : Hid (Cb ((w2.alloc (.cells Hr.none.cells 50)).setCells w2.heap.size 0 R.cl) w2.heap.size R.cl) := Cb.putF HCB.out R.cl rfl
    have HO4 : Hid (Only (fun _ => False) W0 ((w2.alloc (.cells Hr.none.cells 50)).setCells w2.heap.size 0 R.cl)) := (HO3.out).trans (only_setCells w2.heap.size R.cl 0 (w2.alloc (.cells Hr.none.cells 50))) (fun i hi e => by have := HLB.out; omega)
    refine hK.out _ _ (HO4.out) (fun hHeld => ?_)
    clear hK K
    simp only [Act.put]
    refine wpAnyH_take (i := 21) (oi := { dst := some 11, op := Op.assign (Operand.tmp 30), type := 28, pos := "change.go:13", after := #[{ on := 18, ground := Ground.data }, { on := 20, ground := Ground.chain }, { on := 0, ground := Ground.phase }, { on := 1, ground := Ground.phase }, { on := 2, ground := Ground.phase }, { on := 3, ground := Ground.phase }, { on := 4, ground := Ground.phase }, { on := 5, ground := Ground.phase }, { on := 6, ground := Ground.phase }, { on := 7, ground := Ground.phase }, { on := 8, ground := Ground.phase }, { on := 9, ground := Ground.phase }, { on := 10, ground := Ground.phase }, { on := 11, ground := Ground.phase }, { on := 12, ground := Ground.phase }, { on := 13, ground := Ground.phase }, { on := 14, ground := Ground.phase }, { on := 15, ground := Ground.phase }, { on := 16, ground := Ground.phase }, { on := 17, ground := Ground.phase }, { on := 18, ground := Ground.phase }, { on := 19, ground := Ground.phase }, { on := 20, ground := Ground.phase }], guard := none }) (v := .int .i64 c) rfl (by kernel_rfl) (by kernel_rfl) (by kernel_rfl) (fun _ _ _ h => h) (Or.inl ⟨by rfl, fun w' hSw => by clear hSw; go_simp⟩) (by assumption) ?_
    simp only [Act.put, List.setIfInBounds_toArray, List.set_cons_zero, List.set_cons_succ]
    refine wpAnyH_done (by kernel_rfl) ?_ _
    refine NoPanic.normal ?_
    obtain ⟨w4, hw4⟩ : ∃ x, (w2.alloc (.cells Hr.none.cells 50)).setCells w2.heap.size 0 R.cl = x := ⟨_, rfl⟩
    rw [hw4] at HC4 HO4
    rw [show (w2.alloc (.cells Hr.none.cells 50)).setCells w2.heap.size 0 R.cells.toList = w4 from hw4]
    clear hw4 HCB HTH hHeld
    have HSZ2 : Hid (w.heap.size + 1 + 1 < w2.heap.size) := Nat.lt_of_lt_of_le H3.out.rb.lt HLB.out
    obtain ⟨b, hb⟩ : ∃ b, w2.heap.size = b := ⟨_, rfl⟩
    rw [hb] at HC4 HSZ2 ⊢
    clear hb HLB
    have HP4 := hide (HH.out.more HO4.out)
    have HR4 := hide (H3.out.rb.more HO4.out)
    have HOA := hide (o2 H3.out.only HO4.out)
    have HNB : Hid (¬ b = p) := fun e => by have := HZW.out p HZP.out; have := HSZ2.out; omega
    clear HH H3
    by_cases hc : c = 0
    · have hb : (c != 0) = false := by simp [hc]
      have HC0 := hide hc
      clear hc
      have HG := hide (goOn_any w4 Z p P HP4.out HOW.out)
      go_wp2_with fail
      refine HG.out.mono ?_
      rintro x w5 ⟨rfl, hp, ho⟩
      have HP5 := hide hp
      have HO5 := hide ho
      have HR5 := hide (HR4.out.kept ho (fun q => HNR.out (by rw [q]; exact HZP.out)))
      have HC5 := hide (HC4.out.kept ho HNB.out)
      clear hp ho HG
      have r0 := HC5.out.c 0 _ rfl
      have r1 := HC5.out.c 1 _ rfl
      have r2 := HC5.out.c 2 _ rfl
      have r3 := HC5.out.c 3 _ rfl
      have r4 := HC5.out.c 4 _ rfl
      have r5 := HC5.out.c 5 _ rfl
      have r6 := HC5.out.c 6 _ rfl
      have r7 := HC5.out.c 7 _ rfl
      have r8 := HC5.out.c 8 _ rfl
      have r9 := HC5.out.c 9 _ rfl
      have r10 := HC5.out.c 10 _ rfl
      have r11 := HC5.out.c 11 _ rfl
      have r12 := HC5.out.c 12 _ rfl
      have r13 := HC5.out.c 13 _ rfl
      have r14 := HC5.out.c 14 _ rfl
      have r15 := HC5.out.c 15 _ rfl
      go_wp2_with (refine wpList_put_cb rfl 50 (.tmp 8) (.tmp 40) rfl (w.heap.size + 1 + 1) rfl Hr.none.cl R.cl rfl Tryz.sizeRecF rfl rfl HR5.out ?_; intro W9 HW9; go_frame)
      refine bodyPost_ret (results_cb16 rfl rfl HW9.out.1 rfl) rfl ?_
      refine ⟨Z, P.gon, R.cl, true, ⟨rfl, rfl, rfl⟩, fun _ _ q => q, HP5.out.late HW9.out.2 HNR.out, ?_, ?_⟩
      · exact (((HOA.out.mono (fun _ _ e => e.elim)).trans (HO5.out.mono (fun k _ e => by rw [e]; exact HZP.out)) (fun _ _ e => e)).trans (HW9.out.2) (fun i hi e => by omega))
      · exact ⟨rfl, rfl, rfl⟩
    · have hb : (c != 0) = true := by simp [hc]
      have HC0 := hide hc
      clear hc
      have HF := hide (failS_any w4 Z p P HP4.out c)
      go_wp2_with fail
      refine HF.out.mono ?_
      rintro x w5 ⟨rfl, hp, ho⟩
      have HP5 := hide hp
      have HO5 := hide ho
      have HR5 := hide (HR4.out.kept ho (fun q => HNR.out (by rw [q]; exact HZP.out)))
      clear hp ho HF
      unfold noRec
      go_wp2_with (refine wpList_put_cb rfl 50 (.tmp 8) (.tmp 36) rfl (w.heap.size + 1 + 1) rfl Hr.none.cl Hr.none.cl rfl Tryz.sizeRecF rfl rfl HR5.out ?_; intro W9 HW9; go_frame)
      refine bodyPost_ret (results_cb16 rfl rfl HW9.out.1 rfl) rfl ?_
      refine ⟨Z, P.fl c, Hr.none.cl, false, ⟨rfl, rfl, rfl⟩, fun _ _ q => q, HP5.out.late HW9.out.2 HNR.out, ?_, ?_⟩
      · exact (((HOA.out.mono (fun _ _ e => e.elim)).trans (HO5.out.mono (fun k _ e => by rw [e]; exact HZP.out)) (fun _ _ e => e)).trans (HW9.out.2) (fun i hi e => by omega))
      · exact ⟨rfl, rfl, rfl⟩
  · go_simp
    refine hK.out _ _ (o2 hHeld (onlyA _ _)) (fun hHeld => ?_)
    clear hK K
    try simp only [Act.put, List.setIfInBounds_toArray, List.set_cons_zero, List.set_cons_succ]
    refine wpAnyH_ready (rs := [15]) (by kernel_rfl) (by simp) ?_
    refine AllReadyH.cons (o := { dst := some 28, op := Op.call { callee := Callee.value (Operand.func 183), args := #[Operand.tmp 13, Operand.tmp 18, Operand.tmp 23, Operand.tmp 27], argTypes := #[37, 3, 3, 3] }, type := 130, pos := "change.go:13", after := #[{ on := 0, ground := Ground.data }, { on := 5, ground := Ground.data }, { on := 10, ground := Ground.data }, { on := 14, ground := Ground.data }], guard := none }) rfl (fun K hK => ?_) (AllReadyH.nil)
    go_simp
    refine (HM.out _ (o2 H3.out.only hHeld)).mono ?_
    rintro x w2 ⟨rfl, ho⟩
    have HO2 := hide (o2 hHeld ho)
    have HCB := hide ((Cb.new W0.drew Hr.none.cl 50).more ho)
    clear ho
    refine hK.out _ _ (HO2.out) (fun hHeld => ?_)
    clear hK K
    try simp only [Act.put, List.setIfInBounds_toArray, List.set_cons_zero, List.set_cons_succ]
    refine wpAnyH_take (i := 16) (oi := { dst := some 12, op := Op.move (Operand.tmp 28), type := 130, pos := "change.go:13", after := #[{ on := 15, ground := Ground.data }], guard := none }) (v := .tuple #[.agg R.cells, .int .i64 c]) rfl (by kernel_rfl) (by kernel_rfl) (by kernel_rfl) (fun _ _ _ h => h) (Or.inl ⟨by rfl, fun w' hSw => by clear hSw; go_simp⟩) (by assumption) ?_
    simp only [Act.put, List.setIfInBounds_toArray, List.set_cons_zero, List.set_cons_succ]
    refine wpAnyH_take (i := 17) (oi := { dst := some 29, op := Op.extract (Operand.tmp 12) 0, type := 50, pos := "change.go:13", after := #[{ on := 16, ground := Ground.data }], guard := none }) (v := .agg R.cells) rfl (by kernel_rfl) (by kernel_rfl) (by kernel_rfl) (fun _ _ _ h => h) (Or.inl ⟨by rfl, fun w' hSw => by clear hSw; go_simp⟩) (by assumption) ?_
    simp only [Act.put, List.setIfInBounds_toArray, List.set_cons_zero, List.set_cons_succ]
    refine wpAnyH_take (i := 18) (oi := { dst := some 30, op := Op.extract (Operand.tmp 12) 1, type := 28, pos := "change.go:13", after := #[{ on := 16, ground := Ground.data }, { on := 20, ground := Ground.gcOnly Departure.lateStores }], guard := none }) (v := .int .i64 c) rfl (by kernel_rfl) (by kernel_rfl) (by kernel_rfl) (fun _ _ _ h => h) (Or.inl ⟨by rfl, fun w' hSw => by clear hSw; go_simp⟩) (by assumption) ?_
    simp only [Act.put, List.setIfInBounds_toArray, List.set_cons_zero, List.set_cons_succ]
    refine wpAnyH_ready (rs := [20]) (by kernel_rfl) (by simp) ?_
    refine AllReadyH.cons (o := { dst := none, op := Op.store 50 (Operand.tmp 10) (Operand.tmp 29), type := 0, pos := "change.go:13", after := #[{ on := 19, ground := Ground.data }, { on := 17, ground := Ground.data }, { on := 15, ground := Ground.chain }, { on := 0, ground := Ground.phase }, { on := 1, ground := Ground.phase }, { on := 2, ground := Ground.phase }, { on := 3, ground := Ground.phase }, { on := 4, ground := Ground.phase }, { on := 5, ground := Ground.phase }, { on := 6, ground := Ground.phase }, { on := 7, ground := Ground.phase }, { on := 8, ground := Ground.phase }, { on := 9, ground := Ground.phase }, { on := 10, ground := Ground.phase }, { on := 11, ground := Ground.phase }, { on := 12, ground := Ground.phase }, { on := 13, ground := Ground.phase }, { on := 14, ground := Ground.phase }, { on := 15, ground := Ground.phase }, { on := 16, ground := Ground.phase }, { on := 17, ground := Ground.phase }, { on := 18, ground := Ground.textOnly Departure.lateStores }, { on := 19, ground := Ground.phase }], guard := none }) rfl (fun K hK => ?_) (AllReadyH.nil)
    rw [if_pos (by rfl)]
    have HTH : Hid (w2.there W0.heap.size 0 R.cells.size) := by exact HCB.out.rg.there
    refine wp_store_mid 50 (.tmp 10) (.tmp 29) rfl W0.heap.size 0 R.cells rfl rfl HTH.out Tryz.sizeRecF (by simp [Value.oneCell']) ?_
    have HLB : Hid (W0.heap.size ≤ W0.heap.size) := Nat.le_refl _
    have HC4 : Hid (Cb (w2.setCells W0.heap.size 0 R.cl) W0.heap.size R.cl) := Cb.putF HCB.out R.cl rfl
    have HO4 : Hid (Only (fun _ => False) W0 (w2.setCells W0.heap.size 0 R.cl)) := (HO2.out).trans (only_setCells W0.heap.size R.cl 0 w2) (fun i hi e => by have := HLB.out; omega)
    refine hK.out _ _ (HO4.out) (fun hHeld => ?_)
    clear hK K
    simp only [Act.put]
    refine wpAnyH_take (i := 21) (oi := { dst := some 11, op := Op.assign (Operand.tmp 30), type := 28, pos := "change.go:13", after := #[{ on := 18, ground := Ground.data }, { on := 20, ground := Ground.chain }, { on := 0, ground := Ground.phase }, { on := 1, ground := Ground.phase }, { on := 2, ground := Ground.phase }, { on := 3, ground := Ground.phase }, { on := 4, ground := Ground.phase }, { on := 5, ground := Ground.phase }, { on := 6, ground := Ground.phase }, { on := 7, ground := Ground.phase }, { on := 8, ground := Ground.phase }, { on := 9, ground := Ground.phase }, { on := 10, ground := Ground.phase }, { on := 11, ground := Ground.phase }, { on := 12, ground := Ground.phase }, { on := 13, ground := Ground.phase }, { on := 14, ground := Ground.phase }, { on := 15, ground := Ground.phase }, { on := 16, ground := Ground.phase }, { on := 17, ground := Ground.phase }, { on := 18, ground := Ground.phase }, { on := 19, ground := Ground.phase }, { on := 20, ground := Ground.phase }], guard := none }) (v := .int .i64 c) rfl (by kernel_rfl) (by kernel_rfl) (by kernel_rfl) (fun _ _ _ h => h) (Or.inl ⟨by rfl, fun w' hSw => by clear hSw; go_simp⟩) (by assumption) ?_
    simp only [Act.put, List.setIfInBounds_toArray, List.set_cons_zero, List.set_cons_succ]
    refine wpAnyH_done (by kernel_rfl) ?_ _
    refine NoPanic.normal ?_
    obtain ⟨w4, hw4⟩ : ∃ x, w2.setCells W0.heap.size 0 R.cl = x := ⟨_, rfl⟩
    rw [hw4] at HC4 HO4
    rw [show w2.setCells W0.heap.size 0 R.cells.toList = w4 from hw4]
    clear hw4 HCB HTH hHeld
    have HSZ2 : Hid (w.heap.size + 1 + 1 < W0.heap.size) := Nat.lt_of_lt_of_le H3.out.rb.lt HLB.out
    obtain ⟨b, hb⟩ : ∃ b, W0.heap.size = b := ⟨_, rfl⟩
    rw [hb] at HC4 HSZ2 ⊢
    clear hb HLB
    have HP4 := hide (HH.out.more HO4.out)
    have HR4 := hide (H3.out.rb.more HO4.out)
    have HOA := hide (o2 H3.out.only HO4.out)
    have HNB : Hid (¬ b = p) := fun e => by have := HZW.out p HZP.out; have := HSZ2.out; omega
    clear HH H3
    by_cases hc : c = 0
    · have hb : (c != 0) = false := by simp [hc]
      have HC0 := hide hc
      clear hc
      have HG := hide (goOn_any w4 Z p P HP4.out HOW.out)
      go_wp2_with fail
      refine HG.out.mono ?_
      rintro x w5 ⟨rfl, hp, ho⟩
      have HP5 := hide hp
      have HO5 := hide ho
      have HR5 := hide (HR4.out.kept ho (fun q => HNR.out (by rw [q]; exact HZP.out)))
      have HC5 := hide (HC4.out.kept ho HNB.out)
      clear hp ho HG
      have r0 := HC5.out.c 0 _ rfl
      have r1 := HC5.out.c 1 _ rfl
      have r2 := HC5.out.c 2 _ rfl
      have r3 := HC5.out.c 3 _ rfl
      have r4 := HC5.out.c 4 _ rfl
      have r5 := HC5.out.c 5 _ rfl
      have r6 := HC5.out.c 6 _ rfl
      have r7 := HC5.out.c 7 _ rfl
      have r8 := HC5.out.c 8 _ rfl
      have r9 := HC5.out.c 9 _ rfl
      have r10 := HC5.out.c 10 _ rfl
      have r11 := HC5.out.c 11 _ rfl
      have r12 := HC5.out.c 12 _ rfl
      have r13 := HC5.out.c 13 _ rfl
      have r14 := HC5.out.c 14 _ rfl
      have r15 := HC5.out.c 15 _ rfl
      go_wp2_with (refine wpList_put_cb rfl 50 (.tmp 8) (.tmp 40) rfl (w.heap.size + 1 + 1) rfl Hr.none.cl R.cl rfl Tryz.sizeRecF rfl rfl HR5.out ?_; intro W9 HW9; go_frame)
      refine bodyPost_ret (results_cb16 rfl rfl HW9.out.1 rfl) rfl ?_
      refine ⟨Z, P.gon, R.cl, true, ⟨rfl, rfl, rfl⟩, fun _ _ q => q, HP5.out.late HW9.out.2 HNR.out, ?_, ?_⟩
      · exact (((HOA.out.mono (fun _ _ e => e.elim)).trans (HO5.out.mono (fun k _ e => by rw [e]; exact HZP.out)) (fun _ _ e => e)).trans (HW9.out.2) (fun i hi e => by omega))
      · exact ⟨rfl, rfl, rfl⟩
    · have hb : (c != 0) = true := by simp [hc]
      have HC0 := hide hc
      clear hc
      have HF := hide (failS_any w4 Z p P HP4.out c)
      go_wp2_with fail
      refine HF.out.mono ?_
      rintro x w5 ⟨rfl, hp, ho⟩
      have HP5 := hide hp
      have HO5 := hide ho
      have HR5 := hide (HR4.out.kept ho (fun q => HNR.out (by rw [q]; exact HZP.out)))
      clear hp ho HF
      unfold noRec
      go_wp2_with (refine wpList_put_cb rfl 50 (.tmp 8) (.tmp 36) rfl (w.heap.size + 1 + 1) rfl Hr.none.cl Hr.none.cl rfl Tryz.sizeRecF rfl rfl HR5.out ?_; intro W9 HW9; go_frame)
      refine bodyPost_ret (results_cb16 rfl rfl HW9.out.1 rfl) rfl ?_
      refine ⟨Z, P.fl c, Hr.none.cl, false, ⟨rfl, rfl, rfl⟩, fun _ _ q => q, HP5.out.late HW9.out.2 HNR.out, ?_, ?_⟩
      · exact (((HOA.out.mono (fun _ _ e => e.elim)).trans (HO5.out.mono (fun k _ e => by rw [e]; exact HZP.out)) (fun _ _ e => e)).trans (HW9.out.2) (fun i hi e => by omega))
      · exact ⟨rfl, rfl, rfl⟩
/-- Insert of an entry that goes in, and fits. -/
def InsR (w w' : World) (x : Ending) (a r : Int) (h : ByteArray) (hi : En) (l : List ByteArray) (es : List En) (e : En) : Prop :=
  ∃ B ao cp, x = .returned (.tuple #[.agg #[.int .i64 a, .int .i64 3, .int .i64 0, .int .i64 r, .string h, .slice ao (insI l es e).length cp], .int .i64 0]) ∧ Lp w' r h hi B ao (insI l es e) (insE es e) ∧ Fit ao (insI l es e).length cp ∧ Only (fun _ => False) w w' ∧ w.heap.size ≤ B
theorem insI_len (l : List ByteArray) (es : List En) (e : En) : (insI l es e).length = l.length + 1 := by
  unfold insI
  simp only [List.length_append, List.length_cons, List.length_take, List.length_drop]
  omega
theorem InsQ.fits {w w' : World} {x : Ending} {a r : Int} {h : ByteArray} {hi e : En} {l : List ByteArray} {es : List En} {B : Nat} {ao : Option Addr} (q : InsQ w w' x a r h hi e l es) (hP : Lp w r h hi B ao l es) (ho : e.ok = true) (hb : byd hi e = false) (hn : e ∉ es) (hf : ¬ (255 < (insI l es e).length ∨ 512 < 20 + h.size + isz (insI l es e))) : InsR w w' x a r h hi l es e := by
  obtain ⟨B5, ao5, cp5, rfl, hS5, hF5, ho5, hB5⟩ := (q.good ho hb hn).2 hf
  have hl := insI_len l es e
  refine ⟨B5, ao5, cp5, rfl, ⟨hS5, hP.right, hP.high, hP.lf.ins ho hb hn, by omega⟩, hF5, ho5, hB5 (by show 0 < (insI l es e).length; omega)⟩
def eA : En := ⟨⟨#[97]⟩, 2, 0⟩
theorem eA_ok : eA.ok = true := by decide
theorem lp_none (w : World) : Lp w 0 ⟨#[]⟩ noE 0 none [] [] := ⟨Strs.nil _ _ _, by decide, .inl ⟨rfl, rfl⟩, ⟨rfl, List.Pairwise.nil, (fun _ h => by cases h), (fun _ h => by cases h)⟩, by simp⟩
/-- The leaf. -/
def aX : Nd := ⟨0, 0, noE, [(eA, 0)]⟩
theorem aX_gd : Gd aX := by
  refine ⟨by decide, by decide, ⟨noE, ?_⟩, fun h => absurd h (by decide)⟩
  refine ⟨List.pairwise_cons.2 ⟨(fun _ h => by cases h), List.Pairwise.nil⟩, .inl rfl, fun _ k hk => ?_, fun h => absurd h (by decide), fun h => absurd h (by decide), by decide +kernel⟩
  have e : k = (eA, 0) := by simpa [aX] using hk
  subst e
  exact ⟨eA_ok, rfl, noE_lt eA_ok, byd_noE _⟩
theorem fits_1 : ¬ (255 < ([eA.enc] : List ByteArray).length ∨ 512 < 20 + (⟨#[]⟩ : ByteArray).size + isz [eA.enc]) := by decide +kernel
theorem insert_A (W : World) : Calls Tryz.prog 46 #[.agg #[.int .i64 0, .int .i64 3, .int .i64 0, .int .i64 0, .string ⟨#[]⟩, .slice none 0 0], .agg #[.string ⟨#[97]⟩, .int .i64 2, .int .i64 0]] W fun x w' => ∃ B ao cp, x = .returned (.tuple #[.agg #[.int .i64 0, .int .i64 3, .int .i64 0, .int .i64 0, .string ⟨#[]⟩, .slice ao 1 cp], .int .i64 0]) ∧ Strs w' B ao [eA.enc] ∧ Fit ao 1 cp ∧ Only (fun _ => False) W w' ∧ W.heap.size ≤ B :=
  (insert_ok W 0 0 ⟨#[]⟩ noE eA 0 0 none [] [] (lp_none W) ⟨fun _ => rfl, by simp, by simp⟩).mono (fun x w' q => by
    obtain ⟨B, ao, cp, h1, h2, h3, h4, h5⟩ := q.fits (lp_none W) eA_ok (byd_noE _) (by simp) fits_1
    exact ⟨B, ao, cp, h1, h2.strs, h3, h4, h5⟩)
/-- The version. -/
def aT : Tu := ⟨1, 0, false, ⟨#[97]⟩, ⟨#[120]⟩⟩
theorem aT_ok : aT.ok = true := rfl
def aS : ByteArray := str aT.enc
theorem aS_size : aS.size = 9 := by unfold aS; rw [str_size, enc_lenT aT_ok]; rfl
theorem aT_dec : decT (bl aS) = some aT := by unfold aS; rw [show bl (str aT.enc) = aT.enc from rfl]; exact dec_encT aT_ok
/-- The statuses. -/
def aP : Pg := ⟨0, 1, 0, 0, ⟨#[]⟩, [⟨#[1]⟩, ⟨#[2, 0, 0, 0]⟩]⟩
theorem aP0 : blankP 16 1 = ⟨0, 1, 0, 0, ⟨#[]⟩, [⟨#[1]⟩, ⟨#[0, 0, 0, 0]⟩]⟩ := rfl
theorem aok0 : OkP 16 ⟨0, 1, 0, 0, ⟨#[]⟩, [⟨#[1]⟩, ⟨#[0, 0, 0, 0]⟩]⟩ := by
  have := OkP.blank (id16 (x := 1) (by omega) (by omega))
  rw [aP0] at this
  exact this
theorem aP1 : setP ⟨0, 1, 0, 0, ⟨#[]⟩, [⟨#[1]⟩, ⟨#[0, 0, 0, 0]⟩]⟩ 1 2 = aP := rfl
theorem aok1 : OkP 16 aP := by
  have := aok0.set (id16 (x := 1) (by omega) (by omega)) (show 2 < 4 by omega)
  rw [aP1] at this
  exact this
/-- The view. -/
def aV : Vw := ⟨16, 5, [], 5, [5], aP⟩
theorem av1 : vsi aV 1 = 2 := by
  unfold vsi
  rw [if_neg (by simp [aV])]
  show ((gst 16 aP 1 : Nat) : Int) = 2
  unfold gst
  rw [if_pos (cid_ok (id16 (by omega) (by omega)) aok1)]
  rfl
theorem axb : xbef 16 1 5 = true := by
  unfold xbef
  rw [ring_gap (id16 (by omega) (by omega)) (id16 (by omega) (by omega)), if_pos (by omega)]
  rfl
theorem as1 : vsees aV 1 = true := by
  unfold vsees vcom vdone vown
  rw [av1]
  show ((aV.own != 0 && (1 : Int) == aV.own) || (decide ((2 : Int) = 2) && (xbef 16 1 5 && !decide ((1 : Int) ∈ ([] : List Int))))) = true
  rw [axb]
  decide
def aTp : Tp := ⟨1, 0, false, ⟨#[97]⟩, ⟨#[120]⟩⟩
theorem a_vis : vvis aV aTp = true := by
  unfold vvis vbeg vend aTp
  simp only [as1]
  rfl
theorem a_new : vnewer aV aTp = false := by
  unfold vnewer vnews vcom aTp
  simp only [as1, av1]
  rfl
end Go.Proofs.YtajjakljheafjaaGreat
