/- Parts. -/
import Derived.Test.YtpnbhddmdfcjdaaGreatK41
set_option maxRecDepth 100000
namespace Go.Proofs.YtpnbhddmdfcjdaaGreat
open Go.RowKit
theorem Only.sixteen (w : World) (b : Nat) (v0 v1 v2 v3 v4 v5 v6 v7 v8 v9 v10 v11 v12 v13 v14 v15 : Value) : Only (fun k => k = b) w ((((((((((((((((w.setCell ⟨b, 0, none⟩ (v0)).setCell ⟨b, 1, none⟩ (v1)).setCell ⟨b, 2, none⟩ (v2)).setCell ⟨b, 3, none⟩ (v3)).setCell ⟨b, 4, none⟩ (v4)).setCell ⟨b, 5, none⟩ (v5)).setCell ⟨b, 6, none⟩ (v6)).setCell ⟨b, 7, none⟩ (v7)).setCell ⟨b, 8, none⟩ (v8)).setCell ⟨b, 9, none⟩ (v9)).setCell ⟨b, 10, none⟩ (v10)).setCell ⟨b, 11, none⟩ (v11)).setCell ⟨b, 12, none⟩ (v12)).setCell ⟨b, 13, none⟩ (v13)).setCell ⟨b, 14, none⟩ (v14)).setCell ⟨b, 15, none⟩ (v15)) := by
  have st : ∀ (W : World) (i : Nat) (v : Value), Only (fun k => k = b) W (W.setCell ⟨b, i, none⟩ v) := fun W i v => Only.setCell W ⟨b, i, none⟩ v rfl
  exact (((((((((((((((st w 0 v0).trans (st _ 1 v1) (fun _ _ h => h)).trans (st _ 2 v2) (fun _ _ h => h)).trans (st _ 3 v3) (fun _ _ h => h)).trans (st _ 4 v4) (fun _ _ h => h)).trans (st _ 5 v5) (fun _ _ h => h)).trans (st _ 6 v6) (fun _ _ h => h)).trans (st _ 7 v7) (fun _ _ h => h)).trans (st _ 8 v8) (fun _ _ h => h)).trans (st _ 9 v9) (fun _ _ h => h)).trans (st _ 10 v10) (fun _ _ h => h)).trans (st _ 11 v11) (fun _ _ h => h)).trans (st _ 12 v12) (fun _ _ h => h)).trans (st _ 13 v13) (fun _ _ h => h)).trans (st _ 14 v14) (fun _ _ h => h)).trans (st _ 15 v15) (fun _ _ h => h)
set_option maxRecDepth 100000 in
set_option maxHeartbeats 3200000 in
theorem vfreeze_yes (w : World) (pg : Int) (base : Nat) (a0 a1 a2 : Option Addr) (c0 c1 n2 c2 : Nat) (K : Wk) (h0 : IRw w base (.slice a0 K.fr.length c0) K.fr) (h1 : IRw w base (.slice a1 K.of.length c1) K.of) (l0 : K.fr.length ≤ 4398046511104) (l1 : K.of.length ≤ 4398046511104) (hne : ¬ (K.fr = [] ∧ K.of = [])) :
    Calls Tryz.prog 10 #[.int .i64 pg, .agg #[.slice a0 K.fr.length c0, .slice a1 K.of.length c1, .slice a2 n2 c2]] w fun e w' => ∃ L, e = .returned (.tuple #[.agg ((frR pg K).cells L), .bool true]) ∧ RcAt w' (frR pg K) L ∧ Only (fun _ => False) w w' := by
  have HN := hide (frz_new w (.slice a0 K.fr.length c0) (.slice a1 K.of.length c1) (.slice a2 n2 c2))
  have HC0 : Hid (∀ W, Only (fun _ => False) w W → Calls Tryz.prog 36 #[.slice a0 K.fr.length c0] W fun e w' => ∃ B x2 y2, e = .returned (.slice x2 K.fr.length y2) ∧ Zs w' B x2 K.fr ∧ Fit x2 K.fr.length y2 ∧ (0 < K.fr.length → W.heap.size ≤ B) ∧ Only (fun _ => False) W w') := fun W ho => iclone_any W base c0 a0 K.fr (h0.more ho) l0
  have HC1 : Hid (∀ W, Only (fun _ => False) w W → Calls Tryz.prog 36 #[.slice a1 K.of.length c1] W fun e w' => ∃ B x2 y2, e = .returned (.slice x2 K.of.length y2) ∧ Zs w' B x2 K.of ∧ Fit x2 K.of.length y2 ∧ (0 < K.of.length → W.heap.size ≤ B) ∧ Only (fun _ => False) W w') := fun W ho => iclone_any W base c1 a1 K.of (h1.more ho) l1
  have hz : ¬ (K.fr.length = 0 ∧ K.of.length = 0) := fun q => hne ⟨List.eq_nil_of_length_eq_zero q.1, List.eq_nil_of_length_eq_zero q.2⟩
  obtain ⟨m0, hm0⟩ : ∃ k, K.fr.length = k := ⟨_, rfl⟩
  obtain ⟨m1, hm1⟩ : ∃ k, K.of.length = k := ⟨_, rfl⟩
  have HM0 := hide hm0
  have HM1 := hide hm1
  have HD00 : Hid (∀ (W : World) (B : Nat), (0 < K.fr.length → W.heap.size ≤ B) → 0 < (frR pg K).slots.length → W.heap.size ≤ B) := fun W B q r => q r
  rw [hm0, hm1] at HN hz ⊢
  rw [hm0] at HC0
  rw [hm1] at HC1
  clear h0 h1 l0 l1 hne hm0 hm1 HD00
  go_enter Tryz.func10, Tryz.ntmps10
  go_upto_region 1 with fail
  rw [frz_cells]
  obtain ⟨W0, hW0⟩ : ∃ x, (w.alloc (.cells #[.slice a0 m0 c0, .slice a1 m1 c1, .slice a2 n2 c2] 39)).alloc (.cells (Rc.none.cells nlL) 47) = x := ⟨_, rfl⟩
  rw [hW0] at HN ⊢
  clear hW0
  obtain ⟨b4, hb4⟩ : ∃ b, w.heap.size + 1 = b := ⟨_, rfl⟩
  rw [hb4] at HN ⊢
  obtain ⟨b3, hb3⟩ : ∃ b, w.heap.size = b := ⟨_, rfl⟩
  rw [hb3] at HN ⊢
  have HBK : Hid (b3 = w.heap.size ∧ b4 = w.heap.size + 1) := ⟨hb3.symm, hb4.symm⟩
  clear hb3 hb4
  have HWB := hide HN.out.1
  have HRB := hide HN.out.2.1
  have HO0 := hide HN.out.2.2
  have HCL0 := hide (fun W (ho : Only (fun _ => False) W0 W) => HC0.out W (o2 HO0.out ho))
  have HCL1 := hide (fun W (ho : Only (fun _ => False) W0 W) => HC1.out W (o2 HO0.out ho))
  clear HC0 HC1 HN
  obtain ⟨z0, z1, z2, _, _, _, _⟩ := HWB.out
  by_cases q0 : m0 = 0
  · have b0 : ((m0 : Int) == 0) = true := by simp [q0]
    have b1 : ((m1 : Int) == 0) = false := by
      have : ¬ m1 = 0 := fun e => hz ⟨q0, e⟩
      simpa using this
    clear hz q0
    go_upto_region 3 with fail
    clear z0 z1 z2 b0 b1
    refine wp_region_noPanic ?_
    refine wp_region_held_drew (S := fun W => WB W b3 (.slice a0 m0 c0) (.slice a1 m1 c1) (.slice a2 n2 c2)) (by kernel_rfl) (HWB.out.more (Only.drew (fun _ => False) W0)) (fun hHeld => ?_)
    refine wpAnyH_take (i := 0) (oi := { dst := some 17, op := Op.move (Operand.tmp 0), type := 3, pos := "vacuum.go:36", after := #[], guard := none }) (v := .int .i64 pg) rfl (by kernel_rfl) (by kernel_rfl) (by kernel_rfl) (fun _ _ _ h => h) (Or.inl ⟨by rfl, fun w' hSw => by clear hSw; go_simp⟩) (by assumption) ?_
    simp only [Act.put, List.setIfInBounds_toArray, List.set_cons_zero, List.set_cons_succ]
    refine wpAnyH_take (i := 1) (oi := { dst := some 18, op := Op.fieldAddr 39 (Operand.tmp 3) 0, type := 0, pos := "vacuum.go:36", after := #[], guard := none }) (v := .pointer (some ⟨b3, 0, none⟩)) rfl (by kernel_rfl) (by kernel_rfl) (by kernel_rfl) (fun _ _ _ h => h) (Or.inl ⟨by rfl, fun w' hSw => by clear hSw; go_simp⟩) (by assumption) ?_
    simp only [Act.put, List.setIfInBounds_toArray, List.set_cons_zero, List.set_cons_succ]
    refine wpAnyH_take (i := 4) (oi := { dst := some 21, op := Op.fieldAddr 39 (Operand.tmp 3) 1, type := 0, pos := "vacuum.go:36", after := #[], guard := none }) (v := .pointer (some ⟨b3, 1, none⟩)) rfl (by kernel_rfl) (by kernel_rfl) (by kernel_rfl) (fun _ _ _ h => h) (Or.inl ⟨by rfl, fun w' hSw => by clear hSw; go_simp⟩) (by assumption) ?_
    simp only [Act.put, List.setIfInBounds_toArray, List.set_cons_zero, List.set_cons_succ]
    refine wpAnyH_take (i := 2) (oi := { dst := some 19, op := Op.load 25 (Operand.tmp 18), type := 25, pos := "vacuum.go:36", after := #[{ on := 1, ground := Ground.data }], guard := none }) (v := .slice a0 m0 c0) rfl (by kernel_rfl) (by kernel_rfl) (by kernel_rfl) (fun _ _ _ h => h) (yieldsIf_load_cell (by rfl) 25 _ rfl _ rfl (fun W hW => (hW).c0) (fun W hc => ld_ints hc)) (by assumption) ?_
    simp only [Act.put, List.setIfInBounds_toArray, List.set_cons_zero, List.set_cons_succ]
    refine wpAnyH_take (i := 5) (oi := { dst := some 22, op := Op.load 25 (Operand.tmp 21), type := 25, pos := "vacuum.go:36", after := #[{ on := 4, ground := Ground.data }], guard := none }) (v := .slice a1 m1 c1) rfl (by kernel_rfl) (by kernel_rfl) (by kernel_rfl) (fun _ _ _ h => h) (yieldsIf_load_cell (by rfl) 25 _ rfl _ rfl (fun W hW => (hW).c1) (fun W hc => ld_ints hc)) (by assumption) ?_
    simp only [Act.put, List.setIfInBounds_toArray, List.set_cons_zero, List.set_cons_succ]
    refine wpAnyH_ready (rs := [3]) (by kernel_rfl) (by simp) ?_
    refine AllReadyH.cons (o := { dst := some 20, op := Op.call { callee := Callee.value (Operand.func 36), args := #[Operand.tmp 19], argTypes := #[25] }, type := 25, pos := "vacuum.go:36", after := #[{ on := 2, ground := Ground.data }], guard := none }) rfl (fun K hK => ?_) (AllReadyH.nil)
    go_simp
    refine (HCL0.out _ (Only.drew (fun _ => False) W0)).mono ?_
    rintro e x1 ⟨D0, d0, e0, rfl, hz0, hf0, hb0, hxo⟩
    have HX1 := hide (o2 (Only.drew (fun _ => False) W0) hxo)
    have HZ01 := hide hz0
    have HF0 := hide hf0
    have HD0 := hide hb0
    clear hz0 hf0 hb0 hxo
    refine hK.out _ _ (HWB.out.more HX1.out) (fun hHeld => ?_)
    clear hK K
    try simp only [Act.put, List.setIfInBounds_toArray, List.set_cons_zero, List.set_cons_succ]
    refine wpAnyH_ready (rs := [6]) (by kernel_rfl) (by simp) ?_
    refine AllReadyH.cons (o := { dst := some 23, op := Op.call { callee := Callee.value (Operand.func 36), args := #[Operand.tmp 22], argTypes := #[25] }, type := 25, pos := "vacuum.go:36", after := #[{ on := 5, ground := Ground.data }, { on := 3, ground := Ground.chain }], guard := none }) rfl (fun K hK => ?_) (AllReadyH.nil)
    go_simp
    refine (HCL1.out x1 HX1.out).mono ?_
    rintro e x2 ⟨D1, d1, e1, rfl, hz1, hf1, hb1, hxo⟩
    have HX2 := hide (o2 HX1.out hxo)
    have HZ12 := hide hz1
    have HF1 := hide hf1
    have HD1 := hide hb1
    have HZ02 := hide (HZ01.out.more hxo)
    have HRB2 := hide (HRB.out.more HX2.out)
    have q0 := HRB2.out.cell 0 _ rfl
    have q1 := HRB2.out.cell 1 _ rfl
    have q2 := HRB2.out.cell 2 _ rfl
    have q3 := HRB2.out.cell 3 _ rfl
    have q4 := HRB2.out.cell 4 _ rfl
    have q5 := HRB2.out.cell 5 _ rfl
    have q6 := HRB2.out.cell 6 _ rfl
    have q7 := HRB2.out.cell 7 _ rfl
    have q8 := HRB2.out.cell 8 _ rfl
    have q9 := HRB2.out.cell 9 _ rfl
    have q10 := HRB2.out.cell 10 _ rfl
    have q11 := HRB2.out.cell 11 _ rfl
    have q12 := HRB2.out.cell 12 _ rfl
    have q13 := HRB2.out.cell 13 _ rfl
    have q14 := HRB2.out.cell 14 _ rfl
    have q15 := HRB2.out.cell 15 _ rfl
    have g0 := HRB2.out.frozen 0 (by omega)
    have g1 := HRB2.out.frozen 1 (by omega)
    have g2 := HRB2.out.frozen 2 (by omega)
    have g3 := HRB2.out.frozen 3 (by omega)
    have g4 := HRB2.out.frozen 4 (by omega)
    have g5 := HRB2.out.frozen 5 (by omega)
    have g6 := HRB2.out.frozen 6 (by omega)
    have g7 := HRB2.out.frozen 7 (by omega)
    have g8 := HRB2.out.frozen 8 (by omega)
    have g9 := HRB2.out.frozen 9 (by omega)
    have g10 := HRB2.out.frozen 10 (by omega)
    have g11 := HRB2.out.frozen 11 (by omega)
    have g12 := HRB2.out.frozen 12 (by omega)
    have g13 := HRB2.out.frozen 13 (by omega)
    have g14 := HRB2.out.frozen 14 (by omega)
    have g15 := HRB2.out.frozen 15 (by omega)
    clear hz1 hf1 hb1 hxo
    refine hK.out _ _ (HWB.out.more HX2.out) (fun hHeld => ?_)
    clear hK K
    try simp only [Act.put, List.setIfInBounds_toArray, List.set_cons_zero, List.set_cons_succ]
    refine wpAnyH_take (i := 7) (oi := { dst := some 24, op := Op.build 47 #[(3, Operand.const (Value.int IntKind.u8 10)), (5, Operand.tmp 17), (11, Operand.tmp 20), (12, Operand.tmp 23)], type := 47, pos := "vacuum.go:36", after := #[{ on := 0, ground := Ground.data }, { on := 3, ground := Ground.data }, { on := 6, ground := Ground.data }], guard := none }) (v := .agg #[.int .i64 0, .int .i64 0, .int .i64 0, .int .u8 10, .int .i64 0, .int .i64 pg, .int .i64 0, .int .i64 0, .int .i64 0, .int .i64 0, .string ⟨#[]⟩, .slice d0 m0 e0, .slice d1 m1 e1, .slice none 0 0, .slice none 0 0, .slice none 0 0]) rfl (by kernel_rfl) (by kernel_rfl) (by kernel_rfl) (fun _ _ _ h => h) (Or.inl ⟨by rfl, fun w' hSw => by clear hSw; go_simp⟩) (by assumption) ?_
    simp only [Act.put, List.setIfInBounds_toArray, List.set_cons_zero, List.set_cons_succ]
    refine wpAnyH_ready (rs := [8]) (by kernel_rfl) (by simp) ?_
    refine AllReadyH.cons (o := { dst := none, op := Op.store 47 (Operand.tmp 4) (Operand.tmp 24), type := 0, pos := "vacuum.go:36", after := #[{ on := 7, ground := Ground.data }, { on := 6, ground := Ground.chain }, { on := 0, ground := Ground.phase }, { on := 1, ground := Ground.phase }, { on := 2, ground := Ground.phase }, { on := 3, ground := Ground.phase }, { on := 4, ground := Ground.phase }, { on := 5, ground := Ground.phase }, { on := 6, ground := Ground.phase }, { on := 7, ground := Ground.phase }], guard := none }) rfl (fun K hK => ?_) (AllReadyH.nil)
    go_simp
    refine hK.out _ _ ((HWB.out.more HX2.out).kept (Only.sixteen x2 b4 (.int .i64 0) (.int .i64 0) (.int .i64 0) (.int .u8 10) (.int .i64 0) (.int .i64 pg) (.int .i64 0) (.int .i64 0) (.int .i64 0) (.int .i64 0) (.string ⟨#[]⟩) (.slice d0 m0 e0) (.slice d1 m1 e1) (.slice none 0 0) (.slice none 0 0) (.slice none 0 0)) (fun e => by have e2 : b3 = b4 := e; have := HBK.out; omega)) (fun hHeld => ?_)
    clear hK K
    try simp only [Act.put, List.setIfInBounds_toArray, List.set_cons_zero, List.set_cons_succ]
    refine wpAnyH_take (i := 9) (oi := { dst := some 5, op := Op.assign (Operand.const (Value.bool true)), type := 4, pos := "vacuum.go:36", after := #[{ on := 8, ground := Ground.chain }, { on := 0, ground := Ground.phase }, { on := 1, ground := Ground.phase }, { on := 2, ground := Ground.phase }, { on := 3, ground := Ground.phase }, { on := 4, ground := Ground.phase }, { on := 5, ground := Ground.phase }, { on := 6, ground := Ground.phase }, { on := 7, ground := Ground.phase }, { on := 8, ground := Ground.phase }], guard := none }) (v := .bool true) rfl (by kernel_rfl) (by kernel_rfl) (by kernel_rfl) (fun _ _ _ h => h) (Or.inl ⟨by rfl, fun w' hSw => by clear hSw; go_simp⟩) (by assumption) ?_
    simp only [Act.put, List.setIfInBounds_toArray, List.set_cons_zero, List.set_cons_succ]
    refine wpAnyH_done (by kernel_rfl) ?_ _
    refine NoPanic.normal ?_
    obtain ⟨x3, hx3⟩ : ∃ x, ((((((((((((((((x2.setCell ⟨b4, 0, none⟩ (.int .i64 0)).setCell ⟨b4, 1, none⟩ (.int .i64 0)).setCell ⟨b4, 2, none⟩ (.int .i64 0)).setCell ⟨b4, 3, none⟩ (.int .u8 10)).setCell ⟨b4, 4, none⟩ (.int .i64 0)).setCell ⟨b4, 5, none⟩ (.int .i64 pg)).setCell ⟨b4, 6, none⟩ (.int .i64 0)).setCell ⟨b4, 7, none⟩ (.int .i64 0)).setCell ⟨b4, 8, none⟩ (.int .i64 0)).setCell ⟨b4, 9, none⟩ (.int .i64 0)).setCell ⟨b4, 10, none⟩ (.string ⟨#[]⟩)).setCell ⟨b4, 11, none⟩ (.slice d0 m0 e0)).setCell ⟨b4, 12, none⟩ (.slice d1 m1 e1)).setCell ⟨b4, 13, none⟩ (.slice none 0 0)).setCell ⟨b4, 14, none⟩ (.slice none 0 0)).setCell ⟨b4, 15, none⟩ (.slice none 0 0)) = x := ⟨_, rfl⟩
    have HR3 : Hid (Rb x3 b4 (frR pg K) ⟨d0, d1, Option.none, Option.none, Option.none, e0, e1, 0, 0, 0, D0, D1, 0, 0, 0⟩) := by
      rw [← hx3]
      have h := HRB2.out.set (frR pg K) ⟨d0, d1, Option.none, Option.none, Option.none, e0, e1, 0, 0, 0, D0, D1, 0, 0, 0⟩
      unfold frR Rc.cl Rc.cells at h
      simp only [HM0.out, HM1.out] at h
      unfold frR
      exact h
    have HO3 : Hid (Only (fun k => k = b4) x2 x3) := by rw [← hx3]; exact Only.sixteen x2 b4 (.int .i64 0) (.int .i64 0) (.int .i64 0) (.int .u8 10) (.int .i64 0) (.int .i64 pg) (.int .i64 0) (.int .i64 0) (.int .i64 0) (.int .i64 0) (.string ⟨#[]⟩) (.slice d0 m0 e0) (.slice d1 m1 e1) (.slice none 0 0) (.slice none 0 0) (.slice none 0 0)
    rw [hx3]
    clear hx3 q0 g0 q1 g1 q2 g2 q3 g3 q4 g4 q5 g5 q6 g6 q7 g7 q8 g8 q9 g9 q10 g10 q11 g11 q12 g12 q13 g13 q14 g14 q15 g15
    go_wp2_with fail
    refine bodyPost_ret (results_rcI rfl rfl HR3.out) rfl ?_
    have hbk := HBK.out
    have hx1s := HX1.out.size
    have hrl := HRB.out.lt
    have hdr : W0.drew.heap.size = W0.heap.size := rfl
    refine ⟨⟨d0, d1, Option.none, Option.none, Option.none, e0, e1, 0, 0, 0, D0, D1, 0, 0, 0⟩, rfl, rcAt_frz (K := K) (HZ02.out.kept HO3.out (fun q e => by have := HD0.out (by rw [← HM0.out]; exact q); omega)) (by rw [HM0.out]; exact HF0.out) (HZ12.out.kept HO3.out (fun q e => by have := HD1.out (by rw [← HM1.out]; exact q); omega)) (by rw [HM1.out]; exact HF1.out), (o2 HO0.out HX2.out).trans HO3.out (fun i hi e => by omega)⟩
  · have b0 : ((m0 : Int) == 0) = false := by simpa using q0
    clear hz q0
    go_upto_region 3 with fail
    clear z0 z1 z2 b0
    refine wp_region_noPanic ?_
    refine wp_region_held_drew (S := fun W => WB W b3 (.slice a0 m0 c0) (.slice a1 m1 c1) (.slice a2 n2 c2)) (by kernel_rfl) (HWB.out.more (Only.drew (fun _ => False) W0)) (fun hHeld => ?_)
    refine wpAnyH_take (i := 0) (oi := { dst := some 17, op := Op.move (Operand.tmp 0), type := 3, pos := "vacuum.go:36", after := #[], guard := none }) (v := .int .i64 pg) rfl (by kernel_rfl) (by kernel_rfl) (by kernel_rfl) (fun _ _ _ h => h) (Or.inl ⟨by rfl, fun w' hSw => by clear hSw; go_simp⟩) (by assumption) ?_
    simp only [Act.put, List.setIfInBounds_toArray, List.set_cons_zero, List.set_cons_succ]
    refine wpAnyH_take (i := 1) (oi := { dst := some 18, op := Op.fieldAddr 39 (Operand.tmp 3) 0, type := 0, pos := "vacuum.go:36", after := #[], guard := none }) (v := .pointer (some ⟨b3, 0, none⟩)) rfl (by kernel_rfl) (by kernel_rfl) (by kernel_rfl) (fun _ _ _ h => h) (Or.inl ⟨by rfl, fun w' hSw => by clear hSw; go_simp⟩) (by assumption) ?_
    simp only [Act.put, List.setIfInBounds_toArray, List.set_cons_zero, List.set_cons_succ]
    refine wpAnyH_take (i := 4) (oi := { dst := some 21, op := Op.fieldAddr 39 (Operand.tmp 3) 1, type := 0, pos := "vacuum.go:36", after := #[], guard := none }) (v := .pointer (some ⟨b3, 1, none⟩)) rfl (by kernel_rfl) (by kernel_rfl) (by kernel_rfl) (fun _ _ _ h => h) (Or.inl ⟨by rfl, fun w' hSw => by clear hSw; go_simp⟩) (by assumption) ?_
    simp only [Act.put, List.setIfInBounds_toArray, List.set_cons_zero, List.set_cons_succ]
    refine wpAnyH_take (i := 2) (oi := { dst := some 19, op := Op.load 25 (Operand.tmp 18), type := 25, pos := "vacuum.go:36", after := #[{ on := 1, ground := Ground.data }], guard := none }) (v := .slice a0 m0 c0) rfl (by kernel_rfl) (by kernel_rfl) (by kernel_rfl) (fun _ _ _ h => h) (yieldsIf_load_cell (by rfl) 25 _ rfl _ rfl (fun W hW => (hW).c0) (fun W hc => ld_ints hc)) (by assumption) ?_
    simp only [Act.put, List.setIfInBounds_toArray, List.set_cons_zero, List.set_cons_succ]
    refine wpAnyH_take (i := 5) (oi := { dst := some 22, op := Op.load 25 (Operand.tmp 21), type := 25, pos := "vacuum.go:36", after := #[{ on := 4, ground := Ground.data }], guard := none }) (v := .slice a1 m1 c1) rfl (by kernel_rfl) (by kernel_rfl) (by kernel_rfl) (fun _ _ _ h => h) (yieldsIf_load_cell (by rfl) 25 _ rfl _ rfl (fun W hW => (hW).c1) (fun W hc => ld_ints hc)) (by assumption) ?_
    simp only [Act.put, List.setIfInBounds_toArray, List.set_cons_zero, List.set_cons_succ]
    refine wpAnyH_ready (rs := [3]) (by kernel_rfl) (by simp) ?_
    refine AllReadyH.cons (o := { dst := some 20, op := Op.call { callee := Callee.value (Operand.func 36), args := #[Operand.tmp 19], argTypes := #[25] }, type := 25, pos := "vacuum.go:36", after := #[{ on := 2, ground := Ground.data }], guard := none }) rfl (fun K hK => ?_) (AllReadyH.nil)
    go_simp
    refine (HCL0.out _ (Only.drew (fun _ => False) W0)).mono ?_
    rintro e x1 ⟨D0, d0, e0, rfl, hz0, hf0, hb0, hxo⟩
    have HX1 := hide (o2 (Only.drew (fun _ => False) W0) hxo)
    have HZ01 := hide hz0
    have HF0 := hide hf0
    have HD0 := hide hb0
    clear hz0 hf0 hb0 hxo
    refine hK.out _ _ (HWB.out.more HX1.out) (fun hHeld => ?_)
    clear hK K
    try simp only [Act.put, List.setIfInBounds_toArray, List.set_cons_zero, List.set_cons_succ]
    refine wpAnyH_ready (rs := [6]) (by kernel_rfl) (by simp) ?_
    refine AllReadyH.cons (o := { dst := some 23, op := Op.call { callee := Callee.value (Operand.func 36), args := #[Operand.tmp 22], argTypes := #[25] }, type := 25, pos := "vacuum.go:36", after := #[{ on := 5, ground := Ground.data }, { on := 3, ground := Ground.chain }], guard := none }) rfl (fun K hK => ?_) (AllReadyH.nil)
    go_simp
    refine (HCL1.out x1 HX1.out).mono ?_
    rintro e x2 ⟨D1, d1, e1, rfl, hz1, hf1, hb1, hxo⟩
    have HX2 := hide (o2 HX1.out hxo)
    have HZ12 := hide hz1
    have HF1 := hide hf1
    have HD1 := hide hb1
    have HZ02 := hide (HZ01.out.more hxo)
    have HRB2 := hide (HRB.out.more HX2.out)
    have q0 := HRB2.out.cell 0 _ rfl
    have q1 := HRB2.out.cell 1 _ rfl
    have q2 := HRB2.out.cell 2 _ rfl
    have q3 := HRB2.out.cell 3 _ rfl
    have q4 := HRB2.out.cell 4 _ rfl
    have q5 := HRB2.out.cell 5 _ rfl
    have q6 := HRB2.out.cell 6 _ rfl
    have q7 := HRB2.out.cell 7 _ rfl
    have q8 := HRB2.out.cell 8 _ rfl
    have q9 := HRB2.out.cell 9 _ rfl
    have q10 := HRB2.out.cell 10 _ rfl
    have q11 := HRB2.out.cell 11 _ rfl
    have q12 := HRB2.out.cell 12 _ rfl
    have q13 := HRB2.out.cell 13 _ rfl
    have q14 := HRB2.out.cell 14 _ rfl
    have q15 := HRB2.out.cell 15 _ rfl
    have g0 := HRB2.out.frozen 0 (by omega)
    have g1 := HRB2.out.frozen 1 (by omega)
    have g2 := HRB2.out.frozen 2 (by omega)
    have g3 := HRB2.out.frozen 3 (by omega)
    have g4 := HRB2.out.frozen 4 (by omega)
    have g5 := HRB2.out.frozen 5 (by omega)
    have g6 := HRB2.out.frozen 6 (by omega)
    have g7 := HRB2.out.frozen 7 (by omega)
    have g8 := HRB2.out.frozen 8 (by omega)
    have g9 := HRB2.out.frozen 9 (by omega)
    have g10 := HRB2.out.frozen 10 (by omega)
    have g11 := HRB2.out.frozen 11 (by omega)
    have g12 := HRB2.out.frozen 12 (by omega)
    have g13 := HRB2.out.frozen 13 (by omega)
    have g14 := HRB2.out.frozen 14 (by omega)
    have g15 := HRB2.out.frozen 15 (by omega)
    clear hz1 hf1 hb1 hxo
    refine hK.out _ _ (HWB.out.more HX2.out) (fun hHeld => ?_)
    clear hK K
    try simp only [Act.put, List.setIfInBounds_toArray, List.set_cons_zero, List.set_cons_succ]
    refine wpAnyH_take (i := 7) (oi := { dst := some 24, op := Op.build 47 #[(3, Operand.const (Value.int IntKind.u8 10)), (5, Operand.tmp 17), (11, Operand.tmp 20), (12, Operand.tmp 23)], type := 47, pos := "vacuum.go:36", after := #[{ on := 0, ground := Ground.data }, { on := 3, ground := Ground.data }, { on := 6, ground := Ground.data }], guard := none }) (v := .agg #[.int .i64 0, .int .i64 0, .int .i64 0, .int .u8 10, .int .i64 0, .int .i64 pg, .int .i64 0, .int .i64 0, .int .i64 0, .int .i64 0, .string ⟨#[]⟩, .slice d0 m0 e0, .slice d1 m1 e1, .slice none 0 0, .slice none 0 0, .slice none 0 0]) rfl (by kernel_rfl) (by kernel_rfl) (by kernel_rfl) (fun _ _ _ h => h) (Or.inl ⟨by rfl, fun w' hSw => by clear hSw; go_simp⟩) (by assumption) ?_
    simp only [Act.put, List.setIfInBounds_toArray, List.set_cons_zero, List.set_cons_succ]
    refine wpAnyH_ready (rs := [8]) (by kernel_rfl) (by simp) ?_
    refine AllReadyH.cons (o := { dst := none, op := Op.store 47 (Operand.tmp 4) (Operand.tmp 24), type := 0, pos := "vacuum.go:36", after := #[{ on := 7, ground := Ground.data }, { on := 6, ground := Ground.chain }, { on := 0, ground := Ground.phase }, { on := 1, ground := Ground.phase }, { on := 2, ground := Ground.phase }, { on := 3, ground := Ground.phase }, { on := 4, ground := Ground.phase }, { on := 5, ground := Ground.phase }, { on := 6, ground := Ground.phase }, { on := 7, ground := Ground.phase }], guard := none }) rfl (fun K hK => ?_) (AllReadyH.nil)
    go_simp
    refine hK.out _ _ ((HWB.out.more HX2.out).kept (Only.sixteen x2 b4 (.int .i64 0) (.int .i64 0) (.int .i64 0) (.int .u8 10) (.int .i64 0) (.int .i64 pg) (.int .i64 0) (.int .i64 0) (.int .i64 0) (.int .i64 0) (.string ⟨#[]⟩) (.slice d0 m0 e0) (.slice d1 m1 e1) (.slice none 0 0) (.slice none 0 0) (.slice none 0 0)) (fun e => by have e2 : b3 = b4 := e; have := HBK.out; omega)) (fun hHeld => ?_)
    clear hK K
    try simp only [Act.put, List.setIfInBounds_toArray, List.set_cons_zero, List.set_cons_succ]
    refine wpAnyH_take (i := 9) (oi := { dst := some 5, op := Op.assign (Operand.const (Value.bool true)), type := 4, pos := "vacuum.go:36", after := #[{ on := 8, ground := Ground.chain }, { on := 0, ground := Ground.phase }, { on := 1, ground := Ground.phase }, { on := 2, ground := Ground.phase }, { on := 3, ground := Ground.phase }, { on := 4, ground := Ground.phase }, { on := 5, ground := Ground.phase }, { on := 6, ground := Ground.phase }, { on := 7, ground := Ground.phase }, { on := 8, ground := Ground.phase }], guard := none }) (v := .bool true) rfl (by kernel_rfl) (by kernel_rfl) (by kernel_rfl) (fun _ _ _ h => h) (Or.inl ⟨by rfl, fun w' hSw => by clear hSw; go_simp⟩) (by assumption) ?_
    simp only [Act.put, List.setIfInBounds_toArray, List.set_cons_zero, List.set_cons_succ]
    refine wpAnyH_done (by kernel_rfl) ?_ _
    refine NoPanic.normal ?_
    obtain ⟨x3, hx3⟩ : ∃ x, ((((((((((((((((x2.setCell ⟨b4, 0, none⟩ (.int .i64 0)).setCell ⟨b4, 1, none⟩ (.int .i64 0)).setCell ⟨b4, 2, none⟩ (.int .i64 0)).setCell ⟨b4, 3, none⟩ (.int .u8 10)).setCell ⟨b4, 4, none⟩ (.int .i64 0)).setCell ⟨b4, 5, none⟩ (.int .i64 pg)).setCell ⟨b4, 6, none⟩ (.int .i64 0)).setCell ⟨b4, 7, none⟩ (.int .i64 0)).setCell ⟨b4, 8, none⟩ (.int .i64 0)).setCell ⟨b4, 9, none⟩ (.int .i64 0)).setCell ⟨b4, 10, none⟩ (.string ⟨#[]⟩)).setCell ⟨b4, 11, none⟩ (.slice d0 m0 e0)).setCell ⟨b4, 12, none⟩ (.slice d1 m1 e1)).setCell ⟨b4, 13, none⟩ (.slice none 0 0)).setCell ⟨b4, 14, none⟩ (.slice none 0 0)).setCell ⟨b4, 15, none⟩ (.slice none 0 0)) = x := ⟨_, rfl⟩
    have HR3 : Hid (Rb x3 b4 (frR pg K) ⟨d0, d1, Option.none, Option.none, Option.none, e0, e1, 0, 0, 0, D0, D1, 0, 0, 0⟩) := by
      rw [← hx3]
      have h := HRB2.out.set (frR pg K) ⟨d0, d1, Option.none, Option.none, Option.none, e0, e1, 0, 0, 0, D0, D1, 0, 0, 0⟩
      unfold frR Rc.cl Rc.cells at h
      simp only [HM0.out, HM1.out] at h
      unfold frR
      exact h
    have HO3 : Hid (Only (fun k => k = b4) x2 x3) := by rw [← hx3]; exact Only.sixteen x2 b4 (.int .i64 0) (.int .i64 0) (.int .i64 0) (.int .u8 10) (.int .i64 0) (.int .i64 pg) (.int .i64 0) (.int .i64 0) (.int .i64 0) (.int .i64 0) (.string ⟨#[]⟩) (.slice d0 m0 e0) (.slice d1 m1 e1) (.slice none 0 0) (.slice none 0 0) (.slice none 0 0)
    rw [hx3]
    clear hx3 q0 g0 q1 g1 q2 g2 q3 g3 q4 g4 q5 g5 q6 g6 q7 g7 q8 g8 q9 g9 q10 g10 q11 g11 q12 g12 q13 g13 q14 g14 q15 g15
    go_wp2_with fail
    refine bodyPost_ret (results_rcI rfl rfl HR3.out) rfl ?_
    have hbk := HBK.out
    have hx1s := HX1.out.size
    have hrl := HRB.out.lt
    have hdr : W0.drew.heap.size = W0.heap.size := rfl
    refine ⟨⟨d0, d1, Option.none, Option.none, Option.none, e0, e1, 0, 0, 0, D0, D1, 0, 0, 0⟩, rfl, rcAt_frz (K := K) (HZ02.out.kept HO3.out (fun q e => by have := HD0.out (by rw [← HM0.out]; exact q); omega)) (by rw [HM0.out]; exact HF0.out) (HZ12.out.kept HO3.out (fun q e => by have := HD1.out (by rw [← HM1.out]; exact q); omega)) (by rw [HM1.out]; exact HF1.out), (o2 HO0.out HX2.out).trans HO3.out (fun i hi e => by omega)⟩
/-- A record's cells, where its list lies. -/
theorem cln_cells (pg : Int) (G : List En) (a : Option Addr) (c B : Nat) : (clR pg (slG G)).cells ⟨a, Option.none, Option.none, Option.none, Option.none, c, 0, 0, 0, 0, B, 0, 0, 0, 0⟩ = #[.int .i64 0, .int .i64 0, .int .i64 0, .int .u8 9, .int .i64 0, .int .i64 pg, .int .i64 0, .int .i64 0, .int .i64 0, .int .i64 0, .string ⟨#[]⟩, .slice a (slG G).length c, .slice none 0 0, .slice none 0 0, .slice none 0 0, .slice none 0 0] := rfl
set_option maxRecDepth 100000 in
set_option maxHeartbeats 3200000 in
theorem vclean_no (w : World) (pg : Int) (a0 a1 a2 : Option Addr) (n0 c0 n1 c1 c2 : Nat) :
    Calls Tryz.prog 12 #[.int .i64 pg, .agg #[.slice a0 n0 c0, .slice a1 n1 c1, .slice a2 0 c2]] w fun e w' => e = .returned (.tuple #[.agg (Rc.none.cells nlL), .bool false]) ∧ Only (fun _ => False) w w' := by
  have HN := hide (frz_new w (.slice a0 n0 c0) (.slice a1 n1 c1) (.slice a2 0 c2))
  go_enter Tryz.func12, Tryz.ntmps12
  go_upto_region 1 with fail
  rw [frz_cells]
  obtain ⟨W0, hW0⟩ : ∃ x, (w.alloc (.cells #[.slice a0 n0 c0, .slice a1 n1 c1, .slice a2 0 c2] 39)).alloc (.cells (Rc.none.cells nlL) 47) = x := ⟨_, rfl⟩
  rw [hW0] at HN ⊢
  clear hW0
  obtain ⟨b4, hb4⟩ : ∃ b, w.heap.size + 1 = b := ⟨_, rfl⟩
  have HBK := hide hb4
  rw [hb4] at HN ⊢
  clear hb4
  obtain ⟨x0, x1, x2, _, _, _, _⟩ := HN.out.1
  have HRB := hide HN.out.2.1
  go_wp2_with (first
    | (refine wpList_build_r0 rfl rfl ?_; go_frame)
    | (refine wpList_put_rc rfl (.tmp 4) (.tmp 10) rfl b4 rfl Rc.none Rc.none nlL nlL rfl HRB.out (fun W HS => ?_); go_frame))
  refine bodyPost_ret (results_rcI rfl rfl HS.out.1) rfl ?_
  have hbk := HBK.out
  exact ⟨rfl, HN.out.2.2.trans HS.out.2 (fun i hi e => by omega)⟩
set_option maxRecDepth 100000 in
set_option maxHeartbeats 3200000 in
theorem vclean_yes (w : World) (pg : Int) (base : Nat) (a0 a1 a2 : Option Addr) (n0 c0 n1 c1 c2 : Nat) (G : List En) (h : ERows w base (.slice a2 G.length c2) G) (hl : G.length ≤ 4398046511104) (hr : (slG G).Pairwise (· < ·)) (hne : ¬ G = []) :
    Calls Tryz.prog 12 #[.int .i64 pg, .agg #[.slice a0 n0 c0, .slice a1 n1 c1, .slice a2 G.length c2]] w fun e w' => ∃ L, e = .returned (.tuple #[.agg ((clR pg (slG G)).cells L), .bool true]) ∧ RcAt w' (clR pg (slG G)) L ∧ w.heap.size ≤ L.b1 ∧ Only (fun _ => False) w w' := by
  have HN := hide (frz_new w (.slice a0 n0 c0) (.slice a1 n1 c1) (.slice a2 G.length c2))
  have HSO : Hid (∀ W, Only (fun _ => False) w W → Calls Tryz.prog 37 #[.slice a2 G.length c2] W fun e w' => ∃ B x2 y2, e = .returned (.slice x2 G.length y2) ∧ Zs w' B x2 (slG G) ∧ Fit x2 G.length y2 ∧ W.heap.size ≤ B ∧ Only (fun _ => False) W w') := fun W ho => slotsOf_any W base c2 a2 G (h.more ho) hl hr
  have HSL : Hid ((slG G).length = G.length) := by unfold Hid slG; rw [List.length_map]
  have hz : ¬ G.length = 0 := fun q => hne (List.eq_nil_of_length_eq_zero q)
  obtain ⟨m2, hm2⟩ : ∃ k, G.length = k := ⟨_, rfl⟩
  rw [hm2] at HN HSO HSL hz ⊢
  clear h hl hr hne hm2
  have hb0 : ((m2 : Int) == 0) = false := by simpa using hz
  clear hz
  go_enter Tryz.func12, Tryz.ntmps12
  go_upto_region 1 with fail
  rw [frz_cells]
  obtain ⟨W0, hW0⟩ : ∃ x, (w.alloc (.cells #[.slice a0 n0 c0, .slice a1 n1 c1, .slice a2 m2 c2] 39)).alloc (.cells (Rc.none.cells nlL) 47) = x := ⟨_, rfl⟩
  rw [hW0] at HN ⊢
  clear hW0
  obtain ⟨b4, hb4⟩ : ∃ b, w.heap.size + 1 = b := ⟨_, rfl⟩
  have HBK := hide hb4
  rw [hb4] at HN ⊢
  clear hb4
  obtain ⟨x0, x1, x2, _, _, _, _⟩ := HN.out.1
  go_wp2_with fail
  refine (HSO.out _ HN.out.2.2).mono ?_
  rintro e w1 ⟨B, a, c, rfl, hz1, hf1, hbb, ho1⟩
  have HBB := hide hbb
  have HRB := hide (HN.out.2.1.more ho1)
  have HOX := hide (o2 HN.out.2.2 ho1)
  have HZ := hide hz1
  have HF := hide hf1
  have HCE : Hid ((#[.int .i64 0, .int .i64 0, .int .i64 0, .int .u8 9, .int .i64 0, .int .i64 pg, .int .i64 0, .int .i64 0, .int .i64 0, .int .i64 0, .string ⟨#[]⟩, .slice a m2 c, .slice none 0 0, .slice none 0 0, .slice none 0 0, .slice none 0 0] : Array Value) = (clR pg (slG G)).cells ⟨a, Option.none, Option.none, Option.none, Option.none, c, 0, 0, 0, 0, B, 0, 0, 0, 0⟩) := by unfold Hid; rw [cln_cells, HSL.out]
  have HNB : Hid (w.heap.size < W0.heap.size) := HN.out.1.lt
  clear hz1 hf1 ho1 hbb x0 x1 x2
  go_wp2_with (first
    | (refine wpList_build_r9 rfl (.tmp 11) (.tmp 14) rfl pg a m2 c rfl rfl ?_; go_frame)
    | (refine wpList_put_rc rfl (.tmp 4) (.tmp 15) rfl b4 rfl Rc.none (clR pg (slG G)) nlL ⟨a, Option.none, Option.none, Option.none, Option.none, c, 0, 0, 0, 0, B, 0, 0, 0, 0⟩ (congrArg Value.agg HCE.out) HRB.out (fun W HS => ?_); go_frame))
  refine bodyPost_ret (results_rcI rfl rfl HS.out.1) rfl ?_
  have hbk := HBK.out
  have hlt := HN.out.2.1.lt
  refine ⟨_, rfl, rcAt_cln (HZ.out.kept HS.out.2 (fun q e => by have := HBB.out; omega)) (by rw [HSL.out]; exact HF.out), (by show w.heap.size ≤ B; have := HBB.out; have := HN.out.2.2.size; omega), HOX.out.trans HS.out.2 (fun i hi e => by omega)⟩
end Go.Proofs.YtpnbhddmdfcjdaaGreat
