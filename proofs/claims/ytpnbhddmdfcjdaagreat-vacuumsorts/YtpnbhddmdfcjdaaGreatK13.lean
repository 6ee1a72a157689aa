/- Parts. -/
import Derived.Test.YtpnbhddmdfcjdaaGreatK12
import Derived.Deep.DeepCutAuto
set_option maxRecDepth 100000
namespace Go.Proofs.YtpnbhddmdfcjdaaGreat
open Go.RowKit
theorem strs2 (w : World) (k v : ByteArray) (hk : k.size ≤ 24) (hv : v.size ≤ 64) : Strs (w.alloc (.cells #[.string k, .string v] 9)) w.heap.size (some ⟨w.heap.size, 0, none⟩) [k, v] := by
  refine ⟨fun _ => ⟨0, rfl, fun j hj => ?_⟩, fun _ => by simp, by simp, fun s hs => ?_⟩
  · match j, hj with
    | 0, _ => simp
    | 1, _ => simp
  · simp only [List.mem_cons, List.not_mem_nil, or_false] at hs
    rcases hs with rfl | rfl <;> omega
theorem strs1 (w : World) (k : ByteArray) (hk : k.size ≤ 24) : Strs (w.alloc (.cells #[.string k] 9)) w.heap.size (some ⟨w.heap.size, 0, none⟩) [k] := by
  refine ⟨fun _ => ⟨0, rfl, fun j hj => ?_⟩, fun _ => by simp, by simp, fun s hs => ?_⟩
  · match j, hj with
    | 0, _ => simp
  · simp only [List.mem_cons, List.not_mem_nil, or_false] at hs
    subst hs
    omega
theorem str_catU (a b : List UInt8) : str a ++ str b = str (a ++ b) := cat_eqU a ⟨b.toArray⟩
theorem i64_nat {x : Int} (h : 0 ≤ x) : ((x.toNat : Nat) : Int) = x := by omega
theorem uencode_bad (t : Tu) (w : World) (h0 : -9223372036854775808 ≤ t.xmin ∧ t.xmin < 9223372036854775808) (h1 : -9223372036854775808 ≤ t.xmax ∧ t.xmax < 9223372036854775808) (h : t.ok = false) :
    Calls Tryz.prog 21 #[t.agg] w fun e w' => e = .returned (.tuple #[.string ⟨#[]⟩, .int .i64 110]) ∧ Only (fun _ => False) w w' := by
  have HC : Hid (∀ W, Calls Tryz.prog 50 #[t.agg] W fun e w' => e = .returned (.bool false) ∧ Only (fun _ => False) W w') := fun W => by
    have := isVersion_any t W h0 h1
    rwa [h] at this
  clear h h0 h1
  unfold Tu.agg
  unfold Tu.agg at HC
  go_enter Tryz.func21, Tryz.ntmps21
  go_wp2_with fail
  refine (HC.out _).mono ?_
  rintro e w1 ⟨rfl, ho⟩
  have HO := hide (o2 (onlyA w _) ho)
  clear ho
  go_wp2_with fail
  go_ret2
  exact ⟨rfl, HO.out⟩
set_option maxRecDepth 100000 in
set_option maxHeartbeats 3200000 in
theorem uencode_ok (t : Tu) (w : World) (h : t.ok = true) :
    Calls Tryz.prog 21 #[t.agg] w fun e w' => e = .returned (.tuple #[.string (str t.enc), .int .i64 0]) ∧ Only (fun _ => False) w w' := by
  have hk' := Tu.ok_iff.1 h
  have HK : Hid (t.key.size ≤ 24) := hk'.2.2.2.2.2.1
  have HV : Hid (t.value.size ≤ 64) := hk'.2.2.2.2.2.2
  obtain ⟨M, hM⟩ : ∃ M : ByteArray, (⟨#[mkB t.frozen]⟩ : ByteArray) = M := ⟨_, rfl⟩
  have sM : M.size = 1 := by rw [← hM]; rfl
  have eM : M = str [mkB t.frozen] := hM.symm
  obtain ⟨Y1, hY1⟩ : ∃ Y, str (bigF 2 t.xmin.toNat) = Y := ⟨_, rfl⟩
  have sY1 : Y1.size ≤ 2 := by rw [← hY1, str_size]; rw [bigF_len]; omega
  obtain ⟨C1, hC1⟩ : ∃ C, M ++ Y1 = C := ⟨_, rfl⟩
  have eC1 : C1 = str ([mkB t.frozen] ++ bigF 2 t.xmin.toNat) := by rw [← hC1, eM, ← hY1, str_catU]
  have sC1 : C1.size ≤ 3 := by rw [← hC1, ByteArray.size_append]; omega
  have yC1 : M.size + Y1.size ≤ 9223372036854775807 := by omega
  obtain ⟨Y2, hY2⟩ : ∃ Y, str (bigF 2 t.xmax.toNat) = Y := ⟨_, rfl⟩
  have sY2 : Y2.size ≤ 2 := by rw [← hY2, str_size]; rw [bigF_len]; omega
  obtain ⟨C2, hC2⟩ : ∃ C, C1 ++ Y2 = C := ⟨_, rfl⟩
  have eC2 : C2 = str (([mkB t.frozen] ++ bigF 2 t.xmin.toNat) ++ bigF 2 t.xmax.toNat) := by rw [← hC2, eC1, ← hY2, str_catU]
  have sC2 : C2.size ≤ 5 := by rw [← hC2, ByteArray.size_append]; omega
  have yC2 : C1.size + Y2.size ≤ 9223372036854775807 := by omega
  obtain ⟨Y3, hY3⟩ : ∃ Y, str (txsL [t.key, t.value]) = Y := ⟨_, rfl⟩
  have sY3 : Y3.size ≤ 90 := by rw [← hY3, str_size]; have := txL_len t.key (by omega); have := txL_len t.value (by omega); simp [txsL]; omega
  obtain ⟨C3, hC3⟩ : ∃ C, C2 ++ Y3 = C := ⟨_, rfl⟩
  have eC3 : C3 = str ((([mkB t.frozen] ++ bigF 2 t.xmin.toNat) ++ bigF 2 t.xmax.toNat) ++ txsL [t.key, t.value]) := by rw [← hC3, eC2, ← hY3, str_catU]
  have sC3 : C3.size ≤ 95 := by rw [← hC3, ByteArray.size_append]; omega
  have yC3 : C2.size + Y3.size ≤ 9223372036854775807 := by omega
  have HE : Hid (C3 = str t.enc) := by
    unfold Hid
    rw [eC3]
    unfold Tu.enc txsL
    simp
  have HC : Hid (∀ W, Calls Tryz.prog 50 #[.agg #[.int .i64 t.xmin, .int .i64 t.xmax, .bool t.frozen, .string t.key, .string t.value]] W fun e w' => e = .returned (.bool true) ∧ Only (fun _ => False) W w') := fun W => by
    have := isVersion_any t W (by omega) (by omega)
    rwa [h] at this
  have HM : Hid (∀ W, Calls Tryz.prog 51 #[.bool t.frozen] W fun e w' => e = .returned (.string M) ∧ w' = W) := fun W => by
    rw [← hM]
    exact umark_any t.frozen W
  have HG1 : Hid (∀ W, Calls Tryz.prog 52 #[.int .i64 t.xmin, .int .i64 2] W fun e w' => e = .returned (.string Y1) ∧ Only (fun _ => False) W w') := fun W => by
    have := big_any t.xmin.toNat 2 W (by omega) (by omega) (by omega)
    rw [i64_nat (by omega)] at this
    rw [← hY1]
    exact this
  have HG2 : Hid (∀ W, Calls Tryz.prog 52 #[.int .i64 t.xmax, .int .i64 2] W fun e w' => e = .returned (.string Y2) ∧ Only (fun _ => False) W w') := fun W => by
    have := big_any t.xmax.toNat 2 W (by omega) (by omega) (by omega)
    rw [i64_nat (by omega)] at this
    rw [← hY2]
    exact this
  have HG3 : Hid (∀ W B, Strs W B (some ⟨B, 0, none⟩) [t.key, t.value] → Calls Tryz.prog 49 #[.slice (some ⟨B, 0, none⟩) 2 2] W fun e w' => e = .returned (.string Y3) ∧ Only (fun _ => False) W w') := fun W B hs => by
    rw [← hY3]
    exact ulaid_any W B 2 (some ⟨B, 0, none⟩) [t.key, t.value] hs (by simp) (fun s hs => by
      simp only [List.mem_cons, List.not_mem_nil, or_false] at hs
      rcases hs with rfl | rfl <;> omega)
  clear hk' h hM eM hY1 hY2 hY3 eC1 eC2 eC3 sM sY1 sY2 sY3 sC1 sC2 sC3
  unfold Tu.agg
  have HB0 := hide (Tb.new w t)
  go_enter Tryz.func21, Tryz.ntmps21
  go_wp2_with fail
  refine (HC.out _).mono ?_
  rintro e W0 ⟨rfl, ho⟩
  have HB := hide (HB0.out.more ho)
  have HO := hide (o2 (onlyA w _) ho)
  clear ho HB0 HC
  go_upto_region 3 with fail
  refine wp_region_noPanic ?_
  refine wp_region_held_drew (S := fun W => Only (fun _ => False) W0 W) (by kernel_rfl) (Only.drew _ _) (fun hHeld => ?_)
  refine wpAnyH_take (i := 0) (oi := { dst := some 7, op := Op.fieldAddr 62 (Operand.tmp 1) 2, type := 0, pos := "tuple.go:35", after := #[], guard := none }) (v := .pointer (some ⟨w.heap.size, 2, none⟩)) rfl (by kernel_rfl) (by kernel_rfl) (by kernel_rfl) (fun _ _ _ h => h) (Or.inl ⟨by rfl, fun w' hSw => by clear hSw; go_simp⟩) (by assumption) ?_
  simp only [Act.put, List.setIfInBounds_toArray, List.set_cons_zero, List.set_cons_succ]
  refine wpAnyH_take (i := 3) (oi := { dst := some 10, op := Op.fieldAddr 62 (Operand.tmp 1) 0, type := 0, pos := "tuple.go:35", after := #[], guard := none }) (v := .pointer (some ⟨w.heap.size, 0, none⟩)) rfl (by kernel_rfl) (by kernel_rfl) (by kernel_rfl) (fun _ _ _ h => h) (Or.inl ⟨by rfl, fun w' hSw => by clear hSw; go_simp⟩) (by assumption) ?_
  simp only [Act.put, List.setIfInBounds_toArray, List.set_cons_zero, List.set_cons_succ]
  refine wpAnyH_take (i := 7) (oi := { dst := some 14, op := Op.fieldAddr 62 (Operand.tmp 1) 1, type := 0, pos := "tuple.go:35", after := #[], guard := none }) (v := .pointer (some ⟨w.heap.size, 1, none⟩)) rfl (by kernel_rfl) (by kernel_rfl) (by kernel_rfl) (fun _ _ _ h => h) (Or.inl ⟨by rfl, fun w' hSw => by clear hSw; go_simp⟩) (by assumption) ?_
  simp only [Act.put, List.setIfInBounds_toArray, List.set_cons_zero, List.set_cons_succ]
  refine wpAnyH_take (i := 11) (oi := { dst := some 18, op := Op.fieldAddr 62 (Operand.tmp 1) 3, type := 0, pos := "tuple.go:35", after := #[], guard := none }) (v := .pointer (some ⟨w.heap.size, 3, none⟩)) rfl (by kernel_rfl) (by kernel_rfl) (by kernel_rfl) (fun _ _ _ h => h) (Or.inl ⟨by rfl, fun w' hSw => by clear hSw; go_simp⟩) (by assumption) ?_
  simp only [Act.put, List.setIfInBounds_toArray, List.set_cons_zero, List.set_cons_succ]
  refine wpAnyH_take (i := 13) (oi := { dst := some 20, op := Op.fieldAddr 62 (Operand.tmp 1) 4, type := 0, pos := "tuple.go:35", after := #[], guard := none }) (v := .pointer (some ⟨w.heap.size, 4, none⟩)) rfl (by kernel_rfl) (by kernel_rfl) (by kernel_rfl) (fun _ _ _ h => h) (Or.inl ⟨by rfl, fun w' hSw => by clear hSw; go_simp⟩) (by assumption) ?_
  simp only [Act.put, List.setIfInBounds_toArray, List.set_cons_zero, List.set_cons_succ]
  refine wpAnyH_take (i := 1) (oi := { dst := some 8, op := Op.load 4 (Operand.tmp 7), type := 4, pos := "tuple.go:35", after := #[{ on := 0, ground := Ground.data }], guard := none }) (v := .bool t.frozen) rfl (by kernel_rfl) (by kernel_rfl) (by kernel_rfl) (fun _ _ _ h => h) (yieldsIf_load_cell (by rfl) 4 _ rfl _ rfl (fun W hW => (HB.out.more hW).c2) (fun W hc => ld_bool hc)) (by assumption) ?_
  simp only [Act.put, List.setIfInBounds_toArray, List.set_cons_zero, List.set_cons_succ]
  refine wpAnyH_take (i := 4) (oi := { dst := some 11, op := Op.load 3 (Operand.tmp 10), type := 3, pos := "tuple.go:35", after := #[{ on := 3, ground := Ground.data }], guard := none }) (v := .int .i64 t.xmin) rfl (by kernel_rfl) (by kernel_rfl) (by kernel_rfl) (fun _ _ _ h => h) (yieldsIf_load_cell (by rfl) 3 _ rfl _ rfl (fun W hW => (HB.out.more hW).c0) (fun W hc => ld_int hc)) (by assumption) ?_
  simp only [Act.put, List.setIfInBounds_toArray, List.set_cons_zero, List.set_cons_succ]
  refine wpAnyH_take (i := 8) (oi := { dst := some 15, op := Op.load 3 (Operand.tmp 14), type := 3, pos := "tuple.go:35", after := #[{ on := 7, ground := Ground.data }], guard := none }) (v := .int .i64 t.xmax) rfl (by kernel_rfl) (by kernel_rfl) (by kernel_rfl) (fun _ _ _ h => h) (yieldsIf_load_cell (by rfl) 3 _ rfl _ rfl (fun W hW => (HB.out.more hW).c1) (fun W hc => ld_int hc)) (by assumption) ?_
  simp only [Act.put, List.setIfInBounds_toArray, List.set_cons_zero, List.set_cons_succ]
  refine wpAnyH_take (i := 12) (oi := { dst := some 19, op := Op.load 9 (Operand.tmp 18), type := 9, pos := "tuple.go:35", after := #[{ on := 11, ground := Ground.data }], guard := none }) (v := .string t.key) rfl (by kernel_rfl) (by kernel_rfl) (by kernel_rfl) (fun _ _ _ h => h) (yieldsIf_load_cell (by rfl) 9 _ rfl _ rfl (fun W hW => (HB.out.more hW).c3) (fun W hc => ld_string hc)) (by assumption) ?_
  simp only [Act.put, List.setIfInBounds_toArray, List.set_cons_zero, List.set_cons_succ]
  refine wpAnyH_take (i := 14) (oi := { dst := some 21, op := Op.load 9 (Operand.tmp 20), type := 9, pos := "tuple.go:35", after := #[{ on := 13, ground := Ground.data }], guard := none }) (v := .string t.value) rfl (by kernel_rfl) (by kernel_rfl) (by kernel_rfl) (fun _ _ _ h => h) (yieldsIf_load_cell (by rfl) 9 _ rfl _ rfl (fun W hW => (HB.out.more hW).c4) (fun W hc => ld_string hc)) (by assumption) ?_
  simp only [Act.put, List.setIfInBounds_toArray, List.set_cons_zero, List.set_cons_succ]
  refine wpAnyH_ready (rs := [2, 15]) (by kernel_rfl) (by simp) ?_
  refine AllReadyH.cons (o := { dst := some 9, op := Op.call { callee := Callee.value (Operand.func 51), args := #[Operand.tmp 8], argTypes := #[4] }, type := 9, pos := "tuple.go:35", after := #[{ on := 1, ground := Ground.data }], guard := none }) rfl (fun K hK => ?_) (AllReadyH.cons (o := { dst := some 22, op := Op.buildSlice 28 2 #[(0, Operand.tmp 19), (1, Operand.tmp 21)], type := 28, pos := "tuple.go:35", after := #[{ on := 12, ground := Ground.data }, { on := 14, ground := Ground.data }], guard := none }) rfl (fun K hK => ?_) (AllReadyH.nil))
  · go_simp
    refine (HM.out _).mono ?_
    rintro e _ ⟨rfl, rfl⟩
    refine hK.out _ _ ((Only.drew _ _)) (fun hHeld => ?_)
    clear hK K
    try simp only [Act.put, List.setIfInBounds_toArray, List.set_cons_zero, List.set_cons_succ]
    refine wpAnyH_ready (rs := [5, 15]) (by kernel_rfl) (by simp) ?_
    refine AllReadyH.cons (o := { dst := some 12, op := Op.call { callee := Callee.value (Operand.func 52), args := #[Operand.tmp 11, Operand.const (Value.int IntKind.i64 2)], argTypes := #[3, 3] }, type := 9, pos := "tuple.go:35", after := #[{ on := 4, ground := Ground.data }, { on := 2, ground := Ground.chain }], guard := none }) rfl (fun K hK => ?_) (AllReadyH.cons (o := { dst := some 22, op := Op.buildSlice 28 2 #[(0, Operand.tmp 19), (1, Operand.tmp 21)], type := 28, pos := "tuple.go:35", after := #[{ on := 12, ground := Ground.data }, { on := 14, ground := Ground.data }], guard := none }) rfl (fun K hK => ?_) (AllReadyH.nil))
    · go_simp
      refine (HG1.out _).mono ?_
      rintro e x1 ⟨rfl, hx1⟩
      have HX1 := hide (o2 (Only.drew _ _) hx1)
      clear hx1
      refine hK.out _ _ (HX1.out) (fun hHeld => ?_)
      clear hK K
      try simp only [Act.put, List.setIfInBounds_toArray, List.set_cons_zero, List.set_cons_succ]
      refine wpAnyH_take (i := 6) (oi := { dst := some 13, op := Op.binOp BinOp.add 9 (Operand.tmp 9) (Operand.tmp 12) 9, type := 9, pos := "tuple.go:35", after := #[{ on := 2, ground := Ground.data }, { on := 5, ground := Ground.data }], guard := none }) (v := .string C1) rfl (by kernel_rfl) (by kernel_rfl) (by kernel_rfl) (fun _ _ _ h => h) (Or.inl ⟨by rfl, fun w' hSw => by clear hSw; go_simp⟩) (by assumption) ?_
      simp only [Act.put, List.setIfInBounds_toArray, List.set_cons_zero, List.set_cons_succ]
      refine wpAnyH_ready (rs := [9, 15]) (by kernel_rfl) (by simp) ?_
      refine AllReadyH.cons (o := { dst := some 16, op := Op.call { callee := Callee.value (Operand.func 52), args := #[Operand.tmp 15, Operand.const (Value.int IntKind.i64 2)], argTypes := #[3, 3] }, type := 9, pos := "tuple.go:35", after := #[{ on := 8, ground := Ground.data }, { on := 5, ground := Ground.chain }], guard := none }) rfl (fun K hK => ?_) (AllReadyH.cons (o := { dst := some 22, op := Op.buildSlice 28 2 #[(0, Operand.tmp 19), (1, Operand.tmp 21)], type := 28, pos := "tuple.go:35", after := #[{ on := 12, ground := Ground.data }, { on := 14, ground := Ground.data }], guard := none }) rfl (fun K hK => ?_) (AllReadyH.nil))
      · go_simp
        refine (HG2.out _).mono ?_
        rintro e x2 ⟨rfl, hx2⟩
        have HX2 := hide (o2 HX1.out hx2)
        clear hx2
        refine hK.out _ _ (HX2.out) (fun hHeld => ?_)
        clear hK K
        try simp only [Act.put, List.setIfInBounds_toArray, List.set_cons_zero, List.set_cons_succ]
        refine wpAnyH_take (i := 10) (oi := { dst := some 17, op := Op.binOp BinOp.add 9 (Operand.tmp 13) (Operand.tmp 16) 9, type := 9, pos := "tuple.go:35", after := #[{ on := 6, ground := Ground.data }, { on := 9, ground := Ground.data }], guard := none }) (v := .string C2) rfl (by kernel_rfl) (by kernel_rfl) (by kernel_rfl) (fun _ _ _ h => h) (Or.inl ⟨by rfl, fun w' hSw => by clear hSw; go_simp⟩) (by assumption) ?_
        simp only [Act.put, List.setIfInBounds_toArray, List.set_cons_zero, List.set_cons_succ]
        refine wpAnyH_ready (rs := [15]) (by kernel_rfl) (by simp) ?_
        refine AllReadyH.cons (o := { dst := some 22, op := Op.buildSlice 28 2 #[(0, Operand.tmp 19), (1, Operand.tmp 21)], type := 28, pos := "tuple.go:35", after := #[{ on := 12, ground := Ground.data }, { on := 14, ground := Ground.data }], guard := none }) rfl (fun K hK => ?_) (AllReadyH.nil)
        go_simp
        have HS := hide (strs2 x2 t.key t.value HK.out HV.out)
        refine hK.out _ _ (o2 HX2.out (onlyA _ _)) (fun hHeld => ?_)
        clear hK K
        try simp only [Act.put, List.setIfInBounds_toArray, List.set_cons_zero, List.set_cons_succ]
        refine wpAnyH_ready (rs := [16]) (by kernel_rfl) (by simp) ?_
        refine AllReadyH.cons (o := { dst := some 23, op := Op.call { callee := Callee.value (Operand.func 49), args := #[Operand.tmp 22], argTypes := #[28] }, type := 9, pos := "tuple.go:35", after := #[{ on := 15, ground := Ground.data }, { on := 9, ground := Ground.chain }], guard := none }) rfl (fun K hK => ?_) (AllReadyH.nil)
        go_simp
        refine (HG3.out _ x2.heap.size HS.out).mono ?_
        rintro e x3 ⟨rfl, hx3⟩
        have HX3 := hide (o2 (o2 HX2.out (onlyA _ _)) hx3)
        clear hx3
        refine hK.out _ _ (HX3.out) (fun hHeld => ?_)
        clear hK K
        try simp only [Act.put, List.setIfInBounds_toArray, List.set_cons_zero, List.set_cons_succ]
        refine wpAnyH_take (i := 17) (oi := { dst := some 24, op := Op.binOp BinOp.add 9 (Operand.tmp 17) (Operand.tmp 23) 9, type := 9, pos := "tuple.go:35", after := #[{ on := 10, ground := Ground.data }, { on := 16, ground := Ground.data }], guard := none }) (v := .string C3) rfl (by kernel_rfl) (by kernel_rfl) (by kernel_rfl) (fun _ _ _ h => h) (Or.inl ⟨by rfl, fun w' hSw => by clear hSw; go_simp⟩) (by assumption) ?_
        simp only [Act.put, List.setIfInBounds_toArray, List.set_cons_zero, List.set_cons_succ]
        refine wpAnyH_take (i := 18) (oi := { dst := some 2, op := Op.assign (Operand.tmp 24), type := 9, pos := "tuple.go:35", after := #[{ on := 17, ground := Ground.data }, { on := 16, ground := Ground.chain }, { on := 0, ground := Ground.phase }, { on := 1, ground := Ground.phase }, { on := 2, ground := Ground.phase }, { on := 3, ground := Ground.phase }, { on := 4, ground := Ground.phase }, { on := 5, ground := Ground.phase }, { on := 6, ground := Ground.phase }, { on := 7, ground := Ground.phase }, { on := 8, ground := Ground.phase }, { on := 9, ground := Ground.phase }, { on := 10, ground := Ground.phase }, { on := 11, ground := Ground.phase }, { on := 12, ground := Ground.phase }, { on := 13, ground := Ground.phase }, { on := 14, ground := Ground.phase }, { on := 15, ground := Ground.phase }, { on := 16, ground := Ground.phase }, { on := 17, ground := Ground.phase }], guard := none }) (v := .string C3) rfl (by kernel_rfl) (by kernel_rfl) (by kernel_rfl) (fun _ _ _ h => h) (Or.inl ⟨by rfl, fun w' hSw => by clear hSw; go_simp⟩) (by assumption) ?_
        simp only [Act.put, List.setIfInBounds_toArray, List.set_cons_zero, List.set_cons_succ]
        refine wpAnyH_take (i := 19) (oi := { dst := some 3, op := Op.assign (Operand.const (Value.int IntKind.i64 0)), type := 53, pos := "tuple.go:35", after := #[{ on := 18, ground := Ground.chain }, { on := 0, ground := Ground.phase }, { on := 1, ground := Ground.phase }, { on := 2, ground := Ground.phase }, { on := 3, ground := Ground.phase }, { on := 4, ground := Ground.phase }, { on := 5, ground := Ground.phase }, { on := 6, ground := Ground.phase }, { on := 7, ground := Ground.phase }, { on := 8, ground := Ground.phase }, { on := 9, ground := Ground.phase }, { on := 10, ground := Ground.phase }, { on := 11, ground := Ground.phase }, { on := 12, ground := Ground.phase }, { on := 13, ground := Ground.phase }, { on := 14, ground := Ground.phase }, { on := 15, ground := Ground.phase }, { on := 16, ground := Ground.phase }, { on := 17, ground := Ground.phase }, { on := 18, ground := Ground.phase }], guard := none }) (v := .int .i64 0) rfl (by kernel_rfl) (by kernel_rfl) (by kernel_rfl) (fun _ _ _ h => h) (Or.inl ⟨by rfl, fun w' hSw => by clear hSw; go_simp⟩) (by assumption) ?_
        simp only [Act.put, List.setIfInBounds_toArray, List.set_cons_zero, List.set_cons_succ]
        refine wpAnyH_done (by kernel_rfl) ?_ _
        refine NoPanic.normal ?_
        rw [Exit.then]
        go_wp2_with fail
        go_ret2
        exact ⟨by simp [HE.out], o2 HO.out HX3.out⟩
      · go_simp
        have HS := hide (strs2 x1 t.key t.value HK.out HV.out)
        refine hK.out _ _ (o2 HX1.out (onlyA _ _)) (fun hHeld => ?_)
        clear hK K
        try simp only [Act.put, List.setIfInBounds_toArray, List.set_cons_zero, List.set_cons_succ]
        refine wpAnyH_ready (rs := [9]) (by kernel_rfl) (by simp) ?_
        refine AllReadyH.cons (o := { dst := some 16, op := Op.call { callee := Callee.value (Operand.func 52), args := #[Operand.tmp 15, Operand.const (Value.int IntKind.i64 2)], argTypes := #[3, 3] }, type := 9, pos := "tuple.go:35", after := #[{ on := 8, ground := Ground.data }, { on := 5, ground := Ground.chain }], guard := none }) rfl (fun K hK => ?_) (AllReadyH.nil)
        go_simp
        refine (HG2.out _).mono ?_
        rintro e x2 ⟨rfl, hx2⟩
        have HX2 := hide (o2 (o2 HX1.out (onlyA _ _)) hx2)
        have HS := hide (HS.out.more hx2)
        clear hx2
        refine hK.out _ _ (HX2.out) (fun hHeld => ?_)
        clear hK K
        try simp only [Act.put, List.setIfInBounds_toArray, List.set_cons_zero, List.set_cons_succ]
        refine wpAnyH_take (i := 10) (oi := { dst := some 17, op := Op.binOp BinOp.add 9 (Operand.tmp 13) (Operand.tmp 16) 9, type := 9, pos := "tuple.go:35", after := #[{ on := 6, ground := Ground.data }, { on := 9, ground := Ground.data }], guard := none }) (v := .string C2) rfl (by kernel_rfl) (by kernel_rfl) (by kernel_rfl) (fun _ _ _ h => h) (Or.inl ⟨by rfl, fun w' hSw => by clear hSw; go_simp⟩) (by assumption) ?_
        simp only [Act.put, List.setIfInBounds_toArray, List.set_cons_zero, List.set_cons_succ]
        refine wpAnyH_ready (rs := [16]) (by kernel_rfl) (by simp) ?_
        refine AllReadyH.cons (o := { dst := some 23, op := Op.call { callee := Callee.value (Operand.func 49), args := #[Operand.tmp 22], argTypes := #[28] }, type := 9, pos := "tuple.go:35", after := #[{ on := 15, ground := Ground.data }, { on := 9, ground := Ground.chain }], guard := none }) rfl (fun K hK => ?_) (AllReadyH.nil)
        go_simp
        refine (HG3.out _ x1.heap.size HS.out).mono ?_
        rintro e x3 ⟨rfl, hx3⟩
        have HX3 := hide (o2 HX2.out hx3)
        clear hx3
        refine hK.out _ _ (HX3.out) (fun hHeld => ?_)
        clear hK K
        try simp only [Act.put, List.setIfInBounds_toArray, List.set_cons_zero, List.set_cons_succ]
        refine wpAnyH_take (i := 17) (oi := { dst := some 24, op := Op.binOp BinOp.add 9 (Operand.tmp 17) (Operand.tmp 23) 9, type := 9, pos := "tuple.go:35", after := #[{ on := 10, ground := Ground.data }, { on := 16, ground := Ground.data }], guard := none }) (v := .string C3) rfl (by kernel_rfl) (by kernel_rfl) (by kernel_rfl) (fun _ _ _ h => h) (Or.inl ⟨by rfl, fun w' hSw => by clear hSw; go_simp⟩) (by assumption) ?_
        simp only [Act.put, List.setIfInBounds_toArray, List.set_cons_zero, List.set_cons_succ]
        refine wpAnyH_take (i := 18) (oi := { dst := some 2, op := Op.assign (Operand.tmp 24), type := 9, pos := "tuple.go:35", after := #[{ on := 17, ground := Ground.data }, { on := 16, ground := Ground.chain }, { on := 0, ground := Ground.phase }, { on := 1, ground := Ground.phase }, { on := 2, ground := Ground.phase }, { on := 3, ground := Ground.phase }, { on := 4, ground := Ground.phase }, { on := 5, ground := Ground.phase }, { on := 6, ground := Ground.phase }, { on := 7, ground := Ground.phase }, { on := 8, ground := Ground.phase }, { on := 9, ground := Ground.phase }, { on := 10, ground := Ground.phase }, { on := 11, ground := Ground.phase }, { on := 12, ground := Ground.phase }, { on := 13, ground := Ground.phase }, { on := 14, ground := Ground.phase }, { on := 15, ground := Ground.phase }, { on := 16, ground := Ground.phase }, { on := 17, ground := Ground.phase }], guard := none }) (v := .string C3) rfl (by kernel_rfl) (by kernel_rfl) (by kernel_rfl) (fun _ _ _ h => h) (Or.inl ⟨by rfl, fun w' hSw => by clear hSw; go_simp⟩) (by assumption) ?_
        simp only [Act.put, List.setIfInBounds_toArray, List.set_cons_zero, List.set_cons_succ]
        refine wpAnyH_take (i := 19) (oi := { dst := some 3, op := Op.assign (Operand.const (Value.int IntKind.i64 0)), type := 53, pos := "tuple.go:35", after := #[{ on := 18, ground := Ground.chain }, { on := 0, ground := Ground.phase }, { on := 1, ground := Ground.phase }, { on := 2, ground := Ground.phase }, { on := 3, ground := Ground.phase }, { on := 4, ground := Ground.phase }, { on := 5, ground := Ground.phase }, { on := 6, ground := Ground.phase }, { on := 7, ground := Ground.phase }, { on := 8, ground := Ground.phase }, { on := 9, ground := Ground.phase }, { on := 10, ground := Ground.phase }, { on := 11, ground := Ground.phase }, { on := 12, ground := Ground.phase }, { on := 13, ground := Ground.phase }, { on := 14, ground := Ground.phase }, { on := 15, ground := Ground.phase }, { on := 16, ground := Ground.phase }, { on := 17, ground := Ground.phase }, { on := 18, ground := Ground.phase }], guard := none }) (v := .int .i64 0) rfl (by kernel_rfl) (by kernel_rfl) (by kernel_rfl) (fun _ _ _ h => h) (Or.inl ⟨by rfl, fun w' hSw => by clear hSw; go_simp⟩) (by assumption) ?_
        simp only [Act.put, List.setIfInBounds_toArray, List.set_cons_zero, List.set_cons_succ]
        refine wpAnyH_done (by kernel_rfl) ?_ _
        refine NoPanic.normal ?_
        rw [Exit.then]
        go_wp2_with fail
        go_ret2
        exact ⟨by simp [HE.out], o2 HO.out HX3.out⟩
    · go_simp
      have HS := hide (strs2 W0.drew t.key t.value HK.out HV.out)
      refine hK.out _ _ (o2 (Only.drew _ _) (onlyA _ _)) (fun hHeld => ?_)
      clear hK K
      try simp only [Act.put, List.setIfInBounds_toArray, List.set_cons_zero, List.set_cons_succ]
      refine wpAnyH_ready (rs := [5]) (by kernel_rfl) (by simp) ?_
      refine AllReadyH.cons (o := { dst := some 12, op := Op.call { callee := Callee.value (Operand.func 52), args := #[Operand.tmp 11, Operand.const (Value.int IntKind.i64 2)], argTypes := #[3, 3] }, type := 9, pos := "tuple.go:35", after := #[{ on := 4, ground := Ground.data }, { on := 2, ground := Ground.chain }], guard := none }) rfl (fun K hK => ?_) (AllReadyH.nil)
      go_simp
      refine (HG1.out _).mono ?_
      rintro e x1 ⟨rfl, hx1⟩
      have HX1 := hide (o2 (o2 (Only.drew _ _) (onlyA _ _)) hx1)
      have HS := hide (HS.out.more hx1)
      clear hx1
      refine hK.out _ _ (HX1.out) (fun hHeld => ?_)
      clear hK K
      try simp only [Act.put, List.setIfInBounds_toArray, List.set_cons_zero, List.set_cons_succ]
      refine wpAnyH_take (i := 6) (oi := { dst := some 13, op := Op.binOp BinOp.add 9 (Operand.tmp 9) (Operand.tmp 12) 9, type := 9, pos := "tuple.go:35", after := #[{ on := 2, ground := Ground.data }, { on := 5, ground := Ground.data }], guard := none }) (v := .string C1) rfl (by kernel_rfl) (by kernel_rfl) (by kernel_rfl) (fun _ _ _ h => h) (Or.inl ⟨by rfl, fun w' hSw => by clear hSw; go_simp⟩) (by assumption) ?_
      simp only [Act.put, List.setIfInBounds_toArray, List.set_cons_zero, List.set_cons_succ]
      refine wpAnyH_ready (rs := [9]) (by kernel_rfl) (by simp) ?_
      refine AllReadyH.cons (o := { dst := some 16, op := Op.call { callee := Callee.value (Operand.func 52), args := #[Operand.tmp 15, Operand.const (Value.int IntKind.i64 2)], argTypes := #[3, 3] }, type := 9, pos := "tuple.go:35", after := #[{ on := 8, ground := Ground.data }, { on := 5, ground := Ground.chain }], guard := none }) rfl (fun K hK => ?_) (AllReadyH.nil)
      go_simp
      refine (HG2.out _).mono ?_
      rintro e x2 ⟨rfl, hx2⟩
      have HX2 := hide (o2 HX1.out hx2)
      have HS := hide (HS.out.more hx2)
      clear hx2
      refine hK.out _ _ (HX2.out) (fun hHeld => ?_)
      clear hK K
      try simp only [Act.put, List.setIfInBounds_toArray, List.set_cons_zero, List.set_cons_succ]
      refine wpAnyH_take (i := 10) (oi := { dst := some 17, op := Op.binOp BinOp.add 9 (Operand.tmp 13) (Operand.tmp 16) 9, type := 9, pos := "tuple.go:35", after := #[{ on := 6, ground := Ground.data }, { on := 9, ground := Ground.data }], guard := none }) (v := .string C2) rfl (by kernel_rfl) (by kernel_rfl) (by kernel_rfl) (fun _ _ _ h => h) (Or.inl ⟨by rfl, fun w' hSw => by clear hSw; go_simp⟩) (by assumption) ?_
      simp only [Act.put, List.setIfInBounds_toArray, List.set_cons_zero, List.set_cons_succ]
      refine wpAnyH_ready (rs := [16]) (by kernel_rfl) (by simp) ?_
      refine AllReadyH.cons (o := { dst := some 23, op := Op.call { callee := Callee.value (Operand.func 49), args := #[Operand.tmp 22], argTypes := #[28] }, type := 9, pos := "tuple.go:35", after := #[{ on := 15, ground := Ground.data }, { on := 9, ground := Ground.chain }], guard := none }) rfl (fun K hK => ?_) (AllReadyH.nil)
      go_simp
      refine (HG3.out _ W0.heap.size HS.out).mono ?_
      rintro e x3 ⟨rfl, hx3⟩
      have HX3 := hide (o2 HX2.out hx3)
      clear hx3
      refine hK.out _ _ (HX3.out) (fun hHeld => ?_)
      clear hK K
      try simp only [Act.put, List.setIfInBounds_toArray, List.set_cons_zero, List.set_cons_succ]
      refine wpAnyH_take (i := 17) (oi := { dst := some 24, op := Op.binOp BinOp.add 9 (Operand.tmp 17) (Operand.tmp 23) 9, type := 9, pos := "tuple.go:35", after := #[{ on := 10, ground := Ground.data }, { on := 16, ground := Ground.data }], guard := none }) (v := .string C3) rfl (by kernel_rfl) (by kernel_rfl) (by kernel_rfl) (fun _ _ _ h => h) (Or.inl ⟨by rfl, fun w' hSw => by clear hSw; go_simp⟩) (by assumption) ?_
      simp only [Act.put, List.setIfInBounds_toArray, List.set_cons_zero, List.set_cons_succ]
      refine wpAnyH_take (i := 18) (oi := { dst := some 2, op := Op.assign (Operand.tmp 24), type := 9, pos := "tuple.go:35", after := #[{ on := 17, ground := Ground.data }, { on := 16, ground := Ground.chain }, { on := 0, ground := Ground.phase }, { on := 1, ground := Ground.phase }, { on := 2, ground := Ground.phase }, { on := 3, ground := Ground.phase }, { on := 4, ground := Ground.phase }, { on := 5, ground := Ground.phase }, { on := 6, ground := Ground.phase }, { on := 7, ground := Ground.phase }, { on := 8, ground := Ground.phase }, { on := 9, ground := Ground.phase }, { on := 10, ground := Ground.phase }, { on := 11, ground := Ground.phase }, { on := 12, ground := Ground.phase }, { on := 13, ground := Ground.phase }, { on := 14, ground := Ground.phase }, { on := 15, ground := Ground.phase }, { on := 16, ground := Ground.phase }, { on := 17, ground := Ground.phase }], guard := none }) (v := .string C3) rfl (by kernel_rfl) (by kernel_rfl) (by kernel_rfl) (fun _ _ _ h => h) (Or.inl ⟨by rfl, fun w' hSw => by clear hSw; go_simp⟩) (by assumption) ?_
      simp only [Act.put, List.setIfInBounds_toArray, List.set_cons_zero, List.set_cons_succ]
      refine wpAnyH_take (i := 19) (oi := { dst := some 3, op := Op.assign (Operand.const (Value.int IntKind.i64 0)), type := 53, pos := "tuple.go:35", after := #[{ on := 18, ground := Ground.chain }, { on := 0, ground := Ground.phase }, { on := 1, ground := Ground.phase }, { on := 2, ground := Ground.phase }, { on := 3, ground := Ground.phase }, { on := 4, ground := Ground.phase }, { on := 5, ground := Ground.phase }, { on := 6, ground := Ground.phase }, { on := 7, ground := Ground.phase }, { on := 8, ground := Ground.phase }, { on := 9, ground := Ground.phase }, { on := 10, ground := Ground.phase }, { on := 11, ground := Ground.phase }, { on := 12, ground := Ground.phase }, { on := 13, ground := Ground.phase }, { on := 14, ground := Ground.phase }, { on := 15, ground := Ground.phase }, { on := 16, ground := Ground.phase }, { on := 17, ground := Ground.phase }, { on := 18, ground := Ground.phase }], guard := none }) (v := .int .i64 0) rfl (by kernel_rfl) (by kernel_rfl) (by kernel_rfl) (fun _ _ _ h => h) (Or.inl ⟨by rfl, fun w' hSw => by clear hSw; go_simp⟩) (by assumption) ?_
      simp only [Act.put, List.setIfInBounds_toArray, List.set_cons_zero, List.set_cons_succ]
      refine wpAnyH_done (by kernel_rfl) ?_ _
      refine NoPanic.normal ?_
      rw [Exit.then]
      go_wp2_with fail
      go_ret2
      exact ⟨by simp [HE.out], o2 HO.out HX3.out⟩
  · go_simp
    have HS := hide (strs2 W0.drew t.key t.value HK.out HV.out)
    refine hK.out _ _ (o2 (Only.drew _ _) (onlyA _ _)) (fun hHeld => ?_)
    clear hK K
    try simp only [Act.put, List.setIfInBounds_toArray, List.set_cons_zero, List.set_cons_succ]
    refine wpAnyH_ready (rs := [2]) (by kernel_rfl) (by simp) ?_
    refine AllReadyH.cons (o := { dst := some 9, op := Op.call { callee := Callee.value (Operand.func 51), args := #[Operand.tmp 8], argTypes := #[4] }, type := 9, pos := "tuple.go:35", after := #[{ on := 1, ground := Ground.data }], guard := none }) rfl (fun K hK => ?_) (AllReadyH.nil)
    go_simp
    refine (HM.out _).mono ?_
    rintro e _ ⟨rfl, rfl⟩
    refine hK.out _ _ ((o2 (Only.drew _ _) (onlyA _ _))) (fun hHeld => ?_)
    clear hK K
    try simp only [Act.put, List.setIfInBounds_toArray, List.set_cons_zero, List.set_cons_succ]
    refine wpAnyH_ready (rs := [5]) (by kernel_rfl) (by simp) ?_
    refine AllReadyH.cons (o := { dst := some 12, op := Op.call { callee := Callee.value (Operand.func 52), args := #[Operand.tmp 11, Operand.const (Value.int IntKind.i64 2)], argTypes := #[3, 3] }, type := 9, pos := "tuple.go:35", after := #[{ on := 4, ground := Ground.data }, { on := 2, ground := Ground.chain }], guard := none }) rfl (fun K hK => ?_) (AllReadyH.nil)
    go_simp
    refine (HG1.out _).mono ?_
    rintro e x1 ⟨rfl, hx1⟩
    have HX1 := hide (o2 (o2 (Only.drew _ _) (onlyA _ _)) hx1)
    have HS := hide (HS.out.more hx1)
    clear hx1
    refine hK.out _ _ (HX1.out) (fun hHeld => ?_)
    clear hK K
    try simp only [Act.put, List.setIfInBounds_toArray, List.set_cons_zero, List.set_cons_succ]
    refine wpAnyH_take (i := 6) (oi := { dst := some 13, op := Op.binOp BinOp.add 9 (Operand.tmp 9) (Operand.tmp 12) 9, type := 9, pos := "tuple.go:35", after := #[{ on := 2, ground := Ground.data }, { on := 5, ground := Ground.data }], guard := none }) (v := .string C1) rfl (by kernel_rfl) (by kernel_rfl) (by kernel_rfl) (fun _ _ _ h => h) (Or.inl ⟨by rfl, fun w' hSw => by clear hSw; go_simp⟩) (by assumption) ?_
    simp only [Act.put, List.setIfInBounds_toArray, List.set_cons_zero, List.set_cons_succ]
    refine wpAnyH_ready (rs := [9]) (by kernel_rfl) (by simp) ?_
    refine AllReadyH.cons (o := { dst := some 16, op := Op.call { callee := Callee.value (Operand.func 52), args := #[Operand.tmp 15, Operand.const (Value.int IntKind.i64 2)], argTypes := #[3, 3] }, type := 9, pos := "tuple.go:35", after := #[{ on := 8, ground := Ground.data }, { on := 5, ground := Ground.chain }], guard := none }) rfl (fun K hK => ?_) (AllReadyH.nil)
    go_simp
    refine (HG2.out _).mono ?_
    rintro e x2 ⟨rfl, hx2⟩
    have HX2 := hide (o2 HX1.out hx2)
    have HS := hide (HS.out.more hx2)
    clear hx2
    refine hK.out _ _ (HX2.out) (fun hHeld => ?_)
    clear hK K
    try simp only [Act.put, List.setIfInBounds_toArray, List.set_cons_zero, List.set_cons_succ]
    refine wpAnyH_take (i := 10) (oi := { dst := some 17, op := Op.binOp BinOp.add 9 (Operand.tmp 13) (Operand.tmp 16) 9, type := 9, pos := "tuple.go:35", after := #[{ on := 6, ground := Ground.data }, { on := 9, ground := Ground.data }], guard := none }) (v := .string C2) rfl (by kernel_rfl) (by kernel_rfl) (by kernel_rfl) (fun _ _ _ h => h) (Or.inl ⟨by rfl, fun w' hSw => by clear hSw; go_simp⟩) (by assumption) ?_
    simp only [Act.put, List.setIfInBounds_toArray, List.set_cons_zero, List.set_cons_succ]
    refine wpAnyH_ready (rs := [16]) (by kernel_rfl) (by simp) ?_
    refine AllReadyH.cons (o := { dst := some 23, op := Op.call { callee := Callee.value (Operand.func 49), args := #[Operand.tmp 22], argTypes := #[28] }, type := 9, pos := "tuple.go:35", after := #[{ on := 15, ground := Ground.data }, { on := 9, ground := Ground.chain }], guard := none }) rfl (fun K hK => ?_) (AllReadyH.nil)
    go_simp
    refine (HG3.out _ W0.heap.size HS.out).mono ?_
    rintro e x3 ⟨rfl, hx3⟩
    have HX3 := hide (o2 HX2.out hx3)
    clear hx3
    refine hK.out _ _ (HX3.out) (fun hHeld => ?_)
    clear hK K
    try simp only [Act.put, List.setIfInBounds_toArray, List.set_cons_zero, List.set_cons_succ]
    refine wpAnyH_take (i := 17) (oi := { dst := some 24, op := Op.binOp BinOp.add 9 (Operand.tmp 17) (Operand.tmp 23) 9, type := 9, pos := "tuple.go:35", after := #[{ on := 10, ground := Ground.data }, { on := 16, ground := Ground.data }], guard := none }) (v := .string C3) rfl (by kernel_rfl) (by kernel_rfl) (by kernel_rfl) (fun _ _ _ h => h) (Or.inl ⟨by rfl, fun w' hSw => by clear hSw; go_simp⟩) (by assumption) ?_
    simp only [Act.put, List.setIfInBounds_toArray, List.set_cons_zero, List.set_cons_succ]
    refine wpAnyH_take (i := 18) (oi := { dst := some 2, op := Op.assign (Operand.tmp 24), type := 9, pos := "tuple.go:35", after := #[{ on := 17, ground := Ground.data }, { on := 16, ground := Ground.chain }, { on := 0, ground := Ground.phase }, { on := 1, ground := Ground.phase }, { on := 2, ground := Ground.phase }, { on := 3, ground := Ground.phase }, { on := 4, ground := Ground.phase }, { on := 5, ground := Ground.phase }, { on := 6, ground := Ground.phase }, { on := 7, ground := Ground.phase }, { on := 8, ground := Ground.phase }, { on := 9, ground := Ground.phase }, { on := 10, ground := Ground.phase }, { on := 11, ground := Ground.phase }, { on := 12, ground := Ground.phase }, { on := 13, ground := Ground.phase }, { on := 14, ground := Ground.phase }, { on := 15, ground := Ground.phase }, { on := 16, ground := Ground.phase }, { on := 17, ground := Ground.phase }], guard := none }) (v := .string C3) rfl (by kernel_rfl) (by kernel_rfl) (by kernel_rfl) (fun _ _ _ h => h) (Or.inl ⟨by rfl, fun w' hSw => by clear hSw; go_simp⟩) (by assumption) ?_
    simp only [Act.put, List.setIfInBounds_toArray, List.set_cons_zero, List.set_cons_succ]
    refine wpAnyH_take (i := 19) (oi := { dst := some 3, op := Op.assign (Operand.const (Value.int IntKind.i64 0)), type := 53, pos := "tuple.go:35", after := #[{ on := 18, ground := Ground.chain }, { on := 0, ground := Ground.phase }, { on := 1, ground := Ground.phase }, { on := 2, ground := Ground.phase }, { on := 3, ground := Ground.phase }, { on := 4, ground := Ground.phase }, { on := 5, ground := Ground.phase }, { on := 6, ground := Ground.phase }, { on := 7, ground := Ground.phase }, { on := 8, ground := Ground.phase }, { on := 9, ground := Ground.phase }, { on := 10, ground := Ground.phase }, { on := 11, ground := Ground.phase }, { on := 12, ground := Ground.phase }, { on := 13, ground := Ground.phase }, { on := 14, ground := Ground.phase }, { on := 15, ground := Ground.phase }, { on := 16, ground := Ground.phase }, { on := 17, ground := Ground.phase }, { on := 18, ground := Ground.phase }], guard := none }) (v := .int .i64 0) rfl (by kernel_rfl) (by kernel_rfl) (by kernel_rfl) (fun _ _ _ h => h) (Or.inl ⟨by rfl, fun w' hSw => by clear hSw; go_simp⟩) (by assumption) ?_
    simp only [Act.put, List.setIfInBounds_toArray, List.set_cons_zero, List.set_cons_succ]
    refine wpAnyH_done (by kernel_rfl) ?_ _
    refine NoPanic.normal ?_
    rw [Exit.then]
    go_wp2_with fail
    go_ret2
    exact ⟨by simp [HE.out], o2 HO.out HX3.out⟩
set_option maxRecDepth 100000 in
set_option maxHeartbeats 1600000 in
theorem tencode_bad (t : Tu) (w : World) (h0 : -9223372036854775808 ≤ t.xmin ∧ t.xmin < 9223372036854775808) (h1 : -9223372036854775808 ≤ t.xmax ∧ t.xmax < 9223372036854775808) (h : t.ok = false) :
    Calls Tryz.prog 63 #[t.agg] w fun e w' => e = .returned (.tuple #[.string ⟨#[]⟩, .int .i64 110]) ∧ Only (fun _ => False) w w' := by
  obtain ⟨a, b, f, k, v⟩ := t
  have hk : Tu.ok ⟨a, b, f, k, v⟩ = (decide (1 ≤ a) && (decide (a ≤ 1024) && (decide (0 ≤ b) && (decide (b ≤ 1024) && (okK k && decide ((v.size : Int) ≤ 64)))))) := by
    unfold okK Tu.ok
    rw [Bool.eq_iff_iff]
    simp only [Bool.and_eq_true, decide_eq_true_eq]
    omega
  rw [h] at hk
  unfold Tu.agg
  simp only at h0 h1 ⊢
  clear h
  obtain ⟨q, hq⟩ : ∃ q, okK k = q := ⟨_, rfl⟩
  have HC : Hid (∀ W, Calls Tryz.prog 105 #[.string k] W fun e w' => e = .returned (.bool q) ∧ w' = W) := fun W => by
    rw [← hq]
    exact uright_any k W
  rw [hq] at hk
  clear hq
  by_cases c1 : 1 ≤ a
  · by_cases c2 : a ≤ 1024
    · by_cases c3 : 0 ≤ b
      · by_cases c4 : b ≤ 1024
        · cases q
          · clear hk
            go_enter Tryz.func63, Tryz.ntmps63
            go_wp2_with (go_at_call 105; refine (HC.out _).mono ?_; rintro e w' ⟨rfl, hw⟩; obtain rfl := hw.symm; clear hw)
            go_ret2
            exact ⟨rfl, onlyA _ _⟩
          · have c5 : 64 < (v.size : Int) := by simp [c1, c2, c3, c4] at hk; omega
            clear hk
            go_enter Tryz.func63, Tryz.ntmps63
            go_wp2_with (go_at_call 105; refine (HC.out _).mono ?_; rintro e w' ⟨rfl, hw⟩; obtain rfl := hw.symm; clear hw)
            go_ret2
            exact ⟨rfl, onlyA _ _⟩
        · clear hk
          go_enter Tryz.func63, Tryz.ntmps63
          go_wp2_with (go_at_call 105; refine (HC.out _).mono ?_; rintro e w' ⟨rfl, hw⟩; obtain rfl := hw.symm; clear hw)
          go_ret2
          exact ⟨rfl, onlyA _ _⟩
      · clear hk
        go_enter Tryz.func63, Tryz.ntmps63
        go_wp2_with (go_at_call 105; refine (HC.out _).mono ?_; rintro e w' ⟨rfl, hw⟩; obtain rfl := hw.symm; clear hw)
        go_ret2
        exact ⟨rfl, onlyA _ _⟩
    · clear hk
      go_enter Tryz.func63, Tryz.ntmps63
      go_wp2_with (go_at_call 105; refine (HC.out _).mono ?_; rintro e w' ⟨rfl, hw⟩; obtain rfl := hw.symm; clear hw)
      go_ret2
      exact ⟨rfl, onlyA _ _⟩
  · clear hk
    go_enter Tryz.func63, Tryz.ntmps63
    go_wp2_with (go_at_call 105; refine (HC.out _).mono ?_; rintro e w' ⟨rfl, hw⟩; obtain rfl := hw.symm; clear hw)
    go_ret2
    exact ⟨rfl, onlyA _ _⟩
set_option maxRecDepth 100000 in
set_option maxHeartbeats 3200000 in
theorem tencode_false (t : Tu) (w : World) (h : t.ok = true) (hf : t.frozen = false) :
    Calls Tryz.prog 63 #[.agg #[.int .i64 t.xmin, .int .i64 t.xmax, .bool false, .string t.key, .string t.value]] w fun e w' => e = .returned (.tuple #[.string (str t.enc), .int .i64 0]) ∧ Only (fun _ => False) w w' := by
  have hk' := Tu.ok_iff.1 h
  have HK : Hid (t.key.size ≤ 24) := hk'.2.2.2.2.2.1
  have HV : Hid (t.value.size ≤ 64) := hk'.2.2.2.2.2.2
  obtain ⟨M, hM⟩ : ∃ M : ByteArray, (⟨#[mkB t.frozen]⟩ : ByteArray) = M := ⟨_, rfl⟩
  have sM : M.size = 1 := by rw [← hM]; rfl
  have eM : M = str [mkB t.frozen] := hM.symm
  obtain ⟨Y1, hY1⟩ : ∃ Y, str (bigF 2 t.xmin.toNat) = Y := ⟨_, rfl⟩
  have sY1 : Y1.size ≤ 2 := by rw [← hY1, str_size]; rw [bigF_len]; omega
  obtain ⟨C1, hC1⟩ : ∃ C, M ++ Y1 = C := ⟨_, rfl⟩
  have eC1 : C1 = str ([mkB t.frozen] ++ bigF 2 t.xmin.toNat) := by rw [← hC1, eM, ← hY1, str_catU]
  have sC1 : C1.size ≤ 3 := by rw [← hC1, ByteArray.size_append]; omega
  have yC1 : M.size + Y1.size ≤ 9223372036854775807 := by omega
  obtain ⟨Y2, hY2⟩ : ∃ Y, str (bigF 2 t.xmax.toNat) = Y := ⟨_, rfl⟩
  have sY2 : Y2.size ≤ 2 := by rw [← hY2, str_size]; rw [bigF_len]; omega
  obtain ⟨C2, hC2⟩ : ∃ C, C1 ++ Y2 = C := ⟨_, rfl⟩
  have eC2 : C2 = str (([mkB t.frozen] ++ bigF 2 t.xmin.toNat) ++ bigF 2 t.xmax.toNat) := by rw [← hC2, eC1, ← hY2, str_catU]
  have sC2 : C2.size ≤ 5 := by rw [← hC2, ByteArray.size_append]; omega
  have yC2 : C1.size + Y2.size ≤ 9223372036854775807 := by omega
  obtain ⟨Y3, hY3⟩ : ∃ Y, str (txL t.key) = Y := ⟨_, rfl⟩
  have sY3 : Y3.size ≤ 25 := by rw [← hY3, str_size]; have := txL_len t.key (by omega); omega
  obtain ⟨C3, hC3⟩ : ∃ C, C2 ++ Y3 = C := ⟨_, rfl⟩
  have eC3 : C3 = str ((([mkB t.frozen] ++ bigF 2 t.xmin.toNat) ++ bigF 2 t.xmax.toNat) ++ txL t.key) := by rw [← hC3, eC2, ← hY3, str_catU]
  have sC3 : C3.size ≤ 30 := by rw [← hC3, ByteArray.size_append]; omega
  have yC3 : C2.size + Y3.size ≤ 9223372036854775807 := by omega
  obtain ⟨Y4, hY4⟩ : ∃ Y, str (txL t.value) = Y := ⟨_, rfl⟩
  have sY4 : Y4.size ≤ 65 := by rw [← hY4, str_size]; have := txL_len t.value (by omega); omega
  obtain ⟨C4, hC4⟩ : ∃ C, C3 ++ Y4 = C := ⟨_, rfl⟩
  have eC4 : C4 = str (((([mkB t.frozen] ++ bigF 2 t.xmin.toNat) ++ bigF 2 t.xmax.toNat) ++ txL t.key) ++ txL t.value) := by rw [← hC4, eC3, ← hY4, str_catU]
  have sC4 : C4.size ≤ 95 := by rw [← hC4, ByteArray.size_append]; omega
  have yC4 : C3.size + Y4.size ≤ 9223372036854775807 := by omega
  have HE : Hid (C4 = str t.enc) := by
    unfold Hid
    rw [eC4]
    unfold Tu.enc
    simp
  have HC : Hid (∀ W, Calls Tryz.prog 105 #[.string t.key] W fun e w' => e = .returned (.bool true) ∧ w' = W) := fun W => by
    have := uright_any t.key W
    rwa [Tu.ok_key h] at this
  have HM : Hid ((⟨#[1]⟩ : ByteArray) = M) := by
    unfold Hid
    rw [← hM, hf]
    rfl
  have HG1 : Hid (∀ W, Calls Tryz.prog 108 #[.int .i64 t.xmin, .int .i64 2] W fun e w' => e = .returned (.string Y1) ∧ Only (fun _ => False) W w') := fun W => by
    have := refBig_any t.xmin.toNat 2 W (by omega) (by omega) (by omega)
    rw [i64_nat (by omega)] at this
    rw [← hY1]
    exact this
  have HG2 : Hid (∀ W, Calls Tryz.prog 108 #[.int .i64 t.xmax, .int .i64 2] W fun e w' => e = .returned (.string Y2) ∧ Only (fun _ => False) W w') := fun W => by
    have := refBig_any t.xmax.toNat 2 W (by omega) (by omega) (by omega)
    rw [i64_nat (by omega)] at this
    rw [← hY2]
    exact this
  have HG3 : Hid (∀ W, Calls Tryz.prog 109 #[.string t.key] W fun e w' => e = .returned (.string Y3) ∧ Only (fun _ => False) W w') := fun W => by
    rw [← hY3]
    exact refText_any W t.key (by omega)
  have HG4 : Hid (∀ W, Calls Tryz.prog 109 #[.string t.value] W fun e w' => e = .returned (.string Y4) ∧ Only (fun _ => False) W w') := fun W => by
    rw [← hY4]
    exact refText_any W t.value (by omega)
  have n1 : ¬ t.xmin < 1 := by omega
  have n2 : ¬ 1024 < t.xmin := by omega
  have n3 : ¬ t.xmax < 0 := by omega
  have n4 : ¬ 1024 < t.xmax := by omega
  have n5 : ¬ 64 < (t.value.size : Int) := by omega
  have HB0 := hide (Tb.new w t)
  rw [hf] at HB0
  clear hk' h hM eM hY1 hY2 hY3 hY4 eC1 eC2 eC3 eC4 sM sY1 sY2 sY3 sY4 sC1 sC2 sC3 sC4 HK HV
  obtain ⟨W0, hW0⟩ : ∃ x, w.alloc (.cells #[.int .i64 t.xmin, .int .i64 t.xmax, .bool false, .string t.key, .string t.value] 62) = x := ⟨_, rfl⟩
  have HO := hide (onlyA w (.cells #[.int .i64 t.xmin, .int .i64 t.xmax, .bool false, .string t.key, .string t.value] 62))
  have HW0 := hide hW0
  rw [hW0] at HB0 HO
  have HB := HB0
  clear hW0 HB0
  go_enter Tryz.func63, Tryz.ntmps63
  go_upto_region 6 with (go_at_call 105; refine (HC.out _).mono ?_; rintro e w' ⟨rfl, hw⟩; obtain rfl := hw.symm; clear hw)
  rw [HW0.out, HM.out]
  refine wp_region_noPanic ?_
  refine wp_region_held_drew (S := fun W => Only (fun _ => False) W0 W) (by kernel_rfl) (Only.drew _ _) (fun hHeld => ?_)
  refine wpAnyH_take (i := 0) (oi := { dst := some 37, op := Op.move (Operand.tmp 4), type := 9, pos := "ref.go:21", after := #[], guard := none }) (v := .string M) rfl (by kernel_rfl) (by kernel_rfl) (by kernel_rfl) (fun _ _ _ h => h) (Or.inl ⟨by rfl, fun w' hSw => by clear hSw; go_simp⟩) (by assumption) ?_
  simp only [Act.put, List.setIfInBounds_toArray, List.set_cons_zero, List.set_cons_succ]
  refine wpAnyH_take (i := 1) (oi := { dst := some 38, op := Op.fieldAddr 62 (Operand.tmp 1) 0, type := 0, pos := "ref.go:21", after := #[], guard := none }) (v := .pointer (some ⟨w.heap.size, 0, none⟩)) rfl (by kernel_rfl) (by kernel_rfl) (by kernel_rfl) (fun _ _ _ h => h) (Or.inl ⟨by rfl, fun w' hSw => by clear hSw; go_simp⟩) (by assumption) ?_
  simp only [Act.put, List.setIfInBounds_toArray, List.set_cons_zero, List.set_cons_succ]
  refine wpAnyH_take (i := 5) (oi := { dst := some 42, op := Op.fieldAddr 62 (Operand.tmp 1) 1, type := 0, pos := "ref.go:21", after := #[], guard := none }) (v := .pointer (some ⟨w.heap.size, 1, none⟩)) rfl (by kernel_rfl) (by kernel_rfl) (by kernel_rfl) (fun _ _ _ h => h) (Or.inl ⟨by rfl, fun w' hSw => by clear hSw; go_simp⟩) (by assumption) ?_
  simp only [Act.put, List.setIfInBounds_toArray, List.set_cons_zero, List.set_cons_succ]
  refine wpAnyH_take (i := 9) (oi := { dst := some 46, op := Op.fieldAddr 62 (Operand.tmp 1) 3, type := 0, pos := "ref.go:21", after := #[], guard := none }) (v := .pointer (some ⟨w.heap.size, 3, none⟩)) rfl (by kernel_rfl) (by kernel_rfl) (by kernel_rfl) (fun _ _ _ h => h) (Or.inl ⟨by rfl, fun w' hSw => by clear hSw; go_simp⟩) (by assumption) ?_
  simp only [Act.put, List.setIfInBounds_toArray, List.set_cons_zero, List.set_cons_succ]
  refine wpAnyH_take (i := 13) (oi := { dst := some 50, op := Op.fieldAddr 62 (Operand.tmp 1) 4, type := 0, pos := "ref.go:21", after := #[], guard := none }) (v := .pointer (some ⟨w.heap.size, 4, none⟩)) rfl (by kernel_rfl) (by kernel_rfl) (by kernel_rfl) (fun _ _ _ h => h) (Or.inl ⟨by rfl, fun w' hSw => by clear hSw; go_simp⟩) (by assumption) ?_
  simp only [Act.put, List.setIfInBounds_toArray, List.set_cons_zero, List.set_cons_succ]
  refine wpAnyH_take (i := 2) (oi := { dst := some 39, op := Op.load 3 (Operand.tmp 38), type := 3, pos := "ref.go:21", after := #[{ on := 1, ground := Ground.data }], guard := none }) (v := .int .i64 t.xmin) rfl (by kernel_rfl) (by kernel_rfl) (by kernel_rfl) (fun _ _ _ h => h) (yieldsIf_load_cell (by rfl) 3 _ rfl _ rfl (fun W hW => (HB.out.more hW).c0) (fun W hc => ld_int hc)) (by assumption) ?_
  simp only [Act.put, List.setIfInBounds_toArray, List.set_cons_zero, List.set_cons_succ]
  refine wpAnyH_take (i := 6) (oi := { dst := some 43, op := Op.load 3 (Operand.tmp 42), type := 3, pos := "ref.go:21", after := #[{ on := 5, ground := Ground.data }], guard := none }) (v := .int .i64 t.xmax) rfl (by kernel_rfl) (by kernel_rfl) (by kernel_rfl) (fun _ _ _ h => h) (yieldsIf_load_cell (by rfl) 3 _ rfl _ rfl (fun W hW => (HB.out.more hW).c1) (fun W hc => ld_int hc)) (by assumption) ?_
  simp only [Act.put, List.setIfInBounds_toArray, List.set_cons_zero, List.set_cons_succ]
  refine wpAnyH_take (i := 10) (oi := { dst := some 47, op := Op.load 9 (Operand.tmp 46), type := 9, pos := "ref.go:21", after := #[{ on := 9, ground := Ground.data }], guard := none }) (v := .string t.key) rfl (by kernel_rfl) (by kernel_rfl) (by kernel_rfl) (fun _ _ _ h => h) (yieldsIf_load_cell (by rfl) 9 _ rfl _ rfl (fun W hW => (HB.out.more hW).c3) (fun W hc => ld_string hc)) (by assumption) ?_
  simp only [Act.put, List.setIfInBounds_toArray, List.set_cons_zero, List.set_cons_succ]
  refine wpAnyH_take (i := 14) (oi := { dst := some 51, op := Op.load 9 (Operand.tmp 50), type := 9, pos := "ref.go:21", after := #[{ on := 13, ground := Ground.data }], guard := none }) (v := .string t.value) rfl (by kernel_rfl) (by kernel_rfl) (by kernel_rfl) (fun _ _ _ h => h) (yieldsIf_load_cell (by rfl) 9 _ rfl _ rfl (fun W hW => (HB.out.more hW).c4) (fun W hc => ld_string hc)) (by assumption) ?_
  simp only [Act.put, List.setIfInBounds_toArray, List.set_cons_zero, List.set_cons_succ]
  refine wpAnyH_ready (rs := [3]) (by kernel_rfl) (by simp) ?_
  refine AllReadyH.cons (o := { dst := some 40, op := Op.call { callee := Callee.value (Operand.func 108), args := #[Operand.tmp 39, Operand.const (Value.int IntKind.i64 2)], argTypes := #[3, 3] }, type := 9, pos := "ref.go:21", after := #[{ on := 2, ground := Ground.data }], guard := none }) rfl (fun K hK => ?_) (AllReadyH.nil)
  go_simp
  refine (HG1.out _).mono ?_
  rintro e x1 ⟨rfl, hx1⟩
  have HX1 := hide (o2 (Only.drew _ _) hx1)
  clear hx1
  refine hK.out _ _ (HX1.out) (fun hHeld => ?_)
  clear hK K
  try simp only [Act.put, List.setIfInBounds_toArray, List.set_cons_zero, List.set_cons_succ]
  refine wpAnyH_take (i := 4) (oi := { dst := some 41, op := Op.binOp BinOp.add 9 (Operand.tmp 37) (Operand.tmp 40) 9, type := 9, pos := "ref.go:21", after := #[{ on := 0, ground := Ground.data }, { on := 3, ground := Ground.data }], guard := none }) (v := .string C1) rfl (by kernel_rfl) (by kernel_rfl) (by kernel_rfl) (fun _ _ _ h => h) (Or.inl ⟨by rfl, fun w' hSw => by clear hSw; go_simp⟩) (by assumption) ?_
  simp only [Act.put, List.setIfInBounds_toArray, List.set_cons_zero, List.set_cons_succ]
  refine wpAnyH_ready (rs := [7]) (by kernel_rfl) (by simp) ?_
  refine AllReadyH.cons (o := { dst := some 44, op := Op.call { callee := Callee.value (Operand.func 108), args := #[Operand.tmp 43, Operand.const (Value.int IntKind.i64 2)], argTypes := #[3, 3] }, type := 9, pos := "ref.go:21", after := #[{ on := 6, ground := Ground.data }, { on := 3, ground := Ground.chain }], guard := none }) rfl (fun K hK => ?_) (AllReadyH.nil)
  go_simp
  refine (HG2.out _).mono ?_
  rintro e x2 ⟨rfl, hx2⟩
  have HX2 := hide (o2 HX1.out hx2)
  clear hx2
  refine hK.out _ _ (HX2.out) (fun hHeld => ?_)
  clear hK K
  try simp only [Act.put, List.setIfInBounds_toArray, List.set_cons_zero, List.set_cons_succ]
  refine wpAnyH_take (i := 8) (oi := { dst := some 45, op := Op.binOp BinOp.add 9 (Operand.tmp 41) (Operand.tmp 44) 9, type := 9, pos := "ref.go:21", after := #[{ on := 4, ground := Ground.data }, { on := 7, ground := Ground.data }], guard := none }) (v := .string C2) rfl (by kernel_rfl) (by kernel_rfl) (by kernel_rfl) (fun _ _ _ h => h) (Or.inl ⟨by rfl, fun w' hSw => by clear hSw; go_simp⟩) (by assumption) ?_
  simp only [Act.put, List.setIfInBounds_toArray, List.set_cons_zero, List.set_cons_succ]
  refine wpAnyH_ready (rs := [11]) (by kernel_rfl) (by simp) ?_
  refine AllReadyH.cons (o := { dst := some 48, op := Op.call { callee := Callee.value (Operand.func 109), args := #[Operand.tmp 47], argTypes := #[9] }, type := 9, pos := "ref.go:21", after := #[{ on := 10, ground := Ground.data }, { on := 7, ground := Ground.chain }], guard := none }) rfl (fun K hK => ?_) (AllReadyH.nil)
  go_simp
  refine (HG3.out _).mono ?_
  rintro e x3 ⟨rfl, hx3⟩
  have HX3 := hide (o2 HX2.out hx3)
  clear hx3
  refine hK.out _ _ (HX3.out) (fun hHeld => ?_)
  clear hK K
  try simp only [Act.put, List.setIfInBounds_toArray, List.set_cons_zero, List.set_cons_succ]
  refine wpAnyH_take (i := 12) (oi := { dst := some 49, op := Op.binOp BinOp.add 9 (Operand.tmp 45) (Operand.tmp 48) 9, type := 9, pos := "ref.go:21", after := #[{ on := 8, ground := Ground.data }, { on := 11, ground := Ground.data }], guard := none }) (v := .string C3) rfl (by kernel_rfl) (by kernel_rfl) (by kernel_rfl) (fun _ _ _ h => h) (Or.inl ⟨by rfl, fun w' hSw => by clear hSw; go_simp⟩) (by assumption) ?_
  simp only [Act.put, List.setIfInBounds_toArray, List.set_cons_zero, List.set_cons_succ]
  refine wpAnyH_ready (rs := [15]) (by kernel_rfl) (by simp) ?_
  refine AllReadyH.cons (o := { dst := some 52, op := Op.call { callee := Callee.value (Operand.func 109), args := #[Operand.tmp 51], argTypes := #[9] }, type := 9, pos := "ref.go:21", after := #[{ on := 14, ground := Ground.data }, { on := 11, ground := Ground.chain }], guard := none }) rfl (fun K hK => ?_) (AllReadyH.nil)
  go_simp
  refine (HG4.out _).mono ?_
  rintro e x4 ⟨rfl, hx4⟩
  have HX4 := hide (o2 HX3.out hx4)
  clear hx4
  refine hK.out _ _ (HX4.out) (fun hHeld => ?_)
  clear hK K
  try simp only [Act.put, List.setIfInBounds_toArray, List.set_cons_zero, List.set_cons_succ]
  refine wpAnyH_take (i := 16) (oi := { dst := some 53, op := Op.binOp BinOp.add 9 (Operand.tmp 49) (Operand.tmp 52) 9, type := 9, pos := "ref.go:21", after := #[{ on := 12, ground := Ground.data }, { on := 15, ground := Ground.data }], guard := none }) (v := .string C4) rfl (by kernel_rfl) (by kernel_rfl) (by kernel_rfl) (fun _ _ _ h => h) (Or.inl ⟨by rfl, fun w' hSw => by clear hSw; go_simp⟩) (by assumption) ?_
  simp only [Act.put, List.setIfInBounds_toArray, List.set_cons_zero, List.set_cons_succ]
  refine wpAnyH_take (i := 17) (oi := { dst := some 2, op := Op.assign (Operand.tmp 53), type := 9, pos := "ref.go:21", after := #[{ on := 16, ground := Ground.data }, { on := 15, ground := Ground.chain }, { on := 0, ground := Ground.phase }, { on := 1, ground := Ground.phase }, { on := 2, ground := Ground.phase }, { on := 3, ground := Ground.phase }, { on := 4, ground := Ground.phase }, { on := 5, ground := Ground.phase }, { on := 6, ground := Ground.phase }, { on := 7, ground := Ground.phase }, { on := 8, ground := Ground.phase }, { on := 9, ground := Ground.phase }, { on := 10, ground := Ground.phase }, { on := 11, ground := Ground.phase }, { on := 12, ground := Ground.phase }, { on := 13, ground := Ground.phase }, { on := 14, ground := Ground.phase }, { on := 15, ground := Ground.phase }, { on := 16, ground := Ground.phase }], guard := none }) (v := .string C4) rfl (by kernel_rfl) (by kernel_rfl) (by kernel_rfl) (fun _ _ _ h => h) (Or.inl ⟨by rfl, fun w' hSw => by clear hSw; go_simp⟩) (by assumption) ?_
  simp only [Act.put, List.setIfInBounds_toArray, List.set_cons_zero, List.set_cons_succ]
  refine wpAnyH_take (i := 18) (oi := { dst := some 3, op := Op.assign (Operand.const (Value.int IntKind.i64 0)), type := 53, pos := "ref.go:21", after := #[{ on := 17, ground := Ground.chain }, { on := 0, ground := Ground.phase }, { on := 1, ground := Ground.phase }, { on := 2, ground := Ground.phase }, { on := 3, ground := Ground.phase }, { on := 4, ground := Ground.phase }, { on := 5, ground := Ground.phase }, { on := 6, ground := Ground.phase }, { on := 7, ground := Ground.phase }, { on := 8, ground := Ground.phase }, { on := 9, ground := Ground.phase }, { on := 10, ground := Ground.phase }, { on := 11, ground := Ground.phase }, { on := 12, ground := Ground.phase }, { on := 13, ground := Ground.phase }, { on := 14, ground := Ground.phase }, { on := 15, ground := Ground.phase }, { on := 16, ground := Ground.phase }, { on := 17, ground := Ground.phase }], guard := none }) (v := .int .i64 0) rfl (by kernel_rfl) (by kernel_rfl) (by kernel_rfl) (fun _ _ _ h => h) (Or.inl ⟨by rfl, fun w' hSw => by clear hSw; go_simp⟩) (by assumption) ?_
  simp only [Act.put, List.setIfInBounds_toArray, List.set_cons_zero, List.set_cons_succ]
  refine wpAnyH_done (by kernel_rfl) ?_ _
  refine NoPanic.normal ?_
  rw [Exit.then]
  go_wp2_with fail
  go_ret2
  exact ⟨by simp [HE.out], o2 HO.out HX4.out⟩
set_option maxRecDepth 100000 in
set_option maxHeartbeats 3200000 in
theorem tencode_true (t : Tu) (w : World) (h : t.ok = true) (hf : t.frozen = true) :
    Calls Tryz.prog 63 #[.agg #[.int .i64 t.xmin, .int .i64 t.xmax, .bool true, .string t.key, .string t.value]] w fun e w' => e = .returned (.tuple #[.string (str t.enc), .int .i64 0]) ∧ Only (fun _ => False) w w' := by
  have hk' := Tu.ok_iff.1 h
  have HK : Hid (t.key.size ≤ 24) := hk'.2.2.2.2.2.1
  have HV : Hid (t.value.size ≤ 64) := hk'.2.2.2.2.2.2
  obtain ⟨M, hM⟩ : ∃ M : ByteArray, (⟨#[mkB t.frozen]⟩ : ByteArray) = M := ⟨_, rfl⟩
  have sM : M.size = 1 := by rw [← hM]; rfl
  have eM : M = str [mkB t.frozen] := hM.symm
  obtain ⟨Y1, hY1⟩ : ∃ Y, str (bigF 2 t.xmin.toNat) = Y := ⟨_, rfl⟩
  have sY1 : Y1.size ≤ 2 := by rw [← hY1, str_size]; rw [bigF_len]; omega
  obtain ⟨C1, hC1⟩ : ∃ C, M ++ Y1 = C := ⟨_, rfl⟩
  have eC1 : C1 = str ([mkB t.frozen] ++ bigF 2 t.xmin.toNat) := by rw [← hC1, eM, ← hY1, str_catU]
  have sC1 : C1.size ≤ 3 := by rw [← hC1, ByteArray.size_append]; omega
  have yC1 : M.size + Y1.size ≤ 9223372036854775807 := by omega
  obtain ⟨Y2, hY2⟩ : ∃ Y, str (bigF 2 t.xmax.toNat) = Y := ⟨_, rfl⟩
  have sY2 : Y2.size ≤ 2 := by rw [← hY2, str_size]; rw [bigF_len]; omega
  obtain ⟨C2, hC2⟩ : ∃ C, C1 ++ Y2 = C := ⟨_, rfl⟩
  have eC2 : C2 = str (([mkB t.frozen] ++ bigF 2 t.xmin.toNat) ++ bigF 2 t.xmax.toNat) := by rw [← hC2, eC1, ← hY2, str_catU]
  have sC2 : C2.size ≤ 5 := by rw [← hC2, ByteArray.size_append]; omega
  have yC2 : C1.size + Y2.size ≤ 9223372036854775807 := by omega
  obtain ⟨Y3, hY3⟩ : ∃ Y, str (txL t.key) = Y := ⟨_, rfl⟩
  have sY3 : Y3.size ≤ 25 := by rw [← hY3, str_size]; have := txL_len t.key (by omega); omega
  obtain ⟨C3, hC3⟩ : ∃ C, C2 ++ Y3 = C := ⟨_, rfl⟩
  have eC3 : C3 = str ((([mkB t.frozen] ++ bigF 2 t.xmin.toNat) ++ bigF 2 t.xmax.toNat) ++ txL t.key) := by rw [← hC3, eC2, ← hY3, str_catU]
  have sC3 : C3.size ≤ 30 := by rw [← hC3, ByteArray.size_append]; omega
  have yC3 : C2.size + Y3.size ≤ 9223372036854775807 := by omega
  obtain ⟨Y4, hY4⟩ : ∃ Y, str (txL t.value) = Y := ⟨_, rfl⟩
  have sY4 : Y4.size ≤ 65 := by rw [← hY4, str_size]; have := txL_len t.value (by omega); omega
  obtain ⟨C4, hC4⟩ : ∃ C, C3 ++ Y4 = C := ⟨_, rfl⟩
  have eC4 : C4 = str (((([mkB t.frozen] ++ bigF 2 t.xmin.toNat) ++ bigF 2 t.xmax.toNat) ++ txL t.key) ++ txL t.value) := by rw [← hC4, eC3, ← hY4, str_catU]
  have sC4 : C4.size ≤ 95 := by rw [← hC4, ByteArray.size_append]; omega
  have yC4 : C3.size + Y4.size ≤ 9223372036854775807 := by omega
  have HE : Hid (C4 = str t.enc) := by
    unfold Hid
    rw [eC4]
    unfold Tu.enc
    simp
  have HC : Hid (∀ W, Calls Tryz.prog 105 #[.string t.key] W fun e w' => e = .returned (.bool true) ∧ w' = W) := fun W => by
    have := uright_any t.key W
    rwa [Tu.ok_key h] at this
  have HM : Hid ((⟨#[3]⟩ : ByteArray) = M) := by
    unfold Hid
    rw [← hM, hf]
    rfl
  have HG1 : Hid (∀ W, Calls Tryz.prog 108 #[.int .i64 t.xmin, .int .i64 2] W fun e w' => e = .returned (.string Y1) ∧ Only (fun _ => False) W w') := fun W => by
    have := refBig_any t.xmin.toNat 2 W (by omega) (by omega) (by omega)
    rw [i64_nat (by omega)] at this
    rw [← hY1]
    exact this
  have HG2 : Hid (∀ W, Calls Tryz.prog 108 #[.int .i64 t.xmax, .int .i64 2] W fun e w' => e = .returned (.string Y2) ∧ Only (fun _ => False) W w') := fun W => by
    have := refBig_any t.xmax.toNat 2 W (by omega) (by omega) (by omega)
    rw [i64_nat (by omega)] at this
    rw [← hY2]
    exact this
  have HG3 : Hid (∀ W, Calls Tryz.prog 109 #[.string t.key] W fun e w' => e = .returned (.string Y3) ∧ Only (fun _ => False) W w') := fun W => by
    rw [← hY3]
    exact refText_any W t.key (by omega)
  have HG4 : Hid (∀ W, Calls Tryz.prog 109 #[.string t.value] W fun e w' => e = .returned (.string Y4) ∧ Only (fun _ => False) W w') := fun W => by
    rw [← hY4]
    exact refText_any W t.value (by omega)
  have n1 : ¬ t.xmin < 1 := by omega
  have n2 : ¬ 1024 < t.xmin := by omega
  have n3 : ¬ t.xmax < 0 := by omega
  have n4 : ¬ 1024 < t.xmax := by omega
  have n5 : ¬ 64 < (t.value.size : Int) := by omega
  have HB0 := hide (Tb.new w t)
  rw [hf] at HB0
  clear hk' h hM eM hY1 hY2 hY3 hY4 eC1 eC2 eC3 eC4 sM sY1 sY2 sY3 sY4 sC1 sC2 sC3 sC4 HK HV
  obtain ⟨W0, hW0⟩ : ∃ x, w.alloc (.cells #[.int .i64 t.xmin, .int .i64 t.xmax, .bool true, .string t.key, .string t.value] 62) = x := ⟨_, rfl⟩
  have HO := hide (onlyA w (.cells #[.int .i64 t.xmin, .int .i64 t.xmax, .bool true, .string t.key, .string t.value] 62))
  have HW0 := hide hW0
  rw [hW0] at HB0 HO
  have HB := HB0
  clear hW0 HB0
  go_enter Tryz.func63, Tryz.ntmps63
  go_upto_region 6 with (go_at_call 105; refine (HC.out _).mono ?_; rintro e w' ⟨rfl, hw⟩; obtain rfl := hw.symm; clear hw)
  rw [HW0.out, HM.out]
  refine wp_region_noPanic ?_
  refine wp_region_held_drew (S := fun W => Only (fun _ => False) W0 W) (by kernel_rfl) (Only.drew _ _) (fun hHeld => ?_)
  refine wpAnyH_take (i := 0) (oi := { dst := some 37, op := Op.move (Operand.tmp 4), type := 9, pos := "ref.go:21", after := #[], guard := none }) (v := .string M) rfl (by kernel_rfl) (by kernel_rfl) (by kernel_rfl) (fun _ _ _ h => h) (Or.inl ⟨by rfl, fun w' hSw => by clear hSw; go_simp⟩) (by assumption) ?_
  simp only [Act.put, List.setIfInBounds_toArray, List.set_cons_zero, List.set_cons_succ]
  refine wpAnyH_take (i := 1) (oi := { dst := some 38, op := Op.fieldAddr 62 (Operand.tmp 1) 0, type := 0, pos := "ref.go:21", after := #[], guard := none }) (v := .pointer (some ⟨w.heap.size, 0, none⟩)) rfl (by kernel_rfl) (by kernel_rfl) (by kernel_rfl) (fun _ _ _ h => h) (Or.inl ⟨by rfl, fun w' hSw => by clear hSw; go_simp⟩) (by assumption) ?_
  simp only [Act.put, List.setIfInBounds_toArray, List.set_cons_zero, List.set_cons_succ]
  refine wpAnyH_take (i := 5) (oi := { dst := some 42, op := Op.fieldAddr 62 (Operand.tmp 1) 1, type := 0, pos := "ref.go:21", after := #[], guard := none }) (v := .pointer (some ⟨w.heap.size, 1, none⟩)) rfl (by kernel_rfl) (by kernel_rfl) (by kernel_rfl) (fun _ _ _ h => h) (Or.inl ⟨by rfl, fun w' hSw => by clear hSw; go_simp⟩) (by assumption) ?_
  simp only [Act.put, List.setIfInBounds_toArray, List.set_cons_zero, List.set_cons_succ]
  refine wpAnyH_take (i := 9) (oi := { dst := some 46, op := Op.fieldAddr 62 (Operand.tmp 1) 3, type := 0, pos := "ref.go:21", after := #[], guard := none }) (v := .pointer (some ⟨w.heap.size, 3, none⟩)) rfl (by kernel_rfl) (by kernel_rfl) (by kernel_rfl) (fun _ _ _ h => h) (Or.inl ⟨by rfl, fun w' hSw => by clear hSw; go_simp⟩) (by assumption) ?_
  simp only [Act.put, List.setIfInBounds_toArray, List.set_cons_zero, List.set_cons_succ]
  refine wpAnyH_take (i := 13) (oi := { dst := some 50, op := Op.fieldAddr 62 (Operand.tmp 1) 4, type := 0, pos := "ref.go:21", after := #[], guard := none }) (v := .pointer (some ⟨w.heap.size, 4, none⟩)) rfl (by kernel_rfl) (by kernel_rfl) (by kernel_rfl) (fun _ _ _ h => h) (Or.inl ⟨by rfl, fun w' hSw => by clear hSw; go_simp⟩) (by assumption) ?_
  simp only [Act.put, List.setIfInBounds_toArray, List.set_cons_zero, List.set_cons_succ]
  refine wpAnyH_take (i := 2) (oi := { dst := some 39, op := Op.load 3 (Operand.tmp 38), type := 3, pos := "ref.go:21", after := #[{ on := 1, ground := Ground.data }], guard := none }) (v := .int .i64 t.xmin) rfl (by kernel_rfl) (by kernel_rfl) (by kernel_rfl) (fun _ _ _ h => h) (yieldsIf_load_cell (by rfl) 3 _ rfl _ rfl (fun W hW => (HB.out.more hW).c0) (fun W hc => ld_int hc)) (by assumption) ?_
  simp only [Act.put, List.setIfInBounds_toArray, List.set_cons_zero, List.set_cons_succ]
  refine wpAnyH_take (i := 6) (oi := { dst := some 43, op := Op.load 3 (Operand.tmp 42), type := 3, pos := "ref.go:21", after := #[{ on := 5, ground := Ground.data }], guard := none }) (v := .int .i64 t.xmax) rfl (by kernel_rfl) (by kernel_rfl) (by kernel_rfl) (fun _ _ _ h => h) (yieldsIf_load_cell (by rfl) 3 _ rfl _ rfl (fun W hW => (HB.out.more hW).c1) (fun W hc => ld_int hc)) (by assumption) ?_
  simp only [Act.put, List.setIfInBounds_toArray, List.set_cons_zero, List.set_cons_succ]
  refine wpAnyH_take (i := 10) (oi := { dst := some 47, op := Op.load 9 (Operand.tmp 46), type := 9, pos := "ref.go:21", after := #[{ on := 9, ground := Ground.data }], guard := none }) (v := .string t.key) rfl (by kernel_rfl) (by kernel_rfl) (by kernel_rfl) (fun _ _ _ h => h) (yieldsIf_load_cell (by rfl) 9 _ rfl _ rfl (fun W hW => (HB.out.more hW).c3) (fun W hc => ld_string hc)) (by assumption) ?_
  simp only [Act.put, List.setIfInBounds_toArray, List.set_cons_zero, List.set_cons_succ]
  refine wpAnyH_take (i := 14) (oi := { dst := some 51, op := Op.load 9 (Operand.tmp 50), type := 9, pos := "ref.go:21", after := #[{ on := 13, ground := Ground.data }], guard := none }) (v := .string t.value) rfl (by kernel_rfl) (by kernel_rfl) (by kernel_rfl) (fun _ _ _ h => h) (yieldsIf_load_cell (by rfl) 9 _ rfl _ rfl (fun W hW => (HB.out.more hW).c4) (fun W hc => ld_string hc)) (by assumption) ?_
  simp only [Act.put, List.setIfInBounds_toArray, List.set_cons_zero, List.set_cons_succ]
  refine wpAnyH_ready (rs := [3]) (by kernel_rfl) (by simp) ?_
  refine AllReadyH.cons (o := { dst := some 40, op := Op.call { callee := Callee.value (Operand.func 108), args := #[Operand.tmp 39, Operand.const (Value.int IntKind.i64 2)], argTypes := #[3, 3] }, type := 9, pos := "ref.go:21", after := #[{ on := 2, ground := Ground.data }], guard := none }) rfl (fun K hK => ?_) (AllReadyH.nil)
  go_simp
  refine (HG1.out _).mono ?_
  rintro e x1 ⟨rfl, hx1⟩
  have HX1 := hide (o2 (Only.drew _ _) hx1)
  clear hx1
  refine hK.out _ _ (HX1.out) (fun hHeld => ?_)
  clear hK K
  try simp only [Act.put, List.setIfInBounds_toArray, List.set_cons_zero, List.set_cons_succ]
  refine wpAnyH_take (i := 4) (oi := { dst := some 41, op := Op.binOp BinOp.add 9 (Operand.tmp 37) (Operand.tmp 40) 9, type := 9, pos := "ref.go:21", after := #[{ on := 0, ground := Ground.data }, { on := 3, ground := Ground.data }], guard := none }) (v := .string C1) rfl (by kernel_rfl) (by kernel_rfl) (by kernel_rfl) (fun _ _ _ h => h) (Or.inl ⟨by rfl, fun w' hSw => by clear hSw; go_simp⟩) (by assumption) ?_
  simp only [Act.put, List.setIfInBounds_toArray, List.set_cons_zero, List.set_cons_succ]
  refine wpAnyH_ready (rs := [7]) (by kernel_rfl) (by simp) ?_
  refine AllReadyH.cons (o := { dst := some 44, op := Op.call { callee := Callee.value (Operand.func 108), args := #[Operand.tmp 43, Operand.const (Value.int IntKind.i64 2)], argTypes := #[3, 3] }, type := 9, pos := "ref.go:21", after := #[{ on := 6, ground := Ground.data }, { on := 3, ground := Ground.chain }], guard := none }) rfl (fun K hK => ?_) (AllReadyH.nil)
  go_simp
  refine (HG2.out _).mono ?_
  rintro e x2 ⟨rfl, hx2⟩
  have HX2 := hide (o2 HX1.out hx2)
  clear hx2
  refine hK.out _ _ (HX2.out) (fun hHeld => ?_)
  clear hK K
  try simp only [Act.put, List.setIfInBounds_toArray, List.set_cons_zero, List.set_cons_succ]
  refine wpAnyH_take (i := 8) (oi := { dst := some 45, op := Op.binOp BinOp.add 9 (Operand.tmp 41) (Operand.tmp 44) 9, type := 9, pos := "ref.go:21", after := #[{ on := 4, ground := Ground.data }, { on := 7, ground := Ground.data }], guard := none }) (v := .string C2) rfl (by kernel_rfl) (by kernel_rfl) (by kernel_rfl) (fun _ _ _ h => h) (Or.inl ⟨by rfl, fun w' hSw => by clear hSw; go_simp⟩) (by assumption) ?_
  simp only [Act.put, List.setIfInBounds_toArray, List.set_cons_zero, List.set_cons_succ]
  refine wpAnyH_ready (rs := [11]) (by kernel_rfl) (by simp) ?_
  refine AllReadyH.cons (o := { dst := some 48, op := Op.call { callee := Callee.value (Operand.func 109), args := #[Operand.tmp 47], argTypes := #[9] }, type := 9, pos := "ref.go:21", after := #[{ on := 10, ground := Ground.data }, { on := 7, ground := Ground.chain }], guard := none }) rfl (fun K hK => ?_) (AllReadyH.nil)
  go_simp
  refine (HG3.out _).mono ?_
  rintro e x3 ⟨rfl, hx3⟩
  have HX3 := hide (o2 HX2.out hx3)
  clear hx3
  refine hK.out _ _ (HX3.out) (fun hHeld => ?_)
  clear hK K
  try simp only [Act.put, List.setIfInBounds_toArray, List.set_cons_zero, List.set_cons_succ]
  refine wpAnyH_take (i := 12) (oi := { dst := some 49, op := Op.binOp BinOp.add 9 (Operand.tmp 45) (Operand.tmp 48) 9, type := 9, pos := "ref.go:21", after := #[{ on := 8, ground := Ground.data }, { on := 11, ground := Ground.data }], guard := none }) (v := .string C3) rfl (by kernel_rfl) (by kernel_rfl) (by kernel_rfl) (fun _ _ _ h => h) (Or.inl ⟨by rfl, fun w' hSw => by clear hSw; go_simp⟩) (by assumption) ?_
  simp only [Act.put, List.setIfInBounds_toArray, List.set_cons_zero, List.set_cons_succ]
  refine wpAnyH_ready (rs := [15]) (by kernel_rfl) (by simp) ?_
  refine AllReadyH.cons (o := { dst := some 52, op := Op.call { callee := Callee.value (Operand.func 109), args := #[Operand.tmp 51], argTypes := #[9] }, type := 9, pos := "ref.go:21", after := #[{ on := 14, ground := Ground.data }, { on := 11, ground := Ground.chain }], guard := none }) rfl (fun K hK => ?_) (AllReadyH.nil)
  go_simp
  refine (HG4.out _).mono ?_
  rintro e x4 ⟨rfl, hx4⟩
  have HX4 := hide (o2 HX3.out hx4)
  clear hx4
  refine hK.out _ _ (HX4.out) (fun hHeld => ?_)
  clear hK K
  try simp only [Act.put, List.setIfInBounds_toArray, List.set_cons_zero, List.set_cons_succ]
  refine wpAnyH_take (i := 16) (oi := { dst := some 53, op := Op.binOp BinOp.add 9 (Operand.tmp 49) (Operand.tmp 52) 9, type := 9, pos := "ref.go:21", after := #[{ on := 12, ground := Ground.data }, { on := 15, ground := Ground.data }], guard := none }) (v := .string C4) rfl (by kernel_rfl) (by kernel_rfl) (by kernel_rfl) (fun _ _ _ h => h) (Or.inl ⟨by rfl, fun w' hSw => by clear hSw; go_simp⟩) (by assumption) ?_
  simp only [Act.put, List.setIfInBounds_toArray, List.set_cons_zero, List.set_cons_succ]
  refine wpAnyH_take (i := 17) (oi := { dst := some 2, op := Op.assign (Operand.tmp 53), type := 9, pos := "ref.go:21", after := #[{ on := 16, ground := Ground.data }, { on := 15, ground := Ground.chain }, { on := 0, ground := Ground.phase }, { on := 1, ground := Ground.phase }, { on := 2, ground := Ground.phase }, { on := 3, ground := Ground.phase }, { on := 4, ground := Ground.phase }, { on := 5, ground := Ground.phase }, { on := 6, ground := Ground.phase }, { on := 7, ground := Ground.phase }, { on := 8, ground := Ground.phase }, { on := 9, ground := Ground.phase }, { on := 10, ground := Ground.phase }, { on := 11, ground := Ground.phase }, { on := 12, ground := Ground.phase }, { on := 13, ground := Ground.phase }, { on := 14, ground := Ground.phase }, { on := 15, ground := Ground.phase }, { on := 16, ground := Ground.phase }], guard := none }) (v := .string C4) rfl (by kernel_rfl) (by kernel_rfl) (by kernel_rfl) (fun _ _ _ h => h) (Or.inl ⟨by rfl, fun w' hSw => by clear hSw; go_simp⟩) (by assumption) ?_
  simp only [Act.put, List.setIfInBounds_toArray, List.set_cons_zero, List.set_cons_succ]
  refine wpAnyH_take (i := 18) (oi := { dst := some 3, op := Op.assign (Operand.const (Value.int IntKind.i64 0)), type := 53, pos := "ref.go:21", after := #[{ on := 17, ground := Ground.chain }, { on := 0, ground := Ground.phase }, { on := 1, ground := Ground.phase }, { on := 2, ground := Ground.phase }, { on := 3, ground := Ground.phase }, { on := 4, ground := Ground.phase }, { on := 5, ground := Ground.phase }, { on := 6, ground := Ground.phase }, { on := 7, ground := Ground.phase }, { on := 8, ground := Ground.phase }, { on := 9, ground := Ground.phase }, { on := 10, ground := Ground.phase }, { on := 11, ground := Ground.phase }, { on := 12, ground := Ground.phase }, { on := 13, ground := Ground.phase }, { on := 14, ground := Ground.phase }, { on := 15, ground := Ground.phase }, { on := 16, ground := Ground.phase }, { on := 17, ground := Ground.phase }], guard := none }) (v := .int .i64 0) rfl (by kernel_rfl) (by kernel_rfl) (by kernel_rfl) (fun _ _ _ h => h) (Or.inl ⟨by rfl, fun w' hSw => by clear hSw; go_simp⟩) (by assumption) ?_
  simp only [Act.put, List.setIfInBounds_toArray, List.set_cons_zero, List.set_cons_succ]
  refine wpAnyH_done (by kernel_rfl) ?_ _
  refine NoPanic.normal ?_
  rw [Exit.then]
  go_wp2_with fail
  go_ret2
  exact ⟨by simp [HE.out], o2 HO.out HX4.out⟩
/-- What Encode answers. -/
def Tu.out (t : Tu) : List UInt8 := if t.ok then t.enc else []
def Tu.err (t : Tu) : Int := if t.ok then 0 else 110
theorem uencode_any (t : Tu) (w : World) (h0 : -9223372036854775808 ≤ t.xmin ∧ t.xmin < 9223372036854775808) (h1 : -9223372036854775808 ≤ t.xmax ∧ t.xmax < 9223372036854775808) :
    Calls Tryz.prog 21 #[t.agg] w fun e w' => e = .returned (.tuple #[.string (str t.out), .int .i64 t.err]) ∧ Only (fun _ => False) w w' := by
  unfold Tu.out Tu.err
  cases h : t.ok
  · exact uencode_bad t w h0 h1 h
  · exact uencode_ok t w h
theorem tencode_any (t : Tu) (w : World) (h0 : -9223372036854775808 ≤ t.xmin ∧ t.xmin < 9223372036854775808) (h1 : -9223372036854775808 ≤ t.xmax ∧ t.xmax < 9223372036854775808) :
    Calls Tryz.prog 63 #[t.agg] w fun e w' => e = .returned (.tuple #[.string (str t.out), .int .i64 t.err]) ∧ Only (fun _ => False) w w' := by
  unfold Tu.out Tu.err
  cases h : t.ok
  · exact tencode_bad t w h0 h1 h
  · cases hf : t.frozen
    · have := tencode_false t w h hf
      unfold Tu.agg
      rw [hf]
      exact this
    · have := tencode_true t w h hf
      unfold Tu.agg
      rw [hf]
      exact this
/-- A text taken, if nothing was wrong before. -/
def stx (z : Int) (l : List UInt8) (x : Int) : List UInt8 × List UInt8 × Int := if x = 0 then rdT z l else ([], l, x)
theorem rdTT_stx (l : List UInt8) : rdTT l = ((rdT 24 l).1, (stx 64 (rdT 24 l).2.1 (rdT 24 l).2.2).1, (stx 64 (rdT 24 l).2.1 (rdT 24 l).2.2).2.1, (stx 64 (rdT 24 l).2.1 (rdT 24 l).2.2).2.2) := by
  unfold rdTT stx
  split <;> rfl
theorem rtext_st (w : World) (r : Nat) (s : ByteArray) (x z : Int) (hR : Rd w r s x) :
    Calls Tryz.prog 99 #[.pointer (some ⟨r, 0, none⟩), .int .i64 z] w fun e w' => e = .returned (.string (str (stx z (bl s) x).1)) ∧ Rd w' r (str (stx z (bl s) x).2.1) (stx z (bl s) x).2.2 ∧ Only (fun k => k = r) w w' := by
  unfold stx
  by_cases hx : x = 0
  · subst hx
    rw [if_pos rfl]
    refine (rtext_any w r s z hR).mono ?_
    rintro e w' ⟨he, h1, h2⟩
    exact ⟨he, h1, h2⟩
  · rw [if_neg hx]
    refine (rtext_err w r x z hR.c1 (by simpa using hx)).mono ?_
    rintro e w' ⟨he, rfl⟩
    refine ⟨he, ?_, Only.refl _ _⟩
    simp only [str_bl]
    exact hR
theorem rend_st (w : World) (r : Nat) (s : ByteArray) (x : Int) (hR : Rd w r s x) :
    Calls Tryz.prog 100 #[.pointer (some ⟨r, 0, none⟩)] w fun e w' => e = .returned (.int .i64 (endE (bl s) x)) ∧ w' = w := by
  unfold endE
  by_cases hx : x = 0
  · subst hx
    rw [if_pos rfl, bl_len]
    exact rend_ok w r s hR.c1 hR.c0
  · rw [if_neg hx]
    exact rend_err w r x hR.c1 (by simpa using hx)
theorem of_two (s : ByteArray) (i : Nat) (h : i + 2 ≤ s.size) (w : World) : Calls Tryz.prog 98 #[.string (s.extract i (i + 2))] w fun e w' => e = .returned (.int .i64 (ofTo (((bl s).drop i).take 2))) ∧ w' = w := by
  have hl := bl_len s
  have e1 : (s.extract i (i + 2)).data.toList = ((bl s).drop i).take 2 := by
    have := ext_blU s i (i + 2)
    rwa [show i + 2 - i = 2 by omega] at this
  have l2 : (((bl s).drop i).take 2).length = 2 := by simp; omega
  have hb := ofTo_small (((bl s).drop i).take 2) (by omega)
  rw [l2] at hb
  have hz : (s.extract i (i + 2)).size = 2 := by rw [← bl_len]; exact (congrArg List.length e1).trans l2
  have := of_any (s.extract i (i + 2)) w (by rw [hz]; decide)
  rw [e1, Int.emod_eq_of_lt hb.1 (by omega)] at this
  exact this
set_option maxRecDepth 100000 in
set_option maxHeartbeats 1600000 in
theorem udecode_head (s : ByteArray) (w : World) (h : headed (bl s) = false) :
    Calls Tryz.prog 53 #[.string s] w fun e w' => e = .returned (.tuple #[noT.agg, .int .i64 110]) ∧ Only (fun _ => False) w w' := by
  have HB := hide (Tb.new w noT)
  have HO := hide (onlyA w (.cells #[.int .i64 0, .int .i64 0, .bool false, .string ⟨#[]⟩, .string ⟨#[]⟩] 62))
  have hl := bl_len s
  by_cases h5 : 5 ≤ s.size
  · obtain ⟨a, r, h1, h2, h3⟩ := ext_first s (by omega)
    have hm : (a == 1 || a == 3) = false := by
      unfold headed marked at h
      rw [h1] at h hl
      simpa [show 4 ≤ r.length by simp at hl; omega] using h
    have HM : Hid (∀ W, Calls Tryz.prog 96 #[.string (s.extract 0 1)] W fun e w' => e = .returned (.bool false) ∧ w' = W) := fun W => by
      rw [h2, ← hm]
      exact isMark_any a W
    have t5 : (5 : Int) ≤ (s.size : Int) := by omega
    clear h hl h1 h2 h3 hm h5
    go_enter Tryz.func53, Tryz.ntmps53
    go_wp2_with fail
    refine (HM.out _).mono ?_
    rintro e w1 ⟨rfl, rfl⟩
    go_wp2_with fail
    refine bodyPost_ret (results_tub rfl rfl HB.out) rfl ?_
    exact ⟨rfl, HO.out⟩
  · have t5 : (s.size : Int) < 5 := by omega
    clear h hl h5
    go_enter Tryz.func53, Tryz.ntmps53
    go_wp2_with fail
    refine bodyPost_ret (results_tub rfl rfl HB.out) rfl ?_
    exact ⟨rfl, HO.out⟩
-- {good
/-- The variables of Decode: what it answers, its reader, the version that it fills. -/
structure Dst (w W : World) (D : ByteArray) (x : Int) (t : Tu) : Prop where
  res : Tb W w.heap.size noT
  rd : Rd W (w.heap.size + 1) D x
  tb : Tb W (w.heap.size + 1 + 1) t
  only : Only (fun _ => False) w W
theorem Dst.new (w : World) (D : ByteArray) (f : Bool) : Dst w (((w.alloc (.cells #[.int .i64 0, .int .i64 0, .bool false, .string ⟨#[]⟩, .string ⟨#[]⟩] 62)).alloc (.cells #[.string D, .int .i64 0] 179)).alloc (.cells #[.int .i64 0, .int .i64 0, .bool f, .string ⟨#[]⟩, .string ⟨#[]⟩] 62)) D 0 ⟨0, 0, f, ⟨#[]⟩, ⟨#[]⟩⟩ := by
  refine ⟨((Tb.new w noT).more (onlyA _ _)).more (onlyA _ _), ?_, ?_, o2 (o2 (onlyA _ _) (onlyA _ _)) (onlyA _ _)⟩
  · have := (Rd.new (w.alloc (.cells #[.int .i64 0, .int .i64 0, .bool false, .string ⟨#[]⟩, .string ⟨#[]⟩] 62)) D).alloc (.cells #[.int .i64 0, .int .i64 0, .bool f, .string ⟨#[]⟩, .string ⟨#[]⟩] 62)
    rw [World.size_alloc] at this
    exact this
  · have := Tb.new ((w.alloc (.cells #[.int .i64 0, .int .i64 0, .bool false, .string ⟨#[]⟩, .string ⟨#[]⟩] 62)).alloc (.cells #[.string D, .int .i64 0] 179)) ⟨0, 0, f, ⟨#[]⟩, ⟨#[]⟩⟩
    rw [World.size_alloc, World.size_alloc] at this
    exact this
theorem Dst.drew {w W : World} {D : ByteArray} {x : Int} {t : Tu} (h : Dst w W D x t) : Dst w W.drew D x t :=
  ⟨h.res.more (Only.drew _ _), h.rd.kept (Only.drew (fun _ => False) _) (fun h => h), h.tb.more (Only.drew _ _), o2 h.only (Only.drew _ _)⟩
theorem Dst.set {w W : World} {D : ByteArray} {x : Int} {t t' : Tu} (h : Dst w W D x t) (i : Nat) (v : Value) (ht : Tb (W.setCell ⟨w.heap.size + 1 + 1, i, none⟩ v) (w.heap.size + 1 + 1) t') : Dst w (W.setCell ⟨w.heap.size + 1 + 1, i, none⟩ v) D x t' := by
  have ho : Only (fun k => k = w.heap.size + 1 + 1) W (W.setCell ⟨w.heap.size + 1 + 1, i, none⟩ v) := Only.setCell W _ v rfl
  exact ⟨h.res.kept ho (by omega), h.rd.kept ho (by omega), ht, h.only.trans ho (fun j hj e => by omega)⟩
theorem Dst.text {w W W' : World} {D D' : ByteArray} {x x' : Int} {t : Tu} (h : Dst w W D x t) (hr : Rd W' (w.heap.size + 1) D' x') (ho : Only (fun k => k = w.heap.size + 1) W W') : Dst w W' D' x' t :=
  ⟨h.res.kept ho (by omega), hr, h.tb.kept ho (by omega), h.only.trans ho (fun j hj e => by omega)⟩
theorem Dst.more {w W W' : World} {D : ByteArray} {x : Int} {t : Tu} (h : Dst w W D x t) (ho : Only (fun _ => False) W W') : Dst w W' D x t :=
  ⟨h.res.more ho, h.rd.kept ho (fun h => h), h.tb.more ho, o2 h.only ho⟩
/-- What Decode answers. -/
def outT (o : Option Tu) : Value := .tuple #[(o.getD noT).agg, .int .i64 (if o.isSome then 0 else 110)]
set_option maxRecDepth 100000 in
set_option maxHeartbeats 3200000 in
theorem udecode_good (s : ByteArray) (w : World) (h : headed (bl s) = true) :
    Calls Tryz.prog 53 #[.string s] w fun e w' => e = .returned (outT (decT (bl s))) ∧ Only (fun _ => False) w w' := by
  have hl := bl_len s
  have h' := h
  unfold headed marked at h'
  simp only [Bool.and_eq_true, decide_eq_true_eq] at h'
  obtain ⟨h5, hm0⟩ := h'
  obtain ⟨a, r, h1, h2, h3⟩ := ext_first s (by omega)
  have hm : (a == 1 || a == 3) = true := by
    rw [h1] at hm0
    simpa using hm0
  have HM : Hid (∀ W, Calls Tryz.prog 96 #[.string (s.extract 0 1)] W fun e w' => e = .returned (.bool true) ∧ w' = W) := fun W => by
    rw [h2, ← hm]
    exact isMark_any a W
  have t5 : (5 : Int) ≤ (s.size : Int) := by omega
  have t3 : (3 : Int) ≤ (s.size : Int) := by omega
  have hfz : ((s.extract 0 1).toList == [3]) = ((bl s).head? == some 3) := by
    rw [h2, h1]
    simp [ByteArray.toList_eq]
  obtain ⟨D, hD⟩ : ∃ D, s.extract 5 s.size = D := ⟨_, rfl⟩
  have bD : bl D = (bl s).drop 5 := by rw [← hD, ext_blU]; exact List.take_of_length_le (by simp)
  obtain ⟨fz, efz⟩ : ∃ f, ((bl s).head? == some 3) = f := ⟨_, rfl⟩
  rw [efz] at hfz
  obtain ⟨q1, hq1⟩ : ∃ q, ofTo (((bl s).drop 1).take 2) = q := ⟨_, rfl⟩
  obtain ⟨q2, hq2⟩ : ∃ q, ofTo (((bl s).drop 3).take 2) = q := ⟨_, rfl⟩
  have bq : (0 ≤ q1 ∧ q1 < 65536) ∧ (0 ≤ q2 ∧ q2 < 65536) := by
    have e1 := ofTo_small (((bl s).drop 1).take 2) (by simp; omega)
    have e2 := ofTo_small (((bl s).drop 3).take 2) (by simp; omega)
    have l1 : (((bl s).drop 1).take 2).length = 2 := by simp; omega
    have l2 : (((bl s).drop 3).take 2).length = 2 := by simp; omega
    rw [l1, hq1] at e1
    rw [l2, hq2] at e2
    omega
  have HOF1 : Hid (∀ W, Calls Tryz.prog 98 #[.string (s.extract 1 3)] W fun e w' => e = .returned (.int .i64 q1) ∧ w' = W) := fun W => by
    rw [← hq1]
    exact of_two s 1 (by omega) W
  have HOF2 : Hid (∀ W, Calls Tryz.prog 98 #[.string (s.extract 3 5)] W fun e w' => e = .returned (.int .i64 q2) ∧ w' = W) := fun W => by
    rw [← hq2]
    exact of_two s 3 (by omega) W
  obtain ⟨A1, hA1⟩ : ∃ A, s.extract 1 3 = A := ⟨_, rfl⟩
  obtain ⟨A2, hA2⟩ : ∃ A, s.extract 3 5 = A := ⟨_, rfl⟩
  rw [hA1] at HOF1
  rw [hA2] at HOF2
  obtain ⟨P, hP⟩ : ∃ P, stx 24 (bl D) 0 = P := ⟨_, rfl⟩
  obtain ⟨R, hR⟩ : ∃ R, stx 64 P.2.1 P.2.2 = R := ⟨_, rfl⟩
  have HRAW : Hid (rawT (bl s) = ⟨q1, q2, fz, str P.1, str R.1⟩ ∧ endT ((bl s).drop 5) = endE R.2.1 R.2.2) := by
    have e0 : rdT 24 ((bl s).drop 5) = P := by rw [← hP, bD]; rfl
    have e1 := rdTT_stx ((bl s).drop 5)
    rw [e0, hR] at e1
    unfold rawT endT
    rw [e1, hq1, hq2, efz]
    exact ⟨rfl, rfl⟩
  have HP : Hid (stx 24 (bl D) 0 = P) := hP
  have HR : Hid (stx 64 P.2.1 P.2.2 = R) := hR
  have HD := hide hD
  have HH := hide h
  obtain ⟨K1, hK1⟩ : ∃ k, str P.1 = k := ⟨_, rfl⟩
  obtain ⟨V1, hV1⟩ : ∃ k, str R.1 = k := ⟨_, rfl⟩
  rw [hK1, hV1] at HRAW
  have HK1 := hide hK1
  have HV1 := hide hV1
  obtain ⟨E, hE⟩ : ∃ E, endE R.2.1 R.2.2 = E := ⟨_, rfl⟩
  rw [hE] at HRAW
  have HE := hide hE
  obtain ⟨O, hO⟩ : ∃ O, Tu.ok ⟨q1, q2, fz, K1, V1⟩ = O := ⟨_, rfl⟩
  have HOK : Hid (∀ W, Calls Tryz.prog 50 #[.agg #[.int .i64 q1, .int .i64 q2, .bool fz, .string K1, .string V1]] W fun e w' => e = .returned (.bool O) ∧ Only (fun _ => False) W w') := fun W => by
    rw [← hO]
    exact isVersion_any ⟨q1, q2, fz, K1, V1⟩ W ⟨by simp only; omega, by simp only; omega⟩ ⟨by simp only; omega, by simp only; omega⟩
  have HDE : Hid (decT (bl s) = if E = 0 ∧ O = true then some ⟨q1, q2, fz, K1, V1⟩ else none) := by
    unfold Hid decT goodT
    rw [HRAW.out.1, HRAW.out.2, h, hO]
    by_cases e1 : E = 0 <;> cases O <;> simp [e1]
  clear h1 h2 h3 hm hm0 efz hD bD h hl hP hR hK1 hV1 hE hO hq1 hq2 h5 bq HRAW
  go_enter Tryz.func53, Tryz.ntmps53
  go_wp2_with fail
  refine (HM.out _).mono ?_
  rintro e w1 ⟨rfl, rfl⟩
  go_wp2_with fail
  rw [HD.out]
  refine (read_any D _).mono ?_
  rintro e w2 ⟨rfl, rfl⟩
  go_upto_region 5 with fail
  have H0 := hide (Dst.new w D fz)
  obtain ⟨W0, hW0⟩ : ∃ x, ((w.alloc (.cells #[.int .i64 0, .int .i64 0, .bool false, .string ⟨#[]⟩, .string ⟨#[]⟩] 62)).alloc (.cells #[.string D, .int .i64 0] 179)).alloc (.cells #[.int .i64 0, .int .i64 0, .bool fz, .string ⟨#[]⟩, .string ⟨#[]⟩] 62) = x := ⟨_, rfl⟩
  rw [hW0] at H0 ⊢
  clear hW0
  have c0 := H0.out.tb.c0
  have f0 := H0.out.tb.f0
  have c1 := H0.out.tb.c1
  have f1 := H0.out.tb.f1
  refine wp_region_noPanic ?_
  refine wp_region_held_drew (S := fun W => Only (fun k => k = w.heap.size + 1 + 1) W0 W) (by kernel_rfl) (Only.drew _ _) (fun hHeld => ?_)
  refine wpAnyH_take (i := 0) (oi := { dst := some 23, op := Op.move (Operand.tmp 0), type := 9, pos := "tuple.go:45", after := #[], guard := none }) (v := .string s) rfl (by kernel_rfl) (by kernel_rfl) (by kernel_rfl) (fun _ _ _ h => h) (Or.inl ⟨by rfl, fun w' hSw => by clear hSw; go_simp⟩) (by assumption) ?_
  simp only [Act.put, List.setIfInBounds_toArray, List.set_cons_zero, List.set_cons_succ]
  refine wpAnyH_take (i := 3) (oi := { dst := some 26, op := Op.move (Operand.tmp 0), type := 9, pos := "tuple.go:45", after := #[], guard := none }) (v := .string s) rfl (by kernel_rfl) (by kernel_rfl) (by kernel_rfl) (fun _ _ _ h => h) (Or.inl ⟨by rfl, fun w' hSw => by clear hSw; go_simp⟩) (by assumption) ?_
  simp only [Act.put, List.setIfInBounds_toArray, List.set_cons_zero, List.set_cons_succ]
  refine wpAnyH_take (i := 1) (oi := { dst := some 24, op := Op.slice 9 (Operand.tmp 23) (some (Operand.const (Value.int IntKind.i64 1))) (some (Operand.const (Value.int IntKind.i64 3))) none, type := 9, pos := "tuple.go:45", after := #[{ on := 0, ground := Ground.data }], guard := none }) (v := .string A1) rfl (by kernel_rfl) (by kernel_rfl) (by kernel_rfl) (fun _ _ _ h => h) (Or.inl ⟨by rfl, fun w' hSw => by clear hSw; go_simp⟩) (by assumption) ?_
  simp only [Act.put, List.setIfInBounds_toArray, List.set_cons_zero, List.set_cons_succ]
  refine wpAnyH_take (i := 4) (oi := { dst := some 27, op := Op.slice 9 (Operand.tmp 26) (some (Operand.const (Value.int IntKind.i64 3))) (some (Operand.const (Value.int IntKind.i64 5))) none, type := 9, pos := "tuple.go:45", after := #[{ on := 3, ground := Ground.data }], guard := none }) (v := .string A2) rfl (by kernel_rfl) (by kernel_rfl) (by kernel_rfl) (fun _ _ _ h => h) (Or.inl ⟨by rfl, fun w' hSw => by clear hSw; go_simp⟩) (by assumption) ?_
  simp only [Act.put, List.setIfInBounds_toArray, List.set_cons_zero, List.set_cons_succ]
  refine wpAnyH_ready (rs := [2]) (by kernel_rfl) (by simp) ?_
  refine AllReadyH.cons (o := { dst := some 25, op := Op.call { callee := Callee.value (Operand.func 98), args := #[Operand.tmp 24], argTypes := #[9] }, type := 3, pos := "tuple.go:45", after := #[{ on := 1, ground := Ground.data }], guard := none }) rfl (fun K hK => ?_) (AllReadyH.nil)
  go_simp
  refine (HOF1.out _).mono ?_
  rintro e _ ⟨rfl, rfl⟩
  refine hK.out _ _ (Only.drew _ _) (fun hHeld => ?_)
  clear hK K
  try simp only [Act.put, List.setIfInBounds_toArray, List.set_cons_zero, List.set_cons_succ]
  refine wpAnyH_take (i := 6) (oi := { dst := some 29, op := Op.fieldAddr 62 (Operand.tmp 5) 0, type := 0, pos := "tuple.go:45", after := #[{ on := 0, ground := Ground.phase }, { on := 1, ground := Ground.phase }, { on := 2, ground := Ground.phase }, { on := 3, ground := Ground.textOnly Departure.lateStores }, { on := 4, ground := Ground.textOnly Departure.lateStoresUnsure }, { on := 5, ground := Ground.textOnly Departure.lateStoresUnsure }], guard := none }) (v := .pointer (some ⟨w.heap.size + 1 + 1, 0, none⟩)) rfl (by kernel_rfl) (by kernel_rfl) (by kernel_rfl) (fun _ _ _ h => h) (Or.inl ⟨by rfl, fun w' hSw => by clear hSw; go_simp⟩) (by assumption) ?_
  simp only [Act.put, List.setIfInBounds_toArray, List.set_cons_zero, List.set_cons_succ]
  refine wpAnyH_ready (rs := [5]) (by kernel_rfl) (by simp) ?_
  refine AllReadyH.cons (o := { dst := some 28, op := Op.call { callee := Callee.value (Operand.func 98), args := #[Operand.tmp 27], argTypes := #[9] }, type := 3, pos := "tuple.go:45", after := #[{ on := 4, ground := Ground.data }, { on := 2, ground := Ground.chain }], guard := none }) rfl (fun K hK => ?_) (AllReadyH.nil)
  go_simp
  refine (HOF2.out _).mono ?_
  rintro e _ ⟨rfl, rfl⟩
  refine hK.out _ _ (Only.drew _ _) (fun hHeld => ?_)
  clear hK K
  try simp only [Act.put, List.setIfInBounds_toArray, List.set_cons_zero, List.set_cons_succ]
  refine wpAnyH_ready (rs := [7]) (by kernel_rfl) (by simp) ?_
  refine AllReadyH.cons (o := { dst := none, op := Op.store 3 (Operand.tmp 29) (Operand.tmp 25), type := 0, pos := "tuple.go:45", after := #[{ on := 6, ground := Ground.data }, { on := 2, ground := Ground.data }, { on := 5, ground := Ground.chain }, { on := 0, ground := Ground.phase }, { on := 1, ground := Ground.phase }, { on := 2, ground := Ground.phase }, { on := 3, ground := Ground.textOnly Departure.lateStores }, { on := 4, ground := Ground.textOnly Departure.lateStoresUnsure }, { on := 5, ground := Ground.textOnly Departure.lateStoresUnsure }], guard := none }) rfl (fun K hK => ?_) (AllReadyH.nil)
  go_simp
  refine hK.out _ _ ((Only.drew _ _).trans (Only.setCell (S := fun k => k = w.heap.size + 1 + 1) _ _ _ rfl) (fun _ _ h => h)) (fun hHeld => ?_)
  clear hK K
  try simp only [Act.put, List.setIfInBounds_toArray, List.set_cons_zero, List.set_cons_succ]
  refine wpAnyH_take (i := 8) (oi := { dst := some 30, op := Op.fieldAddr 62 (Operand.tmp 5) 1, type := 0, pos := "tuple.go:45", after := #[{ on := 0, ground := Ground.phase }, { on := 1, ground := Ground.phase }, { on := 2, ground := Ground.phase }, { on := 3, ground := Ground.phase }, { on := 4, ground := Ground.phase }, { on := 5, ground := Ground.phase }, { on := 6, ground := Ground.phase }, { on := 7, ground := Ground.phase }], guard := none }) (v := .pointer (some ⟨w.heap.size + 1 + 1, 1, none⟩)) rfl (by kernel_rfl) (by kernel_rfl) (by kernel_rfl) (fun _ _ _ h => h) (Or.inl ⟨by rfl, fun w' hSw => by clear hSw; go_simp⟩) (by assumption) ?_
  simp only [Act.put, List.setIfInBounds_toArray, List.set_cons_zero, List.set_cons_succ]
  refine wpAnyH_ready (rs := [9]) (by kernel_rfl) (by simp) ?_
  refine AllReadyH.cons (o := { dst := none, op := Op.store 3 (Operand.tmp 30) (Operand.tmp 28), type := 0, pos := "tuple.go:45", after := #[{ on := 8, ground := Ground.data }, { on := 5, ground := Ground.data }, { on := 7, ground := Ground.chain }, { on := 0, ground := Ground.phase }, { on := 1, ground := Ground.phase }, { on := 2, ground := Ground.phase }, { on := 3, ground := Ground.phase }, { on := 4, ground := Ground.phase }, { on := 5, ground := Ground.phase }, { on := 6, ground := Ground.phase }, { on := 7, ground := Ground.phase }], guard := none }) rfl (fun K hK => ?_) (AllReadyH.nil)
  go_simp
  refine hK.out _ _ (((Only.drew _ _).trans (Only.setCell (S := fun k => k = w.heap.size + 1 + 1) _ _ _ rfl) (fun _ _ h => h)).trans (Only.setCell (S := fun k => k = w.heap.size + 1 + 1) _ _ _ rfl) (fun _ _ h => h)) (fun hHeld => ?_)
  clear hK K
  try simp only [Act.put, List.setIfInBounds_toArray, List.set_cons_zero, List.set_cons_succ]
  refine wpAnyH_done (by kernel_rfl) ?_ _
  refine NoPanic.normal ?_
  rw [Exit.then]
  have H1 := hide ((H0.out.set 0 _ (H0.out.tb.s0 q1)).set 1 _ ((H0.out.tb.s0 q1).s1 q2)).drew
  clear c0 f0 c1 f1 hHeld
  obtain ⟨W1, hW1⟩ : ∃ x, ((W0.setCell ⟨w.heap.size + 1 + 1, 0, none⟩ (.int .i64 q1)).setCell ⟨w.heap.size + 1 + 1, 1, none⟩ (.int .i64 q2)).drew = x := ⟨_, rfl⟩
  rw [hW1] at H1 ⊢
  clear hW1
  go_wp2_with fail
  refine (rtext_st _ _ D 0 24 H1.out.rd).mono ?_
  rintro e W2 ⟨rfl, hr2, ho2⟩
  rw [HP.out] at hr2 ⊢
  rw [HK1.out]
  have H2 := hide (H1.out.text hr2 ho2)
  clear hr2 ho2
  have c3 := H2.out.tb.c3
  have f3 := H2.out.tb.f3
  go_wp2_with fail
  have H3 := hide (H2.out.set 3 _ (H2.out.tb.s3 K1))
  clear c3 f3
  refine (rtext_st _ _ (str P.2.1) P.2.2 64 H3.out.rd).mono ?_
  rintro e W4 ⟨rfl, hr4, ho4⟩
  rw [bl_str, HR.out] at hr4 ⊢
  rw [HV1.out]
  have H4 := hide (H3.out.text hr4 ho4)
  clear hr4 ho4
  have c4 := H4.out.tb.c4
  have f4 := H4.out.tb.f4
  go_wp2_with fail
  have H5 := hide (H4.out.set 4 _ (H4.out.tb.s4 V1))
  clear c4 f4
  obtain ⟨W5, hW5⟩ : ∃ x, W4.setCell ⟨w.heap.size + 1 + 1, 4, none⟩ (.string V1) = x := ⟨_, rfl⟩
  rw [hW5] at H5 ⊢
  clear hW5
  refine (rend_st _ _ (str R.2.1) R.2.2 H5.out.rd).mono ?_
  rintro e W6 ⟨rfl, rfl⟩
  rw [bl_str, HE.out]
  have c0 := H5.out.tb.c0
  have c1 := H5.out.tb.c1
  have c2 := H5.out.tb.c2
  have c3 := H5.out.tb.c3
  have c4 := H5.out.tb.c4
  have HQ : Hid (∀ W', Only (fun _ => False) W6 W' → Tb W' w.heap.size noT) := fun W' hW' => H5.out.res.more hW'
  simp only at c0 c1 c2 c3 c4
  by_cases he : E = 0
  · subst he
    have HDX : Hid (decT (bl s) = if O = true then some ⟨q1, q2, fz, K1, V1⟩ else none) := by unfold Hid; rw [HDE.out]; simp
    go_wp2_with fail
    refine (HOK.out _).mono ?_
    rintro e W7 ⟨rfl, ho7⟩
    have H7 := hide (H5.out.more ho7)
    clear ho7
    have r0 := H7.out.res.c0
    have r1 := H7.out.res.c1
    have r2 := H7.out.res.c2
    have r3 := H7.out.res.c3
    have r4 := H7.out.res.c4
    have g0 := H7.out.res.f0
    have g1 := H7.out.res.f1
    have g2 := H7.out.res.f2
    have g3 := H7.out.res.f3
    have g4 := H7.out.res.f4
    clear c0 c1 c2 c3 c4
    have c0 := H7.out.tb.c0
    have c1 := H7.out.tb.c1
    have c2 := H7.out.tb.c2
    have c3 := H7.out.tb.c3
    have c4 := H7.out.tb.c4
    simp only at c0 c1 c2 c3 c4
    cases O
    · go_wp2_with fail
      refine bodyPost_ret (results_tub rfl rfl (H7.out.res.all noT)) rfl ?_
      exact ⟨by rw [HDX.out]; rfl, H7.out.only.trans (Only.fiveU _ _ _ _ _ _ _) (fun i hi e => by omega)⟩
    · go_wp2_with fail
      refine bodyPost_ret (results_tub rfl rfl (H7.out.res.all ⟨q1, q2, fz, K1, V1⟩)) rfl ?_
      exact ⟨by rw [HDX.out]; rfl, H7.out.only.trans (Only.fiveU _ _ _ _ _ _ _) (fun i hi e => by omega)⟩
  · have he' : (E != 0) = true := by simpa using he
    have HDX : Hid (decT (bl s) = none) := by unfold Hid; rw [HDE.out, if_neg (fun h => he h.1)]
    clear he c0 c1 c2 c3 c4
    have r0 := H5.out.res.c0
    have r1 := H5.out.res.c1
    have r2 := H5.out.res.c2
    have r3 := H5.out.res.c3
    have r4 := H5.out.res.c4
    have g0 := H5.out.res.f0
    have g1 := H5.out.res.f1
    have g2 := H5.out.res.f2
    have g3 := H5.out.res.f3
    have g4 := H5.out.res.f4
    go_wp2_with fail
    refine bodyPost_ret (results_tub rfl rfl (H5.out.res.all noT)) rfl ?_
    exact ⟨by rw [HDX.out]; rfl, H5.out.only.trans (Only.fiveU _ _ _ _ _ _ _) (fun i hi e => by omega)⟩
theorem udecode_any (s : ByteArray) (w : World) :
    Calls Tryz.prog 53 #[.string s] w fun e w' => e = .returned (outT (decT (bl s))) ∧ Only (fun _ => False) w w' := by
  cases h : headed (bl s)
  · have e : decT (bl s) = none := by unfold decT goodT; rw [h]; rfl
    rw [e]
    exact udecode_head s w h
  · exact udecode_good s w h
end Go.Proofs.YtpnbhddmdfcjdaaGreat
