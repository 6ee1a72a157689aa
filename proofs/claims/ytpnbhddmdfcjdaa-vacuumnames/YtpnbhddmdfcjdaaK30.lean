/- Parts. -/
import Derived.Test.YtpnbhddmdfcjdaaK29
import Derived.Test.YtpnbhddmdfcjdaaK18
import Derived.Deep.DeepCutAuto
set_option maxRecDepth 100000
namespace Go.Proofs.Ytpnbhddmdfcjdaa
open Go.RowKit
theorem strs2 (w : World) (k v : ByteArray) (hk : k.size ≤ 24) (hv : v.size ≤ 64) : Strs (w.alloc (.cells #[.string k, .string v] 9)) w.heap.size (some ⟨w.heap.size, 0, none⟩) [k, v] := by
  refine ⟨fun _ => ⟨0, rfl, fun j hj => ?_⟩, fun _ => by simp, by simp, fun s hs => ?_⟩
  · match j, hj with
    | 0, _ => simp
    | 1, _ => simp
  · simp only [List.mem_cons, List.not_mem_nil, or_false] at hs
    rcases hs with rfl | rfl <;> omega
theorem strs1 (w : World) (k : ByteArray) (hk : k.size ≤ 24) : Strs (w.alloc (.cells #[.string k] 9)) w.heap.size (some ⟨w.heap.size, 0, none⟩) [k] := by
  refine ⟨fun _ => ⟨0, rfl, fun j hj => ?_⟩, fun _ => by simp, by simp, fun s hs => ?_⟩
  · match j, hj with
    | 0, _ => simp
  · simp only [List.mem_cons, List.not_mem_nil, or_false] at hs
    subst hs
    omega
theorem str_catU (a b : List UInt8) : str a ++ str b = str (a ++ b) := cat_eqU a ⟨b.toArray⟩
theorem i64_nat {x : Int} (h : 0 ≤ x) : ((x.toNat : Nat) : Int) = x := by omega
theorem uencode_bad (t : Tu) (w : World) (h0 : -9223372036854775808 ≤ t.xmin ∧ t.xmin < 9223372036854775808) (h1 : -9223372036854775808 ≤ t.xmax ∧ t.xmax < 9223372036854775808) (h : t.ok = false) :
    Calls Try.prog 14 #[t.agg] w fun e w' => e = .returned (.tuple #[.string ⟨#[]⟩, .int .i64 110]) ∧ Only (fun _ => False) w w' := by
  have HC : Hid (∀ W, Calls Try.prog 34 #[t.agg] W fun e w' => e = .returned (.bool false) ∧ Only (fun _ => False) W w') := fun W => by
    have := isVersion_any t W h0 h1
    rwa [h] at this
  clear h h0 h1
  unfold Tu.agg
  unfold Tu.agg at HC
  go_enter Try.func14, Try.ntmps14
  go_wp2_with fail
  refine (HC.out _).mono ?_
  rintro e w1 ⟨rfl, ho⟩
  have HO := hide (o2 (onlyA w _) ho)
  clear ho
  go_wp2_with fail
  go_ret2
  exact ⟨rfl, HO.out⟩
set_option maxRecDepth 100000 in
set_option maxHeartbeats 3200000 in
theorem uencode_ok (t : Tu) (w : World) (h : t.ok = true) :
    Calls Try.prog 14 #[t.agg] w fun e w' => e = .returned (.tuple #[.string (str t.enc), .int .i64 0]) ∧ Only (fun _ => False) w w' := by
  have hk' := Tu.ok_iff.1 h
  have HK : Hid (t.key.size ≤ 24) := hk'.2.2.2.2.2.1
  have HV : Hid (t.value.size ≤ 64) := hk'.2.2.2.2.2.2
  obtain ⟨M, hM⟩ : ∃ M : ByteArray, (⟨#[mkB t.frozen]⟩ : ByteArray) = M := ⟨_, rfl⟩
  have sM : M.size = 1 := by rw [← hM]; rfl
  have eM : M = str [mkB t.frozen] := hM.symm
  obtain ⟨Y1, hY1⟩ : ∃ Y, str (bigF 2 t.xmin.toNat) = Y := ⟨_, rfl⟩
  have sY1 : Y1.size ≤ 2 := by rw [← hY1, str_size]; rw [bigF_len]; omega
  obtain ⟨C1, hC1⟩ : ∃ C, M ++ Y1 = C := ⟨_, rfl⟩
  have eC1 : C1 = str ([mkB t.frozen] ++ bigF 2 t.xmin.toNat) := by rw [← hC1, eM, ← hY1, str_catU]
  have sC1 : C1.size ≤ 3 := by rw [← hC1, ByteArray.size_append]; omega
  have yC1 : M.size + Y1.size ≤ 9223372036854775807 := by omega
  obtain ⟨Y2, hY2⟩ : ∃ Y, str (bigF 2 t.xmax.toNat) = Y := ⟨_, rfl⟩
  have sY2 : Y2.size ≤ 2 := by rw [← hY2, str_size]; rw [bigF_len]; omega
  obtain ⟨C2, hC2⟩ : ∃ C, C1 ++ Y2 = C := ⟨_, rfl⟩
  have eC2 : C2 = str (([mkB t.frozen] ++ bigF 2 t.xmin.toNat) ++ bigF 2 t.xmax.toNat) := by rw [← hC2, eC1, ← hY2, str_catU]
  have sC2 : C2.size ≤ 5 := by rw [← hC2, ByteArray.size_append]; omega
  have yC2 : C1.size + Y2.size ≤ 9223372036854775807 := by omega
  obtain ⟨Y3, hY3⟩ : ∃ Y, str (txsL [t.key, t.value]) = Y := ⟨_, rfl⟩
  have sY3 : Y3.size ≤ 90 := by rw [← hY3, str_size]; have := txL_len t.key (by omega); have := txL_len t.value (by omega); simp [txsL]; omega
  obtain ⟨C3, hC3⟩ : ∃ C, C2 ++ Y3 = C := ⟨_, rfl⟩
  have eC3 : C3 = str ((([mkB t.frozen] ++ bigF 2 t.xmin.toNat) ++ bigF 2 t.xmax.toNat) ++ txsL [t.key, t.value]) := by rw [← hC3, eC2, ← hY3, str_catU]
  have sC3 : C3.size ≤ 95 := by rw [← hC3, ByteArray.size_append]; omega
  have yC3 : C2.size + Y3.size ≤ 9223372036854775807 := by omega
  have HE : Hid (C3 = str t.enc) := by
    unfold Hid
    rw [eC3]
    unfold Tu.enc txsL
    simp
  have HC : Hid (∀ W, Calls Try.prog 34 #[.agg #[.int .i64 t.xmin, .int .i64 t.xmax, .bool t.frozen, .string t.key, .string t.value]] W fun e w' => e = .returned (.bool true) ∧ Only (fun _ => False) W w') := fun W => by
    have := isVersion_any t W (by omega) (by omega)
    rwa [h] at this
  have HM : Hid (∀ W, Calls Try.prog 35 #[.bool t.frozen] W fun e w' => e = .returned (.string M) ∧ w' = W) := fun W => by
    rw [← hM]
    exact umark_any t.frozen W
  have HG1 : Hid (∀ W, Calls Try.prog 36 #[.int .i64 t.xmin, .int .i64 2] W fun e w' => e = .returned (.string Y1) ∧ Only (fun _ => False) W w') := fun W => by
    have := big_any t.xmin.toNat 2 W (by omega) (by omega) (by omega)
    rw [i64_nat (by omega)] at this
    rw [← hY1]
    exact this
  have HG2 : Hid (∀ W, Calls Try.prog 36 #[.int .i64 t.xmax, .int .i64 2] W fun e w' => e = .returned (.string Y2) ∧ Only (fun _ => False) W w') := fun W => by
    have := big_any t.xmax.toNat 2 W (by omega) (by omega) (by omega)
    rw [i64_nat (by omega)] at this
    rw [← hY2]
    exact this
  have HG3 : Hid (∀ W B, Strs W B (some ⟨B, 0, none⟩) [t.key, t.value] → Calls Try.prog 33 #[.slice (some ⟨B, 0, none⟩) 2 2] W fun e w' => e = .returned (.string Y3) ∧ Only (fun _ => False) W w') := fun W B hs => by
    rw [← hY3]
    exact ulaid_any W B 2 (some ⟨B, 0, none⟩) [t.key, t.value] hs (by simp) (fun s hs => by
      simp only [List.mem_cons, List.not_mem_nil, or_false] at hs
      rcases hs with rfl | rfl <;> omega)
  clear hk' h hM eM hY1 hY2 hY3 eC1 eC2 eC3 sM sY1 sY2 sY3 sC1 sC2 sC3
  unfold Tu.agg
  have HB0 := hide (Tb.new w t)
  go_enter Try.func14, Try.ntmps14
  go_wp2_with fail
  refine (HC.out _).mono ?_
  rintro e W0 ⟨rfl, ho⟩
  have HB := hide (HB0.out.more ho)
  have HO := hide (o2 (onlyA w _) ho)
  clear ho HB0 HC
  go_upto_region 3 with fail
  refine wp_region_noPanic ?_
  refine wp_region_held_drew (S := fun W => Only (fun _ => False) W0 W) (by kernel_rfl) (Only.drew _ _) (fun hHeld => ?_)
  refine wpAnyH_take (i := 0) (oi := { dst := some 7, op := Op.fieldAddr 57 (Operand.tmp 1) 2, type := 0, pos := "tuple.go:35", after := #[], guard := none }) (v := .pointer (some ⟨w.heap.size, 2, none⟩)) rfl (by kernel_rfl) (by kernel_rfl) (by kernel_rfl) (fun _ _ _ h => h) (Or.inl ⟨by rfl, fun w' hSw => by clear hSw; go_simp⟩) (by assumption) ?_
  simp only [Act.put, List.setIfInBounds_toArray, List.set_cons_zero, List.set_cons_succ]
  refine wpAnyH_take (i := 3) (oi := { dst := some 10, op := Op.fieldAddr 57 (Operand.tmp 1) 0, type := 0, pos := "tuple.go:35", after := #[], guard := none }) (v := .pointer (some ⟨w.heap.size, 0, none⟩)) rfl (by kernel_rfl) (by kernel_rfl) (by kernel_rfl) (fun _ _ _ h => h) (Or.inl ⟨by rfl, fun w' hSw => by clear hSw; go_simp⟩) (by assumption) ?_
  simp only [Act.put, List.setIfInBounds_toArray, List.set_cons_zero, List.set_cons_succ]
  refine wpAnyH_take (i := 7) (oi := { dst := some 14, op := Op.fieldAddr 57 (Operand.tmp 1) 1, type := 0, pos := "tuple.go:35", after := #[], guard := none }) (v := .pointer (some ⟨w.heap.size, 1, none⟩)) rfl (by kernel_rfl) (by kernel_rfl) (by kernel_rfl) (fun _ _ _ h => h) (Or.inl ⟨by rfl, fun w' hSw => by clear hSw; go_simp⟩) (by assumption) ?_
  simp only [Act.put, List.setIfInBounds_toArray, List.set_cons_zero, List.set_cons_succ]
  refine wpAnyH_take (i := 11) (oi := { dst := some 18, op := Op.fieldAddr 57 (Operand.tmp 1) 3, type := 0, pos := "tuple.go:35", after := #[], guard := none }) (v := .pointer (some ⟨w.heap.size, 3, none⟩)) rfl (by kernel_rfl) (by kernel_rfl) (by kernel_rfl) (fun _ _ _ h => h) (Or.inl ⟨by rfl, fun w' hSw => by clear hSw; go_simp⟩) (by assumption) ?_
  simp only [Act.put, List.setIfInBounds_toArray, List.set_cons_zero, List.set_cons_succ]
  refine wpAnyH_take (i := 13) (oi := { dst := some 20, op := Op.fieldAddr 57 (Operand.tmp 1) 4, type := 0, pos := "tuple.go:35", after := #[], guard := none }) (v := .pointer (some ⟨w.heap.size, 4, none⟩)) rfl (by kernel_rfl) (by kernel_rfl) (by kernel_rfl) (fun _ _ _ h => h) (Or.inl ⟨by rfl, fun w' hSw => by clear hSw; go_simp⟩) (by assumption) ?_
  simp only [Act.put, List.setIfInBounds_toArray, List.set_cons_zero, List.set_cons_succ]
  refine wpAnyH_take (i := 1) (oi := { dst := some 8, op := Op.load 4 (Operand.tmp 7), type := 4, pos := "tuple.go:35", after := #[{ on := 0, ground := Ground.data }], guard := none }) (v := .bool t.frozen) rfl (by kernel_rfl) (by kernel_rfl) (by kernel_rfl) (fun _ _ _ h => h) (yieldsIf_load_cell (by rfl) 4 _ rfl _ rfl (fun W hW => (HB.out.more hW).c2) (fun W hc => ld_bool hc)) (by assumption) ?_
  simp only [Act.put, List.setIfInBounds_toArray, List.set_cons_zero, List.set_cons_succ]
  refine wpAnyH_take (i := 4) (oi := { dst := some 11, op := Op.load 3 (Operand.tmp 10), type := 3, pos := "tuple.go:35", after := #[{ on := 3, ground := Ground.data }], guard := none }) (v := .int .i64 t.xmin) rfl (by kernel_rfl) (by kernel_rfl) (by kernel_rfl) (fun _ _ _ h => h) (yieldsIf_load_cell (by rfl) 3 _ rfl _ rfl (fun W hW => (HB.out.more hW).c0) (fun W hc => ld_int hc)) (by assumption) ?_
  simp only [Act.put, List.setIfInBounds_toArray, List.set_cons_zero, List.set_cons_succ]
  refine wpAnyH_take (i := 8) (oi := { dst := some 15, op := Op.load 3 (Operand.tmp 14), type := 3, pos := "tuple.go:35", after := #[{ on := 7, ground := Ground.data }], guard := none }) (v := .int .i64 t.xmax) rfl (by kernel_rfl) (by kernel_rfl) (by kernel_rfl) (fun _ _ _ h => h) (yieldsIf_load_cell (by rfl) 3 _ rfl _ rfl (fun W hW => (HB.out.more hW).c1) (fun W hc => ld_int hc)) (by assumption) ?_
  simp only [Act.put, List.setIfInBounds_toArray, List.set_cons_zero, List.set_cons_succ]
  refine wpAnyH_take (i := 12) (oi := { dst := some 19, op := Op.load 9 (Operand.tmp 18), type := 9, pos := "tuple.go:35", after := #[{ on := 11, ground := Ground.data }], guard := none }) (v := .string t.key) rfl (by kernel_rfl) (by kernel_rfl) (by kernel_rfl) (fun _ _ _ h => h) (yieldsIf_load_cell (by rfl) 9 _ rfl _ rfl (fun W hW => (HB.out.more hW).c3) (fun W hc => ld_string hc)) (by assumption) ?_
  simp only [Act.put, List.setIfInBounds_toArray, List.set_cons_zero, List.set_cons_succ]
  refine wpAnyH_take (i := 14) (oi := { dst := some 21, op := Op.load 9 (Operand.tmp 20), type := 9, pos := "tuple.go:35", after := #[{ on := 13, ground := Ground.data }], guard := none }) (v := .string t.value) rfl (by kernel_rfl) (by kernel_rfl) (by kernel_rfl) (fun _ _ _ h => h) (yieldsIf_load_cell (by rfl) 9 _ rfl _ rfl (fun W hW => (HB.out.more hW).c4) (fun W hc => ld_string hc)) (by assumption) ?_
  simp only [Act.put, List.setIfInBounds_toArray, List.set_cons_zero, List.set_cons_succ]
  refine wpAnyH_ready (rs := [2, 15]) (by kernel_rfl) (by simp) ?_
  refine AllReadyH.cons (o := { dst := some 9, op := Op.call { callee := Callee.value (Operand.func 35), args := #[Operand.tmp 8], argTypes := #[4] }, type := 9, pos := "tuple.go:35", after := #[{ on := 1, ground := Ground.data }], guard := none }) rfl (fun K hK => ?_) (AllReadyH.cons (o := { dst := some 22, op := Op.buildSlice 28 2 #[(0, Operand.tmp 19), (1, Operand.tmp 21)], type := 28, pos := "tuple.go:35", after := #[{ on := 12, ground := Ground.data }, { on := 14, ground := Ground.data }], guard := none }) rfl (fun K hK => ?_) (AllReadyH.nil))
  · go_simp
    refine (HM.out _).mono ?_
    rintro e _ ⟨rfl, rfl⟩
    refine hK.out _ _ ((Only.drew _ _)) (fun hHeld => ?_)
    clear hK K
    try simp only [Act.put, List.setIfInBounds_toArray, List.set_cons_zero, List.set_cons_succ]
    refine wpAnyH_ready (rs := [5, 15]) (by kernel_rfl) (by simp) ?_
    refine AllReadyH.cons (o := { dst := some 12, op := Op.call { callee := Callee.value (Operand.func 36), args := #[Operand.tmp 11, Operand.const (Value.int IntKind.i64 2)], argTypes := #[3, 3] }, type := 9, pos := "tuple.go:35", after := #[{ on := 4, ground := Ground.data }, { on := 2, ground := Ground.chain }], guard := none }) rfl (fun K hK => ?_) (AllReadyH.cons (o := { dst := some 22, op := Op.buildSlice 28 2 #[(0, Operand.tmp 19), (1, Operand.tmp 21)], type := 28, pos := "tuple.go:35", after := #[{ on := 12, ground := Ground.data }, { on := 14, ground := Ground.data }], guard := none }) rfl (fun K hK => ?_) (AllReadyH.nil))
    · go_simp
      refine (HG1.out _).mono ?_
      rintro e x1 ⟨rfl, hx1⟩
      have HX1 := hide (o2 (Only.drew _ _) hx1)
      clear hx1
      refine hK.out _ _ (HX1.out) (fun hHeld => ?_)
      clear hK K
      try simp only [Act.put, List.setIfInBounds_toArray, List.set_cons_zero, List.set_cons_succ]
      refine wpAnyH_take (i := 6) (oi := { dst := some 13, op := Op.binOp BinOp.add 9 (Operand.tmp 9) (Operand.tmp 12) 9, type := 9, pos := "tuple.go:35", after := #[{ on := 2, ground := Ground.data }, { on := 5, ground := Ground.data }], guard := none }) (v := .string C1) rfl (by kernel_rfl) (by kernel_rfl) (by kernel_rfl) (fun _ _ _ h => h) (Or.inl ⟨by rfl, fun w' hSw => by clear hSw; go_simp⟩) (by assumption) ?_
      simp only [Act.put, List.setIfInBounds_toArray, List.set_cons_zero, List.set_cons_succ]
      refine wpAnyH_ready (rs := [9, 15]) (by kernel_rfl) (by simp) ?_
      refine AllReadyH.cons (o := { dst := some 16, op := Op.call { callee := Callee.value (Operand.func 36), args := #[Operand.tmp 15, Operand.const (Value.int IntKind.i64 2)], argTypes := #[3, 3] }, type := 9, pos := "tuple.go:35", after := #[{ on := 8, ground := Ground.data }, { on := 5, ground := Ground.chain }], guard := none }) rfl (fun K hK => ?_) (AllReadyH.cons (o := { dst := some 22, op := Op.buildSlice 28 2 #[(0, Operand.tmp 19), (1, Operand.tmp 21)], type := 28, pos := "tuple.go:35", after := #[{ on := 12, ground := Ground.data }, { on := 14, ground := Ground.data }], guard := none }) rfl (fun K hK => ?_) (AllReadyH.nil))
      · go_simp
        refine (HG2.out _).mono ?_
        rintro e x2 ⟨rfl, hx2⟩
        have HX2 := hide (o2 HX1.out hx2)
        clear hx2
        refine hK.out _ _ (HX2.out) (fun hHeld => ?_)
        clear hK K
        try simp only [Act.put, List.setIfInBounds_toArray, List.set_cons_zero, List.set_cons_succ]
        refine wpAnyH_take (i := 10) (oi := { dst := some 17, op := Op.binOp BinOp.add 9 (Operand.tmp 13) (Operand.tmp 16) 9, type := 9, pos := "tuple.go:35", after := #[{ on := 6, ground := Ground.data }, { on := 9, ground := Ground.data }], guard := none }) (v := .string C2) rfl (by kernel_rfl) (by kernel_rfl) (by kernel_rfl) (fun _ _ _ h => h) (Or.inl ⟨by rfl, fun w' hSw => by clear hSw; go_simp⟩) (by assumption) ?_
        simp only [Act.put, List.setIfInBounds_toArray, List.set_cons_zero, List.set_cons_succ]
        refine wpAnyH_ready (rs := [15]) (by kernel_rfl) (by simp) ?_
        refine AllReadyH.cons (o := { dst := some 22, op := Op.buildSlice 28 2 #[(0, Operand.tmp 19), (1, Operand.tmp 21)], type := 28, pos := "tuple.go:35", after := #[{ on := 12, ground := Ground.data }, { on := 14, ground := Ground.data }], guard := none }) rfl (fun K hK => ?_) (AllReadyH.nil)
        go_simp
        have HS := hide (strs2 x2 t.key t.value HK.out HV.out)
        refine hK.out _ _ (o2 HX2.out (onlyA _ _)) (fun hHeld => ?_)
        clear hK K
        try simp only [Act.put, List.setIfInBounds_toArray, List.set_cons_zero, List.set_cons_succ]
        refine wpAnyH_ready (rs := [16]) (by kernel_rfl) (by simp) ?_
        refine AllReadyH.cons (o := { dst := some 23, op := Op.call { callee := Callee.value (Operand.func 33), args := #[Operand.tmp 22], argTypes := #[28] }, type := 9, pos := "tuple.go:35", after := #[{ on := 15, ground := Ground.data }, { on := 9, ground := Ground.chain }], guard := none }) rfl (fun K hK => ?_) (AllReadyH.nil)
        go_simp
        refine (HG3.out _ x2.heap.size HS.out).mono ?_
        rintro e x3 ⟨rfl, hx3⟩
        have HX3 := hide (o2 (o2 HX2.out (onlyA _ _)) hx3)
        clear hx3
        refine hK.out _ _ (HX3.out) (fun hHeld => ?_)
        clear hK K
        try simp only [Act.put, List.setIfInBounds_toArray, List.set_cons_zero, List.set_cons_succ]
        refine wpAnyH_take (i := 17) (oi := { dst := some 24, op := Op.binOp BinOp.add 9 (Operand.tmp 17) (Operand.tmp 23) 9, type := 9, pos := "tuple.go:35", after := #[{ on := 10, ground := Ground.data }, { on := 16, ground := Ground.data }], guard := none }) (v := .string C3) rfl (by kernel_rfl) (by kernel_rfl) (by kernel_rfl) (fun _ _ _ h => h) (Or.inl ⟨by rfl, fun w' hSw => by clear hSw; go_simp⟩) (by assumption) ?_
        simp only [Act.put, List.setIfInBounds_toArray, List.set_cons_zero, List.set_cons_succ]
        refine wpAnyH_take (i := 18) (oi := { dst := some 2, op := Op.assign (Operand.tmp 24), type := 9, pos := "tuple.go:35", after := #[{ on := 17, ground := Ground.data }, { on := 16, ground := Ground.chain }, { on := 0, ground := Ground.phase }, { on := 1, ground := Ground.phase }, { on := 2, ground := Ground.phase }, { on := 3, ground := Ground.phase }, { on := 4, ground := Ground.phase }, { on := 5, ground := Ground.phase }, { on := 6, ground := Ground.phase }, { on := 7, ground := Ground.phase }, { on := 8, ground := Ground.phase }, { on := 9, ground := Ground.phase }, { on := 10, ground := Ground.phase }, { on := 11, ground := Ground.phase }, { on := 12, ground := Ground.phase }, { on := 13, ground := Ground.phase }, { on := 14, ground := Ground.phase }, { on := 15, ground := Ground.phase }, { on := 16, ground := Ground.phase }, { on := 17, ground := Ground.phase }], guard := none }) (v := .string C3) rfl (by kernel_rfl) (by kernel_rfl) (by kernel_rfl) (fun _ _ _ h => h) (Or.inl ⟨by rfl, fun w' hSw => by clear hSw; go_simp⟩) (by assumption) ?_
        simp only [Act.put, List.setIfInBounds_toArray, List.set_cons_zero, List.set_cons_succ]
        refine wpAnyH_take (i := 19) (oi := { dst := some 3, op := Op.assign (Operand.const (Value.int IntKind.i64 0)), type := 49, pos := "tuple.go:35", after := #[{ on := 18, ground := Ground.chain }, { on := 0, ground := Ground.phase }, { on := 1, ground := Ground.phase }, { on := 2, ground := Ground.phase }, { on := 3, ground := Ground.phase }, { on := 4, ground := Ground.phase }, { on := 5, ground := Ground.phase }, { on := 6, ground := Ground.phase }, { on := 7, ground := Ground.phase }, { on := 8, ground := Ground.phase }, { on := 9, ground := Ground.phase }, { on := 10, ground := Ground.phase }, { on := 11, ground := Ground.phase }, { on := 12, ground := Ground.phase }, { on := 13, ground := Ground.phase }, { on := 14, ground := Ground.phase }, { on := 15, ground := Ground.phase }, { on := 16, ground := Ground.phase }, { on := 17, ground := Ground.phase }, { on := 18, ground := Ground.phase }], guard := none }) (v := .int .i64 0) rfl (by kernel_rfl) (by kernel_rfl) (by kernel_rfl) (fun _ _ _ h => h) (Or.inl ⟨by rfl, fun w' hSw => by clear hSw; go_simp⟩) (by assumption) ?_
        simp only [Act.put, List.setIfInBounds_toArray, List.set_cons_zero, List.set_cons_succ]
        refine wpAnyH_done (by kernel_rfl) ?_ _
        refine NoPanic.normal ?_
        rw [Exit.then]
        go_wp2_with fail
        go_ret2
        exact ⟨by simp [HE.out], o2 HO.out HX3.out⟩
      · go_simp
        have HS := hide (strs2 x1 t.key t.value HK.out HV.out)
        refine hK.out _ _ (o2 HX1.out (onlyA _ _)) (fun hHeld => ?_)
        clear hK K
        try simp only [Act.put, List.setIfInBounds_toArray, List.set_cons_zero, List.set_cons_succ]
        refine wpAnyH_ready (rs := [9]) (by kernel_rfl) (by simp) ?_
        refine AllReadyH.cons (o := { dst := some 16, op := Op.call { callee := Callee.value (Operand.func 36), args := #[Operand.tmp 15, Operand.const (Value.int IntKind.i64 2)], argTypes := #[3, 3] }, type := 9, pos := "tuple.go:35", after := #[{ on := 8, ground := Ground.data }, { on := 5, ground := Ground.chain }], guard := none }) rfl (fun K hK => ?_) (AllReadyH.nil)
        go_simp
        refine (HG2.out _).mono ?_
        rintro e x2 ⟨rfl, hx2⟩
        have HX2 := hide (o2 (o2 HX1.out (onlyA _ _)) hx2)
        have HS := hide (HS.out.more hx2)
        clear hx2
        refine hK.out _ _ (HX2.out) (fun hHeld => ?_)
        clear hK K
        try simp only [Act.put, List.setIfInBounds_toArray, List.set_cons_zero, List.set_cons_succ]
        refine wpAnyH_take (i := 10) (oi := { dst := some 17, op := Op.binOp BinOp.add 9 (Operand.tmp 13) (Operand.tmp 16) 9, type := 9, pos := "tuple.go:35", after := #[{ on := 6, ground := Ground.data }, { on := 9, ground := Ground.data }], guard := none }) (v := .string C2) rfl (by kernel_rfl) (by kernel_rfl) (by kernel_rfl) (fun _ _ _ h => h) (Or.inl ⟨by rfl, fun w' hSw => by clear hSw; go_simp⟩) (by assumption) ?_
        simp only [Act.put, List.setIfInBounds_toArray, List.set_cons_zero, List.set_cons_succ]
        refine wpAnyH_ready (rs := [16]) (by kernel_rfl) (by simp) ?_
        refine AllReadyH.cons (o := { dst := some 23, op := Op.call { callee := Callee.value (Operand.func 33), args := #[Operand.tmp 22], argTypes := #[28] }, type := 9, pos := "tuple.go:35", after := #[{ on := 15, ground := Ground.data }, { on := 9, ground := Ground.chain }], guard := none }) rfl (fun K hK => ?_) (AllReadyH.nil)
        go_simp
        refine (HG3.out _ x1.heap.size HS.out).mono ?_
        rintro e x3 ⟨rfl, hx3⟩
        have HX3 := hide (o2 HX2.out hx3)
        clear hx3
        refine hK.out _ _ (HX3.out) (fun hHeld => ?_)
        clear hK K
        try simp only [Act.put, List.setIfInBounds_toArray, List.set_cons_zero, List.set_cons_succ]
        refine wpAnyH_take (i := 17) (oi := { dst := some 24, op := Op.binOp BinOp.add 9 (Operand.tmp 17) (Operand.tmp 23) 9, type := 9, pos := "tuple.go:35", after := #[{ on := 10, ground := Ground.data }, { on := 16, ground := Ground.data }], guard := none }) (v := .string C3) rfl (by kernel_rfl) (by kernel_rfl) (by kernel_rfl) (fun _ _ _ h => h) (Or.inl ⟨by rfl, fun w' hSw => by clear hSw; go_simp⟩) (by assumption) ?_
        simp only [Act.put, List.setIfInBounds_toArray, List.set_cons_zero, List.set_cons_succ]
        refine wpAnyH_take (i := 18) (oi := { dst := some 2, op := Op.assign (Operand.tmp 24), type := 9, pos := "tuple.go:35", after := #[{ on := 17, ground := Ground.data }, { on := 16, ground := Ground.chain }, { on := 0, ground := Ground.phase }, { on := 1, ground := Ground.phase }, { on := 2, ground := Ground.phase }, { on := 3, ground := Ground.phase }, { on := 4, ground := Ground.phase }, { on := 5, ground := Ground.phase }, { on := 6, ground := Ground.phase }, { on := 7, ground := Ground.phase }, { on := 8, ground := Ground.phase }, { on := 9, ground := Ground.phase }, { on := 10, ground := Ground.phase }, { on := 11, ground := Ground.phase }, { on := 12, ground := Ground.phase }, { on := 13, ground := Ground.phase }, { on := 14, ground := Ground.phase }, { on := 15, ground := Ground.phase }, { on := 16, ground := Ground.phase }, { on := 17, ground := Ground.phase }], guard := none }) (v := .string C3) rfl (by kernel_rfl) (by kernel_rfl) (by kernel_rfl) (fun _ _ _ h => h) (Or.inl ⟨by rfl, fun w' hSw => by clear hSw; go_simp⟩) (by assumption) ?_
        simp only [Act.put, List.setIfInBounds_toArray, List.set_cons_zero, List.set_cons_succ]
        refine wpAnyH_take (i := 19) (oi := { dst := some 3, op := Op.assign (Operand.const (Value.int IntKind.i64 0)), type := 49, pos := "tuple.go:35", after := #[{ on := 18, ground := Ground.chain }, { on := 0, ground := Ground.phase }, { on := 1, ground := Ground.phase }, { on := 2, ground := Ground.phase }, { on := 3, ground := Ground.phase }, { on := 4, ground := Ground.phase }, { on := 5, ground := Ground.phase }, { on := 6, ground := Ground.phase }, { on := 7, ground := Ground.phase }, { on := 8, ground := Ground.phase }, { on := 9, ground := Ground.phase }, { on := 10, ground := Ground.phase }, { on := 11, ground := Ground.phase }, { on := 12, ground := Ground.phase }, { on := 13, ground := Ground.phase }, { on := 14, ground := Ground.phase }, { on := 15, ground := Ground.phase }, { on := 16, ground := Ground.phase }, { on := 17, ground := Ground.phase }, { on := 18, ground := Ground.phase }], guard := none }) (v := .int .i64 0) rfl (by kernel_rfl) (by kernel_rfl) (by kernel_rfl) (fun _ _ _ h => h) (Or.inl ⟨by rfl, fun w' hSw => by clear hSw; go_simp⟩) (by assumption) ?_
        simp only [Act.put, List.setIfInBounds_toArray, List.set_cons_zero, List.set_cons_succ]
        refine wpAnyH_done (by kernel_rfl) ?_ _
        refine NoPanic.normal ?_
        rw [Exit.then]
        go_wp2_with fail
        go_ret2
        exact ⟨by simp [HE.out], o2 HO.out HX3.out⟩
    · go_simp
      have HS := hide (strs2 W0.drew t.key t.value HK.out HV.out)
      refine hK.out _ _ (o2 (Only.drew _ _) (onlyA _ _)) (fun hHeld => ?_)
      clear hK K
      try simp only [Act.put, List.setIfInBounds_toArray, List.set_cons_zero, List.set_cons_succ]
      refine wpAnyH_ready (rs := [5]) (by kernel_rfl) (by simp) ?_
      refine AllReadyH.cons (o := { dst := some 12, op := Op.call { callee := Callee.value (Operand.func 36), args := #[Operand.tmp 11, Operand.const (Value.int IntKind.i64 2)], argTypes := #[3, 3] }, type := 9, pos := "tuple.go:35", after := #[{ on := 4, ground := Ground.data }, { on := 2, ground := Ground.chain }], guard := none }) rfl (fun K hK => ?_) (AllReadyH.nil)
      go_simp
      refine (HG1.out _).mono ?_
      rintro e x1 ⟨rfl, hx1⟩
      have HX1 := hide (o2 (o2 (Only.drew _ _) (onlyA _ _)) hx1)
      have HS := hide (HS.out.more hx1)
      clear hx1
      refine hK.out _ _ (HX1.out) (fun hHeld => ?_)
      clear hK K
      try simp only [Act.put, List.setIfInBounds_toArray, List.set_cons_zero, List.set_cons_succ]
      refine wpAnyH_take (i := 6) (oi := { dst := some 13, op := Op.binOp BinOp.add 9 (Operand.tmp 9) (Operand.tmp 12) 9, type := 9, pos := "tuple.go:35", after := #[{ on := 2, ground := Ground.data }, { on := 5, ground := Ground.data }], guard := none }) (v := .string C1) rfl (by kernel_rfl) (by kernel_rfl) (by kernel_rfl) (fun _ _ _ h => h) (Or.inl ⟨by rfl, fun w' hSw => by clear hSw; go_simp⟩) (by assumption) ?_
      simp only [Act.put, List.setIfInBounds_toArray, List.set_cons_zero, List.set_cons_succ]
      refine wpAnyH_ready (rs := [9]) (by kernel_rfl) (by simp) ?_
      refine AllReadyH.cons (o := { dst := some 16, op := Op.call { callee := Callee.value (Operand.func 36), args := #[Operand.tmp 15, Operand.const (Value.int IntKind.i64 2)], argTypes := #[3, 3] }, type := 9, pos := "tuple.go:35", after := #[{ on := 8, ground := Ground.data }, { on := 5, ground := Ground.chain }], guard := none }) rfl (fun K hK => ?_) (AllReadyH.nil)
      go_simp
      refine (HG2.out _).mono ?_
      rintro e x2 ⟨rfl, hx2⟩
      have HX2 := hide (o2 HX1.out hx2)
      have HS := hide (HS.out.more hx2)
      clear hx2
      refine hK.out _ _ (HX2.out) (fun hHeld => ?_)
      clear hK K
      try simp only [Act.put, List.setIfInBounds_toArray, List.set_cons_zero, List.set_cons_succ]
      refine wpAnyH_take (i := 10) (oi := { dst := some 17, op := Op.binOp BinOp.add 9 (Operand.tmp 13) (Operand.tmp 16) 9, type := 9, pos := "tuple.go:35", after := #[{ on := 6, ground := Ground.data }, { on := 9, ground := Ground.data }], guard := none }) (v := .string C2) rfl (by kernel_rfl) (by kernel_rfl) (by kernel_rfl) (fun _ _ _ h => h) (Or.inl ⟨by rfl, fun w' hSw => by clear hSw; go_simp⟩) (by assumption) ?_
      simp only [Act.put, List.setIfInBounds_toArray, List.set_cons_zero, List.set_cons_succ]
      refine wpAnyH_ready (rs := [16]) (by kernel_rfl) (by simp) ?_
      refine AllReadyH.cons (o := { dst := some 23, op := Op.call { callee := Callee.value (Operand.func 33), args := #[Operand.tmp 22], argTypes := #[28] }, type := 9, pos := "tuple.go:35", after := #[{ on := 15, ground := Ground.data }, { on := 9, ground := Ground.chain }], guard := none }) rfl (fun K hK => ?_) (AllReadyH.nil)
      go_simp
      refine (HG3.out _ W0.heap.size HS.out).mono ?_
      rintro e x3 ⟨rfl, hx3⟩
      have HX3 := hide (o2 HX2.out hx3)
      clear hx3
      refine hK.out _ _ (HX3.out) (fun hHeld => ?_)
      clear hK K
      try simp only [Act.put, List.setIfInBounds_toArray, List.set_cons_zero, List.set_cons_succ]
      refine wpAnyH_take (i := 17) (oi := { dst := some 24, op := Op.binOp BinOp.add 9 (Operand.tmp 17) (Operand.tmp 23) 9, type := 9, pos := "tuple.go:35", after := #[{ on := 10, ground := Ground.data }, { on := 16, ground := Ground.data }], guard := none }) (v := .string C3) rfl (by kernel_rfl) (by kernel_rfl) (by kernel_rfl) (fun _ _ _ h => h) (Or.inl ⟨by rfl, fun w' hSw => by clear hSw; go_simp⟩) (by assumption) ?_
      simp only [Act.put, List.setIfInBounds_toArray, List.set_cons_zero, List.set_cons_succ]
      refine wpAnyH_take (i := 18) (oi := { dst := some 2, op := Op.assign (Operand.tmp 24), type := 9, pos := "tuple.go:35", after := #[{ on := 17, ground := Ground.data }, { on := 16, ground := Ground.chain }, { on := 0, ground := Ground.phase }, { on := 1, ground := Ground.phase }, { on := 2, ground := Ground.phase }, { on := 3, ground := Ground.phase }, { on := 4, ground := Ground.phase }, { on := 5, ground := Ground.phase }, { on := 6, ground := Ground.phase }, { on := 7, ground := Ground.phase }, { on := 8, ground := Ground.phase }, { on := 9, ground := Ground.phase }, { on := 10, ground := Ground.phase }, { on := 11, ground := Ground.phase }, { on := 12, ground := Ground.phase }, { on := 13, ground := Ground.phase }, { on := 14, ground := Ground.phase }, { on := 15, ground := Ground.phase }, { on := 16, ground := Ground.phase }, { on := 17, ground := Ground.phase }], guard := none }) (v := .string C3) rfl (by kernel_rfl) (by kernel_rfl) (by kernel_rfl) (fun _ _ _ h => h) (Or.inl ⟨by rfl, fun w' hSw => by clear hSw; go_simp⟩) (by assumption) ?_
      simp only [Act.put, List.setIfInBounds_toArray, List.set_cons_zero, List.set_cons_succ]
      refine wpAnyH_take (i := 19) (oi := { dst := some 3, op := Op.assign (Operand.const (Value.int IntKind.i64 0)), type := 49, pos := "tuple.go:35", after := #[{ on := 18, ground := Ground.chain }, { on := 0, ground := Ground.phase }, { on := 1, ground := Ground.phase }, { on := 2, ground := Ground.phase }, { on := 3, ground := Ground.phase }, { on := 4, ground := Ground.phase }, { on := 5, ground := Ground.phase }, { on := 6, ground := Ground.phase }, { on := 7, ground := Ground.phase }, { on := 8, ground := Ground.phase }, { on := 9, ground := Ground.phase }, { on := 10, ground := Ground.phase }, { on := 11, ground := Ground.phase }, { on := 12, ground := Ground.phase }, { on := 13, ground := Ground.phase }, { on := 14, ground := Ground.phase }, { on := 15, ground := Ground.phase }, { on := 16, ground := Ground.phase }, { on := 17, ground := Ground.phase }, { on := 18, ground := Ground.phase }], guard := none }) (v := .int .i64 0) rfl (by kernel_rfl) (by kernel_rfl) (by kernel_rfl) (fun _ _ _ h => h) (Or.inl ⟨by rfl, fun w' hSw => by clear hSw; go_simp⟩) (by assumption) ?_
      simp only [Act.put, List.setIfInBounds_toArray, List.set_cons_zero, List.set_cons_succ]
      refine wpAnyH_done (by kernel_rfl) ?_ _
      refine NoPanic.normal ?_
      rw [Exit.then]
      go_wp2_with fail
      go_ret2
      exact ⟨by simp [HE.out], o2 HO.out HX3.out⟩
  · go_simp
    have HS := hide (strs2 W0.drew t.key t.value HK.out HV.out)
    refine hK.out _ _ (o2 (Only.drew _ _) (onlyA _ _)) (fun hHeld => ?_)
    clear hK K
    try simp only [Act.put, List.setIfInBounds_toArray, List.set_cons_zero, List.set_cons_succ]
    refine wpAnyH_ready (rs := [2]) (by kernel_rfl) (by simp) ?_
    refine AllReadyH.cons (o := { dst := some 9, op := Op.call { callee := Callee.value (Operand.func 35), args := #[Operand.tmp 8], argTypes := #[4] }, type := 9, pos := "tuple.go:35", after := #[{ on := 1, ground := Ground.data }], guard := none }) rfl (fun K hK => ?_) (AllReadyH.nil)
    go_simp
    refine (HM.out _).mono ?_
    rintro e _ ⟨rfl, rfl⟩
    refine hK.out _ _ ((o2 (Only.drew _ _) (onlyA _ _))) (fun hHeld => ?_)
    clear hK K
    try simp only [Act.put, List.setIfInBounds_toArray, List.set_cons_zero, List.set_cons_succ]
    refine wpAnyH_ready (rs := [5]) (by kernel_rfl) (by simp) ?_
    refine AllReadyH.cons (o := { dst := some 12, op := Op.call { callee := Callee.value (Operand.func 36), args := #[Operand.tmp 11, Operand.const (Value.int IntKind.i64 2)], argTypes := #[3, 3] }, type := 9, pos := "tuple.go:35", after := #[{ on := 4, ground := Ground.data }, { on := 2, ground := Ground.chain }], guard := none }) rfl (fun K hK => ?_) (AllReadyH.nil)
    go_simp
    refine (HG1.out _).mono ?_
    rintro e x1 ⟨rfl, hx1⟩
    have HX1 := hide (o2 (o2 (Only.drew _ _) (onlyA _ _)) hx1)
    have HS := hide (HS.out.more hx1)
    clear hx1
    refine hK.out _ _ (HX1.out) (fun hHeld => ?_)
    clear hK K
    try simp only [Act.put, List.setIfInBounds_toArray, List.set_cons_zero, List.set_cons_succ]
    refine wpAnyH_take (i := 6) (oi := { dst := some 13, op := Op.binOp BinOp.add 9 (Operand.tmp 9) (Operand.tmp 12) 9, type := 9, pos := "tuple.go:35", after := #[{ on := 2, ground := Ground.data }, { on := 5, ground := Ground.data }], guard := none }) (v := .string C1) rfl (by kernel_rfl) (by kernel_rfl) (by kernel_rfl) (fun _ _ _ h => h) (Or.inl ⟨by rfl, fun w' hSw => by clear hSw; go_simp⟩) (by assumption) ?_
    simp only [Act.put, List.setIfInBounds_toArray, List.set_cons_zero, List.set_cons_succ]
    refine wpAnyH_ready (rs := [9]) (by kernel_rfl) (by simp) ?_
    refine AllReadyH.cons (o := { dst := some 16, op := Op.call { callee := Callee.value (Operand.func 36), args := #[Operand.tmp 15, Operand.const (Value.int IntKind.i64 2)], argTypes := #[3, 3] }, type := 9, pos := "tuple.go:35", after := #[{ on := 8, ground := Ground.data }, { on := 5, ground := Ground.chain }], guard := none }) rfl (fun K hK => ?_) (AllReadyH.nil)
    go_simp
    refine (HG2.out _).mono ?_
    rintro e x2 ⟨rfl, hx2⟩
    have HX2 := hide (o2 HX1.out hx2)
    have HS := hide (HS.out.more hx2)
    clear hx2
    refine hK.out _ _ (HX2.out) (fun hHeld => ?_)
    clear hK K
    try simp only [Act.put, List.setIfInBounds_toArray, List.set_cons_zero, List.set_cons_succ]
    refine wpAnyH_take (i := 10) (oi := { dst := some 17, op := Op.binOp BinOp.add 9 (Operand.tmp 13) (Operand.tmp 16) 9, type := 9, pos := "tuple.go:35", after := #[{ on := 6, ground := Ground.data }, { on := 9, ground := Ground.data }], guard := none }) (v := .string C2) rfl (by kernel_rfl) (by kernel_rfl) (by kernel_rfl) (fun _ _ _ h => h) (Or.inl ⟨by rfl, fun w' hSw => by clear hSw; go_simp⟩) (by assumption) ?_
    simp only [Act.put, List.setIfInBounds_toArray, List.set_cons_zero, List.set_cons_succ]
    refine wpAnyH_ready (rs := [16]) (by kernel_rfl) (by simp) ?_
    refine AllReadyH.cons (o := { dst := some 23, op := Op.call { callee := Callee.value (Operand.func 33), args := #[Operand.tmp 22], argTypes := #[28] }, type := 9, pos := "tuple.go:35", after := #[{ on := 15, ground := Ground.data }, { on := 9, ground := Ground.chain }], guard := none }) rfl (fun K hK => ?_) (AllReadyH.nil)
    go_simp
    refine (HG3.out _ W0.heap.size HS.out).mono ?_
    rintro e x3 ⟨rfl, hx3⟩
    have HX3 := hide (o2 HX2.out hx3)
    clear hx3
    refine hK.out _ _ (HX3.out) (fun hHeld => ?_)
    clear hK K
    try simp only [Act.put, List.setIfInBounds_toArray, List.set_cons_zero, List.set_cons_succ]
    refine wpAnyH_take (i := 17) (oi := { dst := some 24, op := Op.binOp BinOp.add 9 (Operand.tmp 17) (Operand.tmp 23) 9, type := 9, pos := "tuple.go:35", after := #[{ on := 10, ground := Ground.data }, { on := 16, ground := Ground.data }], guard := none }) (v := .string C3) rfl (by kernel_rfl) (by kernel_rfl) (by kernel_rfl) (fun _ _ _ h => h) (Or.inl ⟨by rfl, fun w' hSw => by clear hSw; go_simp⟩) (by assumption) ?_
    simp only [Act.put, List.setIfInBounds_toArray, List.set_cons_zero, List.set_cons_succ]
    refine wpAnyH_take (i := 18) (oi := { dst := some 2, op := Op.assign (Operand.tmp 24), type := 9, pos := "tuple.go:35", after := #[{ on := 17, ground := Ground.data }, { on := 16, ground := Ground.chain }, { on := 0, ground := Ground.phase }, { on := 1, ground := Ground.phase }, { on := 2, ground := Ground.phase }, { on := 3, ground := Ground.phase }, { on := 4, ground := Ground.phase }, { on := 5, ground := Ground.phase }, { on := 6, ground := Ground.phase }, { on := 7, ground := Ground.phase }, { on := 8, ground := Ground.phase }, { on := 9, ground := Ground.phase }, { on := 10, ground := Ground.phase }, { on := 11, ground := Ground.phase }, { on := 12, ground := Ground.phase }, { on := 13, ground := Ground.phase }, { on := 14, ground := Ground.phase }, { on := 15, ground := Ground.phase }, { on := 16, ground := Ground.phase }, { on := 17, ground := Ground.phase }], guard := none }) (v := .string C3) rfl (by kernel_rfl) (by kernel_rfl) (by kernel_rfl) (fun _ _ _ h => h) (Or.inl ⟨by rfl, fun w' hSw => by clear hSw; go_simp⟩) (by assumption) ?_
    simp only [Act.put, List.setIfInBounds_toArray, List.set_cons_zero, List.set_cons_succ]
    refine wpAnyH_take (i := 19) (oi := { dst := some 3, op := Op.assign (Operand.const (Value.int IntKind.i64 0)), type := 49, pos := "tuple.go:35", after := #[{ on := 18, ground := Ground.chain }, { on := 0, ground := Ground.phase }, { on := 1, ground := Ground.phase }, { on := 2, ground := Ground.phase }, { on := 3, ground := Ground.phase }, { on := 4, ground := Ground.phase }, { on := 5, ground := Ground.phase }, { on := 6, ground := Ground.phase }, { on := 7, ground := Ground.phase }, { on := 8, ground := Ground.phase }, { on := 9, ground := Ground.phase }, { on := 10, ground := Ground.phase }, { on := 11, ground := Ground.phase }, { on := 12, ground := Ground.phase }, { on := 13, ground := Ground.phase }, { on := 14, ground := Ground.phase }, { on := 15, ground := Ground.phase }, { on := 16, ground := Ground.phase }, { on := 17, ground := Ground.phase }, { on := 18, ground := Ground.phase }], guard := none }) (v := .int .i64 0) rfl (by kernel_rfl) (by kernel_rfl) (by kernel_rfl) (fun _ _ _ h => h) (Or.inl ⟨by rfl, fun w' hSw => by clear hSw; go_simp⟩) (by assumption) ?_
    simp only [Act.put, List.setIfInBounds_toArray, List.set_cons_zero, List.set_cons_succ]
    refine wpAnyH_done (by kernel_rfl) ?_ _
    refine NoPanic.normal ?_
    rw [Exit.then]
    go_wp2_with fail
    go_ret2
    exact ⟨by simp [HE.out], o2 HO.out HX3.out⟩
/-- What Encode answers. -/
def Tu.out (t : Tu) : List UInt8 := if t.ok then t.enc else []
def Tu.err (t : Tu) : Int := if t.ok then 0 else 110
theorem uencode_any (t : Tu) (w : World) (h0 : -9223372036854775808 ≤ t.xmin ∧ t.xmin < 9223372036854775808) (h1 : -9223372036854775808 ≤ t.xmax ∧ t.xmax < 9223372036854775808) :
    Calls Try.prog 14 #[t.agg] w fun e w' => e = .returned (.tuple #[.string (str t.out), .int .i64 t.err]) ∧ Only (fun _ => False) w w' := by
  unfold Tu.out Tu.err
  cases h : t.ok
  · exact uencode_bad t w h0 h1 h
  · exact uencode_ok t w h
end Go.Proofs.Ytpnbhddmdfcjdaa
