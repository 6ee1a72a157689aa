/- Walk of NodeOrder. -/
import Derived.Test.YthhlmhghiknnkaaNAwake
namespace Go.Proofs.Ythhlmhghiknnkaa
open Go.RowKit

theorem three_new (w : World) (a b c : En) : Ev (((w.alloc (.cells #[.string a.key, .int .i64 a.page, .int .i64 a.slot] 23)).alloc (.cells #[.string b.key, .int .i64 b.page, .int .i64 b.slot] 23)).alloc (.cells #[.string c.key, .int .i64 c.page, .int .i64 c.slot] 23)) w.heap.size a ∧ Ev (((w.alloc (.cells #[.string a.key, .int .i64 a.page, .int .i64 a.slot] 23)).alloc (.cells #[.string b.key, .int .i64 b.page, .int .i64 b.slot] 23)).alloc (.cells #[.string c.key, .int .i64 c.page, .int .i64 c.slot] 23)) (w.heap.size + 1) b ∧ Ev (((w.alloc (.cells #[.string a.key, .int .i64 a.page, .int .i64 a.slot] 23)).alloc (.cells #[.string b.key, .int .i64 b.page, .int .i64 b.slot] 23)).alloc (.cells #[.string c.key, .int .i64 c.page, .int .i64 c.slot] 23)) (w.heap.size + 1 + 1) c ∧ Only (fun _ => False) w (((w.alloc (.cells #[.string a.key, .int .i64 a.page, .int .i64 a.slot] 23)).alloc (.cells #[.string b.key, .int .i64 b.page, .int .i64 b.slot] 23)).alloc (.cells #[.string c.key, .int .i64 c.page, .int .i64 c.slot] 23)) := by
  have e1 := Ev.new (w.alloc (.cells #[.string a.key, .int .i64 a.page, .int .i64 a.slot] 23)) b
  rw [World.size_alloc] at e1
  have e2 := Ev.new ((w.alloc (.cells #[.string a.key, .int .i64 a.page, .int .i64 a.slot] 23)).alloc (.cells #[.string b.key, .int .i64 b.page, .int .i64 b.slot] 23)) c
  rw [World.size_alloc, World.size_alloc] at e2
  exact ⟨(Ev.new w a).more (o2 (onlyA _ _) (onlyA _ _)), e1.more (onlyA _ _), e2, o2 (o2 (onlyA _ _) (onlyA _ _)) (onlyA _ _)⟩
theorem enc_eq {a b : En} (ha : a.ok = true) (hb : b.ok = true) : (a.enc.toList == b.enc.toList) = decide (a = b) := by
  by_cases h : a = b
  · subst h; simp
  · rw [decide_eq_false h]
    refine ba_neN (fun e => h ?_)
    have := congrArg bl e
    rw [bl_enc, bl_enc] at this
    exact lay_inj ha hb this
set_option maxRecDepth 100000 in
set_option maxHeartbeats 6400000 in
theorem nodeOrder_law (w : World) (a b c : En) : Calls Try.prog 6 #[a.agg, b.agg, c.agg] w fun e w' => e = .returned (.bool true) ∧ Only (fun _ => False) w w' := by
  have HAW := hide nawake_any
  have HX := hide (three_new w a b c)
  have HAB : Hid (∀ W, Calls Try.prog 17 #[.agg #[.string a.key, .int .i64 a.page, .int .i64 a.slot], .agg #[.string b.key, .int .i64 b.page, .int .i64 b.slot]] W fun x w' => x = .returned (.int .i64 (cmpE a b)) ∧ Only (fun _ => False) W w') := fun W => compare_any a b W
  have HBA : Hid (∀ W, Calls Try.prog 17 #[.agg #[.string b.key, .int .i64 b.page, .int .i64 b.slot], .agg #[.string a.key, .int .i64 a.page, .int .i64 a.slot]] W fun x w' => x = .returned (.int .i64 (- cmpE a b)) ∧ Only (fun _ => False) W w') := fun W => by
    have := compare_any b a W
    rwa [cmpE_swap b a] at this
  have HAA : Hid (∀ W, Calls Try.prog 17 #[.agg #[.string a.key, .int .i64 a.page, .int .i64 a.slot], .agg #[.string a.key, .int .i64 a.page, .int .i64 a.slot]] W fun x w' => x = .returned (.int .i64 0) ∧ Only (fun _ => False) W w') := fun W => by
    have := compare_any a a W
    rwa [cmpE_zero.2 rfl] at this
  have HBC : Hid (∀ W, Calls Try.prog 17 #[.agg #[.string b.key, .int .i64 b.page, .int .i64 b.slot], .agg #[.string c.key, .int .i64 c.page, .int .i64 c.slot]] W fun x w' => x = .returned (.int .i64 (cmpE b c)) ∧ Only (fun _ => False) W w') := fun W => compare_any b c W
  have HAC : Hid (∀ W, Calls Try.prog 17 #[.agg #[.string a.key, .int .i64 a.page, .int .i64 a.slot], .agg #[.string c.key, .int .i64 c.page, .int .i64 c.slot]] W fun x w' => x = .returned (.int .i64 (cmpE a c)) ∧ Only (fun _ => False) W w') := fun W => compare_any a c W
  have HEA : Hid (∀ W, Calls Try.prog 9 #[.agg #[.string a.key, .int .i64 a.page, .int .i64 a.slot]] W fun x w' => x = .returned (outC a.ok a.enc) ∧ Only (fun _ => False) W w') := fun W => encode_any a W
  have HEB : Hid (∀ W, Calls Try.prog 9 #[.agg #[.string b.key, .int .i64 b.page, .int .i64 b.slot]] W fun x w' => x = .returned (outC b.ok b.enc) ∧ Only (fun _ => False) W w') := fun W => encode_any b W
  have hq := eqE_run a b
  have HZQ : Hid ((cmpE a b == 0) = decide (a = b)) := by
    unfold Hid
    rw [Bool.eq_iff_iff]
    simp only [beq_iff_eq, decide_eq_true_eq]
    exact cmpE_zero
  have HENC := hide (fun ha hb => enc_eq (a := a) (b := b) ha hb)
  have HTR : Hid (cmpE a b < 0 → cmpE b c < 0 → cmpE a c < 0) := fun h1 h2 => cmpE_neg.2 (En.lt_trans (cmpE_neg.1 h1) (cmpE_neg.1 h2))
  have hzv := cmpE_vals a b
  obtain ⟨z, hz⟩ : ∃ z, cmpE a b = z := ⟨_, rfl⟩
  obtain ⟨y, hy⟩ : ∃ z, cmpE b c = z := ⟨_, rfl⟩
  obtain ⟨u, hu⟩ : ∃ z, cmpE a c = z := ⟨_, rfl⟩
  obtain ⟨q, hqq⟩ : ∃ q, decide (a = b) = q := ⟨_, rfl⟩
  rw [hz] at HAB HBA HZQ HTR hzv
  rw [hy] at HBC HTR
  rw [hu] at HAC HTR
  rw [hqq] at hq HZQ HENC
  have hwz : IntKind.i64.wrap z = z := by rw [IntKind.wrap_i64]; omega
  have hzq := HZQ.out
  clear hz hy hu hqq hzv HZQ
  unfold En.agg
  go_enter Try.func6, Try.ntmps6
  go_upto_region 1 with fail
  obtain ⟨W0, hW0⟩ : ∃ x, ((w.alloc (.cells #[.string a.key, .int .i64 a.page, .int .i64 a.slot] 23)).alloc (.cells #[.string b.key, .int .i64 b.page, .int .i64 b.slot] 23)).alloc (.cells #[.string c.key, .int .i64 c.page, .int .i64 c.slot] 23) = x := ⟨_, rfl⟩
  rw [hW0] at HX ⊢
  clear hW0
  -- {r1
  refine wp_region_noPanic ?_
  refine wp_region_held_drew (S := fun W => Only (fun _ => False) W0 W) (by kernel_rfl) (Only.drew _ _) (fun hHeld => ?_)
  refine wpAnyH_take (i := 0) (oi := { dst := some 11, op := Op.load 23 (Operand.tmp 3), type := 23, pos := "law.go:189", after := #[], guard := none }) (v := .agg #[.string a.key, .int .i64 a.page, .int .i64 a.slot]) rfl (by kernel_rfl) (by kernel_rfl) (by kernel_rfl) (fun _ _ _ h => h) (yieldsIf_load_ev (by rfl) _ rfl rfl (fun W hW => HX.out.1.more hW)) (by assumption) ?_
  simp only [Act.put, List.setIfInBounds_toArray, List.set_cons_zero, List.set_cons_succ]
  refine wpAnyH_take (i := 1) (oi := { dst := some 12, op := Op.load 23 (Operand.tmp 4), type := 23, pos := "law.go:189", after := #[], guard := none }) (v := .agg #[.string b.key, .int .i64 b.page, .int .i64 b.slot]) rfl (by kernel_rfl) (by kernel_rfl) (by kernel_rfl) (fun _ _ _ h => h) (yieldsIf_load_ev (by rfl) _ rfl rfl (fun W hW => HX.out.2.1.more hW)) (by assumption) ?_
  simp only [Act.put, List.setIfInBounds_toArray, List.set_cons_zero, List.set_cons_succ]
  refine wpAnyH_take (i := 3) (oi := { dst := some 14, op := Op.load 23 (Operand.tmp 4), type := 23, pos := "law.go:189", after := #[], guard := none }) (v := .agg #[.string b.key, .int .i64 b.page, .int .i64 b.slot]) rfl (by kernel_rfl) (by kernel_rfl) (by kernel_rfl) (fun _ _ _ h => h) (yieldsIf_load_ev (by rfl) _ rfl rfl (fun W hW => HX.out.2.1.more hW)) (by assumption) ?_
  simp only [Act.put, List.setIfInBounds_toArray, List.set_cons_zero, List.set_cons_succ]
  refine wpAnyH_take (i := 4) (oi := { dst := some 15, op := Op.load 23 (Operand.tmp 3), type := 23, pos := "law.go:189", after := #[], guard := none }) (v := .agg #[.string a.key, .int .i64 a.page, .int .i64 a.slot]) rfl (by kernel_rfl) (by kernel_rfl) (by kernel_rfl) (fun _ _ _ h => h) (yieldsIf_load_ev (by rfl) _ rfl rfl (fun W hW => HX.out.1.more hW)) (by assumption) ?_
  simp only [Act.put, List.setIfInBounds_toArray, List.set_cons_zero, List.set_cons_succ]
  refine wpAnyH_ready (rs := [2]) (by kernel_rfl) (by simp) ?_
  refine AllReadyH.cons (o := { dst := some 13, op := Op.call { callee := Callee.value (Operand.func 17), args := #[Operand.tmp 11, Operand.tmp 12], argTypes := #[23, 23] }, type := 3, pos := "law.go:189", after := #[{ on := 0, ground := Ground.data }, { on := 1, ground := Ground.data }], guard := none }) rfl (fun K hK => ?_) (AllReadyH.nil)
  go_simp
  refine (HAB.out _).mono ?_
  rintro x x1 ⟨rfl, hx1⟩
  have HX1 := hide (o2 hHeld hx1)
  clear hx1
  refine hK.out _ _ (HX1.out) (fun hHeld => ?_)
  clear hK K
  try simp only [Act.put, List.setIfInBounds_toArray, List.set_cons_zero, List.set_cons_succ]
  refine wpAnyH_ready (rs := [5]) (by kernel_rfl) (by simp) ?_
  refine AllReadyH.cons (o := { dst := some 16, op := Op.call { callee := Callee.value (Operand.func 17), args := #[Operand.tmp 14, Operand.tmp 15], argTypes := #[23, 23] }, type := 3, pos := "law.go:189", after := #[{ on := 3, ground := Ground.data }, { on := 4, ground := Ground.data }, { on := 2, ground := Ground.chain }], guard := none }) rfl (fun K hK => ?_) (AllReadyH.nil)
  go_simp
  refine (HBA.out _).mono ?_
  rintro x x2 ⟨rfl, hx2⟩
  have HX2 := hide (o2 HX1.out hx2)
  clear hx2
  refine hK.out _ _ (HX2.out) (fun hHeld => ?_)
  clear hK K
  try simp only [Act.put, List.setIfInBounds_toArray, List.set_cons_zero, List.set_cons_succ]
  refine wpAnyH_take (i := 6) (oi := { dst := some 17, op := Op.unOp UnOp.neg 3 (Operand.tmp 16), type := 3, pos := "law.go:189", after := #[{ on := 5, ground := Ground.data }], guard := none }) (v := .int .i64 z) rfl (by kernel_rfl) (by kernel_rfl) (by kernel_rfl) (fun _ _ _ h => h) (Or.inl ⟨by rfl, fun w' hSw => by clear hSw; go_simp⟩) (by assumption) ?_
  simp only [Act.put, List.setIfInBounds_toArray, List.set_cons_zero, List.set_cons_succ]
  refine wpAnyH_take (i := 7) (oi := { dst := some 18, op := Op.binOp BinOp.neq 3 (Operand.tmp 13) (Operand.tmp 17) 3, type := 4, pos := "law.go:189", after := #[{ on := 2, ground := Ground.data }, { on := 6, ground := Ground.data }], guard := none }) (v := .bool false) rfl (by kernel_rfl) (by kernel_rfl) (by kernel_rfl) (fun _ _ _ h => h) (Or.inl ⟨by rfl, fun w' hSw => by clear hSw; go_simp⟩) (by assumption) ?_
  simp only [Act.put, List.setIfInBounds_toArray, List.set_cons_zero, List.set_cons_succ]
  refine wpAnyH_take (i := 8) (oi := { dst := some 19, op := Op.move (Operand.tmp 18), type := 4, pos := "law.go:189", after := #[{ on := 7, ground := Ground.data }, { on := 5, ground := Ground.chain }], guard := none }) (v := .bool false) rfl (by kernel_rfl) (by kernel_rfl) (by kernel_rfl) (fun _ _ _ h => h) (Or.inl ⟨by rfl, fun w' hSw => by clear hSw; go_simp⟩) (by assumption) ?_
  simp only [Act.put, List.setIfInBounds_toArray, List.set_cons_zero, List.set_cons_succ]
  refine wpAnyH_take (i := 9) (oi := { dst := some 20, op := Op.load 23 (Operand.tmp 3), type := 23, pos := "law.go:189", after := #[{ on := 8, ground := Ground.guard }], guard := some (8, false) }) (v := .agg #[.string a.key, .int .i64 a.page, .int .i64 a.slot]) rfl (by kernel_rfl) (by kernel_rfl) (by kernel_rfl) (fun _ _ _ h => h) (yieldsIf_load_ev (by rfl) _ rfl rfl (fun W hW => HX.out.1.more hW)) (by assumption) ?_
  simp only [Act.put, List.setIfInBounds_toArray, List.set_cons_zero, List.set_cons_succ]
  refine wpAnyH_take (i := 10) (oi := { dst := some 21, op := Op.load 23 (Operand.tmp 4), type := 23, pos := "law.go:189", after := #[{ on := 8, ground := Ground.guard }], guard := some (8, false) }) (v := .agg #[.string b.key, .int .i64 b.page, .int .i64 b.slot]) rfl (by kernel_rfl) (by kernel_rfl) (by kernel_rfl) (fun _ _ _ h => h) (yieldsIf_load_ev (by rfl) _ rfl rfl (fun W hW => HX.out.2.1.more hW)) (by assumption) ?_
  simp only [Act.put, List.setIfInBounds_toArray, List.set_cons_zero, List.set_cons_succ]
  refine wpAnyH_take (i := 13) (oi := { dst := some 24, op := Op.load 23 (Operand.tmp 3), type := 23, pos := "law.go:189", after := #[{ on := 8, ground := Ground.guard }], guard := some (8, false) }) (v := .agg #[.string a.key, .int .i64 a.page, .int .i64 a.slot]) rfl (by kernel_rfl) (by kernel_rfl) (by kernel_rfl) (fun _ _ _ h => h) (yieldsIf_load_ev (by rfl) _ rfl rfl (fun W hW => HX.out.1.more hW)) (by assumption) ?_
  simp only [Act.put, List.setIfInBounds_toArray, List.set_cons_zero, List.set_cons_succ]
  refine wpAnyH_take (i := 14) (oi := { dst := some 25, op := Op.load 23 (Operand.tmp 4), type := 23, pos := "law.go:189", after := #[{ on := 8, ground := Ground.guard }], guard := some (8, false) }) (v := .agg #[.string b.key, .int .i64 b.page, .int .i64 b.slot]) rfl (by kernel_rfl) (by kernel_rfl) (by kernel_rfl) (fun _ _ _ h => h) (yieldsIf_load_ev (by rfl) _ rfl rfl (fun W hW => HX.out.2.1.more hW)) (by assumption) ?_
  simp only [Act.put, List.setIfInBounds_toArray, List.set_cons_zero, List.set_cons_succ]
  refine wpAnyH_take (i := 15) (oi := { dst := some 26, op := Op.binOp BinOp.eql 23 (Operand.tmp 24) (Operand.tmp 25) 23, type := 4, pos := "law.go:189", after := #[{ on := 13, ground := Ground.data }, { on := 14, ground := Ground.data }, { on := 8, ground := Ground.guard }], guard := some (8, false) }) (v := .bool q) rfl (by kernel_rfl) (by kernel_rfl) (by kernel_rfl) (fun _ _ _ h => h) (Or.inl ⟨by rfl, fun w' hSw => by clear hSw; go_simp⟩) (by assumption) ?_
  simp only [Act.put, List.setIfInBounds_toArray, List.set_cons_zero, List.set_cons_succ]
  refine wpAnyH_ready (rs := [11]) (by kernel_rfl) (by simp) ?_
  refine AllReadyH.cons (o := { dst := some 22, op := Op.call { callee := Callee.value (Operand.func 17), args := #[Operand.tmp 20, Operand.tmp 21], argTypes := #[23, 23] }, type := 3, pos := "law.go:189", after := #[{ on := 9, ground := Ground.data }, { on := 10, ground := Ground.data }, { on := 8, ground := Ground.chain }, { on := 8, ground := Ground.guard }], guard := some (8, false) }) rfl (fun K hK => ?_) (AllReadyH.nil)
  go_simp
  refine (HAB.out _).mono ?_
  rintro x x3 ⟨rfl, hx3⟩
  have HX3 := hide (o2 HX2.out hx3)
  clear hx3
  refine hK.out _ _ (HX3.out) (fun hHeld => ?_)
  clear hK K
  try simp only [Act.put, List.setIfInBounds_toArray, List.set_cons_zero, List.set_cons_succ]
  refine wpAnyH_take (i := 12) (oi := { dst := some 23, op := Op.binOp BinOp.eql 3 (Operand.tmp 22) (Operand.const (Value.int IntKind.i64 0)) 3, type := 4, pos := "law.go:189", after := #[{ on := 11, ground := Ground.data }, { on := 8, ground := Ground.guard }], guard := some (8, false) }) (v := .bool q) rfl (by kernel_rfl) (by kernel_rfl) (by kernel_rfl) (fun _ _ _ h => h) (Or.inl ⟨by rfl, fun w' hSw => by clear hSw; go_simp⟩) (by assumption) ?_
  simp only [Act.put, List.setIfInBounds_toArray, List.set_cons_zero, List.set_cons_succ]
  refine wpAnyH_take (i := 16) (oi := { dst := some 27, op := Op.binOp BinOp.neq 4 (Operand.tmp 23) (Operand.tmp 26) 4, type := 4, pos := "law.go:189", after := #[{ on := 12, ground := Ground.data }, { on := 15, ground := Ground.data }, { on := 8, ground := Ground.guard }], guard := some (8, false) }) (v := .bool false) rfl (by kernel_rfl) (by kernel_rfl) (by kernel_rfl) (fun _ _ _ h => h) (Or.inl ⟨by rfl, fun w' hSw => by clear hSw; go_simp⟩) (by assumption) ?_
  simp only [Act.put, List.setIfInBounds_toArray, List.set_cons_zero, List.set_cons_succ]
  refine wpAnyH_take (i := 17) (oi := { dst := some 28, op := Op.pick (Operand.tmp 19) (Operand.const (Value.bool true)) (Operand.tmp 27), type := 4, pos := "law.go:189", after := #[{ on := 8, ground := Ground.data }, { on := 16, ground := Ground.data }], guard := none }) (v := .bool false) rfl (by kernel_rfl) (by kernel_rfl) (by kernel_rfl) (fun _ _ _ h => h) (Or.inl ⟨by rfl, fun w' hSw => by clear hSw; go_simp⟩) (by assumption) ?_
  simp only [Act.put, List.setIfInBounds_toArray, List.set_cons_zero, List.set_cons_succ]
  refine wpAnyH_take (i := 18) (oi := { dst := some 29, op := Op.move (Operand.tmp 28), type := 4, pos := "law.go:189", after := #[{ on := 17, ground := Ground.data }, { on := 11, ground := Ground.chain }], guard := none }) (v := .bool false) rfl (by kernel_rfl) (by kernel_rfl) (by kernel_rfl) (fun _ _ _ h => h) (Or.inl ⟨by rfl, fun w' hSw => by clear hSw; go_simp⟩) (by assumption) ?_
  simp only [Act.put, List.setIfInBounds_toArray, List.set_cons_zero, List.set_cons_succ]
  refine wpAnyH_take (i := 19) (oi := { dst := some 30, op := Op.load 23 (Operand.tmp 3), type := 23, pos := "law.go:189", after := #[{ on := 18, ground := Ground.guard }], guard := some (18, false) }) (v := .agg #[.string a.key, .int .i64 a.page, .int .i64 a.slot]) rfl (by kernel_rfl) (by kernel_rfl) (by kernel_rfl) (fun _ _ _ h => h) (yieldsIf_load_ev (by rfl) _ rfl rfl (fun W hW => HX.out.1.more hW)) (by assumption) ?_
  simp only [Act.put, List.setIfInBounds_toArray, List.set_cons_zero, List.set_cons_succ]
  refine wpAnyH_take (i := 20) (oi := { dst := some 31, op := Op.load 23 (Operand.tmp 3), type := 23, pos := "law.go:189", after := #[{ on := 18, ground := Ground.guard }], guard := some (18, false) }) (v := .agg #[.string a.key, .int .i64 a.page, .int .i64 a.slot]) rfl (by kernel_rfl) (by kernel_rfl) (by kernel_rfl) (fun _ _ _ h => h) (yieldsIf_load_ev (by rfl) _ rfl rfl (fun W hW => HX.out.1.more hW)) (by assumption) ?_
  simp only [Act.put, List.setIfInBounds_toArray, List.set_cons_zero, List.set_cons_succ]
  refine wpAnyH_ready (rs := [21]) (by kernel_rfl) (by simp) ?_
  refine AllReadyH.cons (o := { dst := some 32, op := Op.call { callee := Callee.value (Operand.func 17), args := #[Operand.tmp 30, Operand.tmp 31], argTypes := #[23, 23] }, type := 3, pos := "law.go:189", after := #[{ on := 19, ground := Ground.data }, { on := 20, ground := Ground.data }, { on := 18, ground := Ground.chain }, { on := 18, ground := Ground.guard }], guard := some (18, false) }) rfl (fun K hK => ?_) (AllReadyH.nil)
  go_simp
  refine (HAA.out _).mono ?_
  rintro x x4 ⟨rfl, hx4⟩
  have HX4 := hide (o2 HX3.out hx4)
  clear hx4
  refine hK.out _ _ (HX4.out) (fun hHeld => ?_)
  clear hK K
  try simp only [Act.put, List.setIfInBounds_toArray, List.set_cons_zero, List.set_cons_succ]
  refine wpAnyH_take (i := 22) (oi := { dst := some 33, op := Op.binOp BinOp.neq 3 (Operand.tmp 32) (Operand.const (Value.int IntKind.i64 0)) 3, type := 4, pos := "law.go:189", after := #[{ on := 21, ground := Ground.data }, { on := 18, ground := Ground.guard }], guard := some (18, false) }) (v := .bool false) rfl (by kernel_rfl) (by kernel_rfl) (by kernel_rfl) (fun _ _ _ h => h) (Or.inl ⟨by rfl, fun w' hSw => by clear hSw; go_simp⟩) (by assumption) ?_
  simp only [Act.put, List.setIfInBounds_toArray, List.set_cons_zero, List.set_cons_succ]
  refine wpAnyH_take (i := 23) (oi := { dst := some 34, op := Op.pick (Operand.tmp 29) (Operand.const (Value.bool true)) (Operand.tmp 33), type := 4, pos := "law.go:189", after := #[{ on := 18, ground := Ground.data }, { on := 22, ground := Ground.data }], guard := none }) (v := .bool false) rfl (by kernel_rfl) (by kernel_rfl) (by kernel_rfl) (fun _ _ _ h => h) (Or.inl ⟨by rfl, fun w' hSw => by clear hSw; go_simp⟩) (by assumption) ?_
  simp only [Act.put, List.setIfInBounds_toArray, List.set_cons_zero, List.set_cons_succ]
  refine wpAnyH_done (by kernel_rfl) ?_ _
  refine NoPanic.normal ?_
  rw [Exit.then]
  -- r1}
  have HV1 := hide (HX.out.1.more HX4.out)
  have HV2 := hide (HX.out.2.1.more HX4.out)
  have HV3 := hide (HX.out.2.2.1.more HX4.out)
  have HO1 := hide (o2 HX.out.2.2.2 HX4.out)
  clear HX HX1 HX2 HX3 HX4 hwz hzq
  go_upto_region 3 with fail
  go_cut [50] (fun t wx => t = .bool false ∧ Hid (Only (fun _ => False) x4 wx))
  case first =>
    obtain ⟨d0, d1, d2, _⟩ := HV1.out
    obtain ⟨e0, e1, e2, _⟩ := HV2.out
    go_wp2_with fail
    refine (HAB.out _).mono ?_
    rintro x y1 ⟨rfl, ho⟩
    have HY1 := hide ho
    clear ho d0 d1 d2 e0 e1 e2
    by_cases h1 : z < 0
    · obtain ⟨d0, d1, d2, _⟩ := HV2.out.more HY1.out
      obtain ⟨e0, e1, e2, _⟩ := HV3.out.more HY1.out
      go_wp2_with fail
      refine (HBC.out _).mono ?_
      rintro x y2 ⟨rfl, ho⟩
      have HY2 := hide (o2 HY1.out ho)
      clear ho d0 d1 d2 e0 e1 e2
      by_cases h2 : y < 0
      · have h3 : ¬ (0 : Int) ≤ u := by have := HTR.out h1 h2; omega
        obtain ⟨d0, d1, d2, _⟩ := HV1.out.more HY2.out
        obtain ⟨e0, e1, e2, _⟩ := HV3.out.more HY2.out
        go_wp2_with fail
        refine (HAC.out _).mono ?_
        rintro x y3 ⟨rfl, ho⟩
        have HY3 := hide (o2 HY2.out ho)
        clear ho d0 d1 d2 e0 e1 e2
        go_wp2_with fail
        go_meet
        exact ⟨congrArg Value.bool (decide_eq_false (by omega)), HY3⟩
      · go_wp2_with fail
        go_meet
        exact ⟨rfl, HY2⟩
    · go_wp2_with fail
      go_meet
      exact ⟨rfl, HY1⟩
  case rest =>
    obtain ⟨rfl, HC⟩ := hcut
    have HV4 := hide (HV1.out.more HC.out)
    have HV5 := hide (HV2.out.more HC.out)
    have HO4 := hide (o2 HO1.out HC.out)
    clear HV1 HV2 HV3 HO1 HC HTR HAC HBC HAB HBA HAA
    obtain ⟨d0, d1, d2, _⟩ := HV4.out
    unfold outC at HEA HEB
    obtain ⟨OA, hOA⟩ : ∃ o, a.ok = o := ⟨_, rfl⟩
    obtain ⟨OB, hOB⟩ : ∃ o, b.ok = o := ⟨_, rfl⟩
    obtain ⟨EA, hEA⟩ : ∃ o, a.enc = o := ⟨_, rfl⟩
    obtain ⟨EB, hEB⟩ : ∃ o, b.enc = o := ⟨_, rfl⟩
    rw [hOA, hEA] at HEA
    rw [hOB, hEB] at HEB
    rw [hOA, hOB, hEA, hEB] at HENC
    clear hOA hOB hEA hEB
    obtain ⟨SA, hSA⟩ : ∃ s, (if OA = true then EA else ⟨#[]⟩) = s := ⟨_, rfl⟩
    obtain ⟨SB, hSB⟩ : ∃ s, (if OB = true then EB else ⟨#[]⟩) = s := ⟨_, rfl⟩
    obtain ⟨CA, hCA⟩ : ∃ s : Int, (if OA = true then 0 else 140) = s := ⟨_, rfl⟩
    obtain ⟨CB, hCB⟩ : ∃ s : Int, (if OB = true then 0 else 140) = s := ⟨_, rfl⟩
    rw [hSA, hCA] at HEA
    rw [hSB, hCB] at HEB
    have HF : Hid ((CA = 0 ∧ CB = 0 ∧ (SA.toList == SB.toList) = q) ∨ (CA = 0 ∧ ¬ CB = 0) ∨ ¬ CA = 0) := by
      unfold Hid
      cases OA with
      | false => exact .inr (.inr (by rw [← hCA]; simp))
      | true =>
        cases OB with
        | false => exact .inr (.inl ⟨by rw [← hCA]; simp, by rw [← hCB]; simp⟩)
        | true => exact .inl ⟨by rw [← hCA]; simp, by rw [← hCB]; simp, by rw [← hSA, ← hSB]; simp only [if_true]; exact HENC.out rfl rfl⟩
    clear hSA hSB hCA hCB HENC
    go_wp2_with fail
    refine (HEA.out _).mono ?_
    rintro x w5 ⟨rfl, ho⟩
    have HV6 := hide (HV4.out.more ho)
    have HV7 := hide (HV5.out.more ho)
    have HO6 := hide (o2 HO4.out ho)
    clear ho d0 d1 d2 HV4 HV5 HO4 HEA
    obtain ⟨d0, d1, d2, _⟩ := HV7.out
    go_wp2_with fail
    refine (HEB.out _).mono ?_
    rintro x w6 ⟨rfl, ho⟩
    have HV8 := hide (HV6.out.more ho)
    have HV9 := hide (HV7.out.more ho)
    have HO8 := hide (o2 HO6.out ho)
    clear ho d0 d1 d2 HV6 HV7 HO6 HEB
    obtain ⟨d0, d1, d2, _⟩ := HV8.out
    obtain ⟨e0, e1, e2, _⟩ := HV9.out
    go_upto_region 7 with fail
    go_cut [75] (fun t wx => t = .bool false ∧ wx = w6)
    case first =>
      rcases HF.out with ⟨h1, h2, h3⟩ | ⟨h1, h2⟩ | h1
      · subst h1 h2
        go_wp2_with fail
        go_meet
        exact ⟨rfl, rfl⟩
      · subst h1
        have h2' : (CB == 0) = false := by simpa using h2
        go_wp2_with fail
        go_meet
        exact ⟨rfl, rfl⟩
      · have h1' : (CA == 0) = false := by simpa using h1
        go_wp2_with fail
        go_meet
        exact ⟨rfl, rfl⟩
    case rest =>
      obtain ⟨rfl, hx⟩ := hcut
      obtain rfl := hx.symm
      go_wp2_with fail
      refine (HAW.out _).mono ?_
      rintro x w7 ⟨rfl, ho⟩
      have HO9 := hide (o2 HO8.out ho)
      clear ho
      go_wp2_with fail
      go_ret
      exact ⟨rfl, HO9.out⟩
end Go.Proofs.Ythhlmhghiknnkaa
