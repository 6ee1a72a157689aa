/- Walk of NodeCodes. -/
import Derived.Test.YthhlmhghiknnkaaNRefD
import Derived.Test.YthhlmhghiknnkaaNRefC
import Derived.Test.YthhlmhghiknnkaaNAwake
namespace Go.Proofs.Ythhlmhghiknnkaa
open Go.RowKit

theorem two_new (w : World) (a b : En) : Ev ((w.alloc (.cells #[.string a.key, .int .i64 a.page, .int .i64 a.slot] 23)).alloc (.cells #[.string b.key, .int .i64 b.page, .int .i64 b.slot] 23)) w.heap.size a ∧ Ev ((w.alloc (.cells #[.string a.key, .int .i64 a.page, .int .i64 a.slot] 23)).alloc (.cells #[.string b.key, .int .i64 b.page, .int .i64 b.slot] 23)) (w.heap.size + 1) b ∧ Only (fun _ => False) w ((w.alloc (.cells #[.string a.key, .int .i64 a.page, .int .i64 a.slot] 23)).alloc (.cells #[.string b.key, .int .i64 b.page, .int .i64 b.slot] 23)) := by
  have e1 := Ev.new (w.alloc (.cells #[.string a.key, .int .i64 a.page, .int .i64 a.slot] 23)) b
  rw [World.size_alloc] at e1
  exact ⟨(Ev.new w a).more (onlyA _ _), e1, o2 (onlyA _ _) (onlyA _ _)⟩
set_option maxRecDepth 100000 in
set_option maxHeartbeats 6400000 in
theorem nodeCodes_law (w : World) (a b : En) (s : ByteArray) (hs : s.size ≤ 140737488355328) : Calls Try.prog 3 #[a.agg, b.agg, .string s] w fun e w' => e = .returned (.bool true) ∧ Only (fun _ => False) w w' := by
  have HAW := hide nawake_any
  have HX := hide (two_new w a b)
  have HAB : Hid (∀ W, Calls Try.prog 17 #[.agg #[.string a.key, .int .i64 a.page, .int .i64 a.slot], .agg #[.string b.key, .int .i64 b.page, .int .i64 b.slot]] W fun x w' => x = .returned (.int .i64 (cmpE a b)) ∧ Only (fun _ => False) W w') := fun W => compare_any a b W
  have HAF : Hid (∀ W, Calls Try.prog 18 #[.agg #[.string a.key, .int .i64 a.page, .int .i64 a.slot], .agg #[.string b.key, .int .i64 b.page, .int .i64 b.slot]] W fun x w' => x = .returned (.int .i64 (cmpE a b)) ∧ Only (fun _ => False) W w') := fun W => fcompare_any a b W
  obtain ⟨SA, hSA⟩ : ∃ s, (if a.ok = true then a.enc else ⟨#[]⟩) = s := ⟨_, rfl⟩
  obtain ⟨CA, hCA⟩ : ∃ c : Int, (if a.ok = true then 0 else 140) = c := ⟨_, rfl⟩
  obtain ⟨SB, hSB⟩ : ∃ s, (if (a.sp && okC b.page) = true then a.encS b.page else ⟨#[]⟩) = s := ⟨_, rfl⟩
  obtain ⟨CB, hCB⟩ : ∃ c : Int, (if (a.sp && okC b.page) = true then 0 else 140) = c := ⟨_, rfl⟩
  have HEA : Hid (∀ W, Calls Try.prog 9 #[.agg #[.string a.key, .int .i64 a.page, .int .i64 a.slot]] W fun x w' => x = .returned (.tuple #[.string SA, .int .i64 CA]) ∧ Only (fun _ => False) W w') := fun W => by
    have := encode_any a W
    unfold outC at this
    rwa [hSA, hCA] at this
  have HEF : Hid (∀ W, Calls Try.prog 10 #[.agg #[.string a.key, .int .i64 a.page, .int .i64 a.slot]] W fun x w' => x = .returned (.tuple #[.string SA, .int .i64 CA]) ∧ Only (fun _ => False) W w') := fun W => by
    have := fencode_any a W
    unfold outC at this
    rwa [hSA, hCA] at this
  have HSA : Hid (∀ W, Calls Try.prog 11 #[.agg #[.string a.key, .int .i64 a.page, .int .i64 a.slot], .int .i64 b.page] W fun x w' => x = .returned (.tuple #[.string SB, .int .i64 CB]) ∧ Only (fun _ => False) W w') := fun W => by
    have := sep_any a b.page W
    unfold outC at this
    rwa [hSB, hCB] at this
  have HSF : Hid (∀ W, Calls Try.prog 12 #[.agg #[.string a.key, .int .i64 a.page, .int .i64 a.slot], .int .i64 b.page] W fun x w' => x = .returned (.tuple #[.string SB, .int .i64 CB]) ∧ Only (fun _ => False) W w') := fun W => by
    have := fsep_any a b.page W
    unfold outC at this
    rwa [hSB, hCB] at this
  obtain ⟨X, hX⟩ : ∃ x, (decE (bl s)).getD noE = x := ⟨_, rfl⟩
  obtain ⟨CX, hCX⟩ : ∃ c : Int, (if (decE (bl s)).isSome then 0 else 140) = c := ⟨_, rfl⟩
  obtain ⟨Y, hY⟩ : ∃ x, (decS (bl s)).getD (noE, 0) = x := ⟨_, rfl⟩
  obtain ⟨CY, hCY⟩ : ∃ c : Int, (if (decS (bl s)).isSome then 0 else 140) = c := ⟨_, rfl⟩
  have HDA : Hid (∀ W, Calls Try.prog 13 #[.string s] W fun x w' => x = .returned (.tuple #[.agg #[.string X.key, .int .i64 X.page, .int .i64 X.slot], .int .i64 CX]) ∧ Only (fun _ => False) W w') := fun W => by
    have := decode_any s W
    unfold outE En.agg at this
    rwa [hX, hCX] at this
  have HDF : Hid (∀ W, Calls Try.prog 14 #[.string s] W fun x w' => x = .returned (.tuple #[.agg #[.string X.key, .int .i64 X.page, .int .i64 X.slot], .int .i64 CX]) ∧ Only (fun _ => False) W w') := fun W => by
    have := fdecode_any s W (by unfold maxLen; omega)
    unfold outE En.agg at this
    rwa [hX, hCX] at this
  have HUA : Hid (∀ W, Calls Try.prog 15 #[.string s] W fun x w' => x = .returned (.tuple #[.agg #[.string Y.1.key, .int .i64 Y.1.page, .int .i64 Y.1.slot], .int .i64 Y.2, .int .i64 CY]) ∧ Only (fun _ => False) W w') := fun W => by
    have := unsep_any s W
    unfold outS En.agg at this
    rwa [hY, hCY] at this
  have HUF : Hid (∀ W, Calls Try.prog 16 #[.string s] W fun x w' => x = .returned (.tuple #[.agg #[.string Y.1.key, .int .i64 Y.1.page, .int .i64 Y.1.slot], .int .i64 Y.2, .int .i64 CY]) ∧ Only (fun _ => False) W w') := fun W => by
    have := funsep_any s W (by unfold maxLen; omega)
    unfold outS En.agg at this
    rwa [hY, hCY] at this
  obtain ⟨Y1, Y2⟩ := Y
  simp only [] at HUA HUF
  have hqx := eqE_run X X
  have hqy := eqE_run Y1 Y1
  rw [decide_eq_true rfl] at hqx hqy
  obtain ⟨z, hz⟩ : ∃ z, cmpE a b = z := ⟨_, rfl⟩
  rw [hz] at HAB HAF
  clear hSA hCA hSB hCB hX hCX hY hCY hz hs
  unfold En.agg
  go_enter Try.func3, Try.ntmps3
  go_upto_region 1 with fail
  obtain ⟨W0, hW0⟩ : ∃ x, (w.alloc (.cells #[.string a.key, .int .i64 a.page, .int .i64 a.slot] 23)).alloc (.cells #[.string b.key, .int .i64 b.page, .int .i64 b.slot] 23) = x := ⟨_, rfl⟩
  rw [hW0] at HX ⊢
  clear hW0
  have HA0 := hide HX.out.1
  have HB0 := hide HX.out.2.1
  have HO0 := hide HX.out.2.2
  clear HX
  obtain ⟨d0, d1, d2, _⟩ := HA0.out
  go_wp2_with fail
  refine (HEA.out _).mono ?_
  rintro x w1 ⟨rfl, ho⟩
  have HA1 := hide (HA0.out.more ho)
  have HB1 := hide (HB0.out.more ho)
  have HO1 := hide (o2 HO0.out ho)
  clear ho d0 d1 d2 HA0 HB0 HO0
  obtain ⟨d0, d1, d2, _⟩ := HA1.out
  go_wp2_with fail
  refine (HEF.out _).mono ?_
  rintro x w2 ⟨rfl, ho⟩
  have HA2 := hide (HA1.out.more ho)
  have HB2 := hide (HB1.out.more ho)
  have HO2 := hide (o2 HO1.out ho)
  clear ho d0 d1 d2 HA1 HB1 HO1
  obtain ⟨d0, d1, d2, _⟩ := HA2.out
  have e1 := HB2.out.c1
  go_wp2_with fail
  refine (HSA.out _).mono ?_
  rintro x w3 ⟨rfl, ho⟩
  have HA3 := hide (HA2.out.more ho)
  have HB3 := hide (HB2.out.more ho)
  have HO3 := hide (o2 HO2.out ho)
  clear ho d0 d1 d2 e1 HA2 HB2 HO2
  obtain ⟨d0, d1, d2, _⟩ := HA3.out
  have e1 := HB3.out.c1
  go_wp2_with fail
  refine (HSF.out _).mono ?_
  rintro x w4 ⟨rfl, ho⟩
  have HA4 := hide (HA3.out.more ho)
  have HB4 := hide (HB3.out.more ho)
  have HO4 := hide (o2 HO3.out ho)
  clear ho d0 d1 d2 e1 HA3 HB3 HO3
  go_wp2_with fail
  refine (HDA.out _).mono ?_
  rintro x w5 ⟨rfl, ho⟩
  have HA5 := hide (HA4.out.more ho)
  have HB5 := hide (HB4.out.more ho)
  have HO5 := hide (o2 HO4.out ho)
  clear ho HA4 HB4 HO4
  go_upto_region 6 with fail
  have HN := hide (onlyA w5 (.cells #[.string X.key, .int .i64 X.page, .int .i64 X.slot] 23))
  have HX6 := hide (Ev.new w5 X)
  obtain ⟨bx, hbx⟩ : ∃ b, w5.heap.size = b := ⟨_, rfl⟩
  rw [hbx] at HX6 ⊢
  clear hbx
  obtain ⟨w6, hw6⟩ : ∃ x, w5.alloc (.cells #[.string X.key, .int .i64 X.page, .int .i64 X.slot] 23) = x := ⟨_, rfl⟩
  rw [hw6] at HN HX6 ⊢
  clear hw6
  have HA6 := hide (HA5.out.more HN.out)
  have HB6 := hide (HB5.out.more HN.out)
  have HO6 := hide (o2 HO5.out HN.out)
  clear HN HA5 HB5 HO5
  go_wp2_with fail
  refine (HDF.out _).mono ?_
  rintro x w7 ⟨rfl, ho⟩
  have HA7 := hide (HA6.out.more ho)
  have HB7 := hide (HB6.out.more ho)
  have HX7 := hide (HX6.out.more ho)
  have HO7 := hide (o2 HO6.out ho)
  clear ho HA6 HB6 HX6 HO6
  go_upto_region 7 with fail
  have HN := hide (onlyA w7 (.cells #[.string X.key, .int .i64 X.page, .int .i64 X.slot] 23))
  have HZ8 := hide (Ev.new w7 X)
  obtain ⟨bz, hbz⟩ : ∃ b, w7.heap.size = b := ⟨_, rfl⟩
  rw [hbz] at HZ8 ⊢
  clear hbz
  obtain ⟨w8, hw8⟩ : ∃ x, w7.alloc (.cells #[.string X.key, .int .i64 X.page, .int .i64 X.slot] 23) = x := ⟨_, rfl⟩
  rw [hw8] at HN HZ8 ⊢
  clear hw8
  have HA8 := hide (HA7.out.more HN.out)
  have HB8 := hide (HB7.out.more HN.out)
  have HX8 := hide (HX7.out.more HN.out)
  have HO8 := hide (o2 HO7.out HN.out)
  clear HN HA7 HB7 HX7 HO7
  go_wp2_with fail
  refine (HUA.out _).mono ?_
  rintro x w9 ⟨rfl, ho⟩
  have HA9 := hide (HA8.out.more ho)
  have HB9 := hide (HB8.out.more ho)
  have HX9 := hide (HX8.out.more ho)
  have HZ9 := hide (HZ8.out.more ho)
  have HO9 := hide (o2 HO8.out ho)
  clear ho HA8 HB8 HX8 HZ8 HO8
  go_upto_region 8 with fail
  have HN := hide (onlyA w9 (.cells #[.string Y1.key, .int .i64 Y1.page, .int .i64 Y1.slot] 23))
  have HY10 := hide (Ev.new w9 Y1)
  obtain ⟨b19, hb19⟩ : ∃ b, w9.heap.size = b := ⟨_, rfl⟩
  rw [hb19] at HY10 ⊢
  clear hb19
  obtain ⟨w10, hw10⟩ : ∃ x, w9.alloc (.cells #[.string Y1.key, .int .i64 Y1.page, .int .i64 Y1.slot] 23) = x := ⟨_, rfl⟩
  rw [hw10] at HN HY10 ⊢
  clear hw10
  have HA10 := hide (HA9.out.more HN.out)
  have HB10 := hide (HB9.out.more HN.out)
  have HX10 := hide (HX9.out.more HN.out)
  have HZ10 := hide (HZ9.out.more HN.out)
  have HO10 := hide (o2 HO9.out HN.out)
  clear HN HA9 HB9 HX9 HZ9 HO9
  go_wp2_with fail
  refine (HUF.out _).mono ?_
  rintro x w11 ⟨rfl, ho⟩
  have HA11 := hide (HA10.out.more ho)
  have HB11 := hide (HB10.out.more ho)
  have HX11 := hide (HX10.out.more ho)
  have HZ11 := hide (HZ10.out.more ho)
  have HY11 := hide (HY10.out.more ho)
  have HO11 := hide (o2 HO10.out ho)
  clear ho HA10 HB10 HX10 HZ10 HY10 HO10
  go_upto_region 9 with fail
  have HN := hide (onlyA w11 (.cells #[.string Y1.key, .int .i64 Y1.page, .int .i64 Y1.slot] 23))
  have HU12 := hide (Ev.new w11 Y1)
  obtain ⟨b22, hb22⟩ : ∃ b, w11.heap.size = b := ⟨_, rfl⟩
  rw [hb22] at HU12 ⊢
  clear hb22
  obtain ⟨w12, hw12⟩ : ∃ x, w11.alloc (.cells #[.string Y1.key, .int .i64 Y1.page, .int .i64 Y1.slot] 23) = x := ⟨_, rfl⟩
  rw [hw12] at HN HU12 ⊢
  clear hw12
  have HA12 := hide (HA11.out.more HN.out)
  have HB12 := hide (HB11.out.more HN.out)
  have HX12 := hide (HX11.out.more HN.out)
  have HZ12 := hide (HZ11.out.more HN.out)
  have HY12 := hide (HY11.out.more HN.out)
  have HO12 := hide (o2 HO11.out HN.out)
  clear HN HA11 HB11 HX11 HZ11 HY11 HO11
  -- {r9
  refine wp_region_noPanic ?_
  refine wp_region_held_drew (S := fun W => Only (fun _ => False) w12 W) (by kernel_rfl) (Only.drew _ _) (fun hHeld => ?_)
  refine wpAnyH_take (i := 0) (oi := { dst := some 71, op := Op.move (Operand.tmp 7), type := 9, pos := "law.go:47", after := #[], guard := none }) (v := .string SA) rfl (by kernel_rfl) (by kernel_rfl) (by kernel_rfl) (fun _ _ _ h => h) (Or.inl ⟨by rfl, fun w' hSw => by clear hSw; go_simp⟩) (by assumption) ?_
  simp only [Act.put, List.setIfInBounds_toArray, List.set_cons_zero, List.set_cons_succ]
  refine wpAnyH_take (i := 1) (oi := { dst := some 72, op := Op.move (Operand.tmp 9), type := 9, pos := "law.go:47", after := #[], guard := none }) (v := .string SA) rfl (by kernel_rfl) (by kernel_rfl) (by kernel_rfl) (fun _ _ _ h => h) (Or.inl ⟨by rfl, fun w' hSw => by clear hSw; go_simp⟩) (by assumption) ?_
  simp only [Act.put, List.setIfInBounds_toArray, List.set_cons_zero, List.set_cons_succ]
  refine wpAnyH_take (i := 2) (oi := { dst := some 73, op := Op.binOp BinOp.eql 9 (Operand.tmp 71) (Operand.tmp 72) 9, type := 4, pos := "law.go:47", after := #[{ on := 0, ground := Ground.data }, { on := 1, ground := Ground.data }], guard := none }) (v := .bool true) rfl (by kernel_rfl) (by kernel_rfl) (by kernel_rfl) (fun _ _ _ h => h) (Or.inl ⟨by rfl, fun w' hSw => by clear hSw; go_simp⟩) (by assumption) ?_
  simp only [Act.put, List.setIfInBounds_toArray, List.set_cons_zero, List.set_cons_succ]
  refine wpAnyH_take (i := 3) (oi := { dst := some 74, op := Op.move (Operand.tmp 73), type := 4, pos := "law.go:47", after := #[{ on := 2, ground := Ground.data }], guard := none }) (v := .bool true) rfl (by kernel_rfl) (by kernel_rfl) (by kernel_rfl) (fun _ _ _ h => h) (Or.inl ⟨by rfl, fun w' hSw => by clear hSw; go_simp⟩) (by assumption) ?_
  simp only [Act.put, List.setIfInBounds_toArray, List.set_cons_zero, List.set_cons_succ]
  refine wpAnyH_take (i := 4) (oi := { dst := some 75, op := Op.move (Operand.tmp 8), type := 24, pos := "law.go:47", after := #[{ on := 3, ground := Ground.guard }], guard := some (3, true) }) (v := .int .i64 CA) rfl (by kernel_rfl) (by kernel_rfl) (by kernel_rfl) (fun _ _ _ h => h) (Or.inl ⟨by rfl, fun w' hSw => by clear hSw; go_simp⟩) (by assumption) ?_
  simp only [Act.put, List.setIfInBounds_toArray, List.set_cons_zero, List.set_cons_succ]
  refine wpAnyH_take (i := 5) (oi := { dst := some 76, op := Op.move (Operand.tmp 10), type := 24, pos := "law.go:47", after := #[{ on := 3, ground := Ground.guard }], guard := some (3, true) }) (v := .int .i64 CA) rfl (by kernel_rfl) (by kernel_rfl) (by kernel_rfl) (fun _ _ _ h => h) (Or.inl ⟨by rfl, fun w' hSw => by clear hSw; go_simp⟩) (by assumption) ?_
  simp only [Act.put, List.setIfInBounds_toArray, List.set_cons_zero, List.set_cons_succ]
  refine wpAnyH_take (i := 6) (oi := { dst := some 77, op := Op.binOp BinOp.eql 24 (Operand.tmp 75) (Operand.tmp 76) 24, type := 4, pos := "law.go:47", after := #[{ on := 4, ground := Ground.data }, { on := 5, ground := Ground.data }, { on := 3, ground := Ground.guard }], guard := some (3, true) }) (v := .bool true) rfl (by kernel_rfl) (by kernel_rfl) (by kernel_rfl) (fun _ _ _ h => h) (Or.inl ⟨by rfl, fun w' hSw => by clear hSw; go_simp⟩) (by assumption) ?_
  simp only [Act.put, List.setIfInBounds_toArray, List.set_cons_zero, List.set_cons_succ]
  refine wpAnyH_take (i := 7) (oi := { dst := some 78, op := Op.pick (Operand.tmp 74) (Operand.tmp 77) (Operand.const (Value.bool false)), type := 4, pos := "law.go:47", after := #[{ on := 3, ground := Ground.data }, { on := 6, ground := Ground.data }], guard := none }) (v := .bool true) rfl (by kernel_rfl) (by kernel_rfl) (by kernel_rfl) (fun _ _ _ h => h) (Or.inl ⟨by rfl, fun w' hSw => by clear hSw; go_simp⟩) (by assumption) ?_
  simp only [Act.put, List.setIfInBounds_toArray, List.set_cons_zero, List.set_cons_succ]
  refine wpAnyH_take (i := 8) (oi := { dst := some 79, op := Op.move (Operand.tmp 78), type := 4, pos := "law.go:47", after := #[{ on := 7, ground := Ground.data }, { on := 3, ground := Ground.chain }], guard := none }) (v := .bool true) rfl (by kernel_rfl) (by kernel_rfl) (by kernel_rfl) (fun _ _ _ h => h) (Or.inl ⟨by rfl, fun w' hSw => by clear hSw; go_simp⟩) (by assumption) ?_
  simp only [Act.put, List.setIfInBounds_toArray, List.set_cons_zero, List.set_cons_succ]
  refine wpAnyH_take (i := 9) (oi := { dst := some 80, op := Op.move (Operand.tmp 11), type := 9, pos := "law.go:47", after := #[{ on := 8, ground := Ground.guard }], guard := some (8, true) }) (v := .string SB) rfl (by kernel_rfl) (by kernel_rfl) (by kernel_rfl) (fun _ _ _ h => h) (Or.inl ⟨by rfl, fun w' hSw => by clear hSw; go_simp⟩) (by assumption) ?_
  simp only [Act.put, List.setIfInBounds_toArray, List.set_cons_zero, List.set_cons_succ]
  refine wpAnyH_take (i := 10) (oi := { dst := some 81, op := Op.move (Operand.tmp 13), type := 9, pos := "law.go:47", after := #[{ on := 8, ground := Ground.guard }], guard := some (8, true) }) (v := .string SB) rfl (by kernel_rfl) (by kernel_rfl) (by kernel_rfl) (fun _ _ _ h => h) (Or.inl ⟨by rfl, fun w' hSw => by clear hSw; go_simp⟩) (by assumption) ?_
  simp only [Act.put, List.setIfInBounds_toArray, List.set_cons_zero, List.set_cons_succ]
  refine wpAnyH_take (i := 11) (oi := { dst := some 82, op := Op.binOp BinOp.eql 9 (Operand.tmp 80) (Operand.tmp 81) 9, type := 4, pos := "law.go:47", after := #[{ on := 9, ground := Ground.data }, { on := 10, ground := Ground.data }, { on := 8, ground := Ground.guard }], guard := some (8, true) }) (v := .bool true) rfl (by kernel_rfl) (by kernel_rfl) (by kernel_rfl) (fun _ _ _ h => h) (Or.inl ⟨by rfl, fun w' hSw => by clear hSw; go_simp⟩) (by assumption) ?_
  simp only [Act.put, List.setIfInBounds_toArray, List.set_cons_zero, List.set_cons_succ]
  refine wpAnyH_take (i := 12) (oi := { dst := some 83, op := Op.pick (Operand.tmp 79) (Operand.tmp 82) (Operand.const (Value.bool false)), type := 4, pos := "law.go:47", after := #[{ on := 8, ground := Ground.data }, { on := 11, ground := Ground.data }], guard := none }) (v := .bool true) rfl (by kernel_rfl) (by kernel_rfl) (by kernel_rfl) (fun _ _ _ h => h) (Or.inl ⟨by rfl, fun w' hSw => by clear hSw; go_simp⟩) (by assumption) ?_
  simp only [Act.put, List.setIfInBounds_toArray, List.set_cons_zero, List.set_cons_succ]
  refine wpAnyH_take (i := 13) (oi := { dst := some 84, op := Op.move (Operand.tmp 83), type := 4, pos := "law.go:47", after := #[{ on := 12, ground := Ground.data }, { on := 8, ground := Ground.chain }], guard := none }) (v := .bool true) rfl (by kernel_rfl) (by kernel_rfl) (by kernel_rfl) (fun _ _ _ h => h) (Or.inl ⟨by rfl, fun w' hSw => by clear hSw; go_simp⟩) (by assumption) ?_
  simp only [Act.put, List.setIfInBounds_toArray, List.set_cons_zero, List.set_cons_succ]
  refine wpAnyH_take (i := 14) (oi := { dst := some 85, op := Op.move (Operand.tmp 12), type := 24, pos := "law.go:47", after := #[{ on := 13, ground := Ground.guard }], guard := some (13, true) }) (v := .int .i64 CB) rfl (by kernel_rfl) (by kernel_rfl) (by kernel_rfl) (fun _ _ _ h => h) (Or.inl ⟨by rfl, fun w' hSw => by clear hSw; go_simp⟩) (by assumption) ?_
  simp only [Act.put, List.setIfInBounds_toArray, List.set_cons_zero, List.set_cons_succ]
  refine wpAnyH_take (i := 15) (oi := { dst := some 86, op := Op.move (Operand.tmp 14), type := 24, pos := "law.go:47", after := #[{ on := 13, ground := Ground.guard }], guard := some (13, true) }) (v := .int .i64 CB) rfl (by kernel_rfl) (by kernel_rfl) (by kernel_rfl) (fun _ _ _ h => h) (Or.inl ⟨by rfl, fun w' hSw => by clear hSw; go_simp⟩) (by assumption) ?_
  simp only [Act.put, List.setIfInBounds_toArray, List.set_cons_zero, List.set_cons_succ]
  refine wpAnyH_take (i := 16) (oi := { dst := some 87, op := Op.binOp BinOp.eql 24 (Operand.tmp 85) (Operand.tmp 86) 24, type := 4, pos := "law.go:47", after := #[{ on := 14, ground := Ground.data }, { on := 15, ground := Ground.data }, { on := 13, ground := Ground.guard }], guard := some (13, true) }) (v := .bool true) rfl (by kernel_rfl) (by kernel_rfl) (by kernel_rfl) (fun _ _ _ h => h) (Or.inl ⟨by rfl, fun w' hSw => by clear hSw; go_simp⟩) (by assumption) ?_
  simp only [Act.put, List.setIfInBounds_toArray, List.set_cons_zero, List.set_cons_succ]
  refine wpAnyH_take (i := 17) (oi := { dst := some 88, op := Op.pick (Operand.tmp 84) (Operand.tmp 87) (Operand.const (Value.bool false)), type := 4, pos := "law.go:47", after := #[{ on := 13, ground := Ground.data }, { on := 16, ground := Ground.data }], guard := none }) (v := .bool true) rfl (by kernel_rfl) (by kernel_rfl) (by kernel_rfl) (fun _ _ _ h => h) (Or.inl ⟨by rfl, fun w' hSw => by clear hSw; go_simp⟩) (by assumption) ?_
  simp only [Act.put, List.setIfInBounds_toArray, List.set_cons_zero, List.set_cons_succ]
  refine wpAnyH_take (i := 18) (oi := { dst := some 89, op := Op.move (Operand.tmp 88), type := 4, pos := "law.go:47", after := #[{ on := 17, ground := Ground.data }, { on := 13, ground := Ground.chain }], guard := none }) (v := .bool true) rfl (by kernel_rfl) (by kernel_rfl) (by kernel_rfl) (fun _ _ _ h => h) (Or.inl ⟨by rfl, fun w' hSw => by clear hSw; go_simp⟩) (by assumption) ?_
  simp only [Act.put, List.setIfInBounds_toArray, List.set_cons_zero, List.set_cons_succ]
  refine wpAnyH_take (i := 19) (oi := { dst := some 90, op := Op.load 23 (Operand.tmp 15), type := 23, pos := "law.go:47", after := #[{ on := 18, ground := Ground.guard }], guard := some (18, true) }) (v := .agg #[.string X.key, .int .i64 X.page, .int .i64 X.slot]) rfl (by kernel_rfl) (by kernel_rfl) (by kernel_rfl) (fun _ _ _ h => h) (yieldsIf_load_ev (by rfl) _ rfl rfl (fun W hW => HX12.out.more hW)) (by assumption) ?_
  simp only [Act.put, List.setIfInBounds_toArray, List.set_cons_zero, List.set_cons_succ]
  refine wpAnyH_take (i := 20) (oi := { dst := some 91, op := Op.load 23 (Operand.tmp 17), type := 23, pos := "law.go:47", after := #[{ on := 18, ground := Ground.guard }], guard := some (18, true) }) (v := .agg #[.string X.key, .int .i64 X.page, .int .i64 X.slot]) rfl (by kernel_rfl) (by kernel_rfl) (by kernel_rfl) (fun _ _ _ h => h) (yieldsIf_load_ev (by rfl) _ rfl rfl (fun W hW => HZ12.out.more hW)) (by assumption) ?_
  simp only [Act.put, List.setIfInBounds_toArray, List.set_cons_zero, List.set_cons_succ]
  refine wpAnyH_take (i := 21) (oi := { dst := some 92, op := Op.binOp BinOp.eql 23 (Operand.tmp 90) (Operand.tmp 91) 23, type := 4, pos := "law.go:47", after := #[{ on := 19, ground := Ground.data }, { on := 20, ground := Ground.data }, { on := 18, ground := Ground.guard }], guard := some (18, true) }) (v := .bool true) rfl (by kernel_rfl) (by kernel_rfl) (by kernel_rfl) (fun _ _ _ h => h) (Or.inl ⟨by rfl, fun w' hSw => by clear hSw; go_simp⟩) (by assumption) ?_
  simp only [Act.put, List.setIfInBounds_toArray, List.set_cons_zero, List.set_cons_succ]
  refine wpAnyH_take (i := 22) (oi := { dst := some 93, op := Op.pick (Operand.tmp 89) (Operand.tmp 92) (Operand.const (Value.bool false)), type := 4, pos := "law.go:47", after := #[{ on := 18, ground := Ground.data }, { on := 21, ground := Ground.data }], guard := none }) (v := .bool true) rfl (by kernel_rfl) (by kernel_rfl) (by kernel_rfl) (fun _ _ _ h => h) (Or.inl ⟨by rfl, fun w' hSw => by clear hSw; go_simp⟩) (by assumption) ?_
  simp only [Act.put, List.setIfInBounds_toArray, List.set_cons_zero, List.set_cons_succ]
  refine wpAnyH_take (i := 23) (oi := { dst := some 94, op := Op.move (Operand.tmp 93), type := 4, pos := "law.go:47", after := #[{ on := 22, ground := Ground.data }, { on := 18, ground := Ground.chain }], guard := none }) (v := .bool true) rfl (by kernel_rfl) (by kernel_rfl) (by kernel_rfl) (fun _ _ _ h => h) (Or.inl ⟨by rfl, fun w' hSw => by clear hSw; go_simp⟩) (by assumption) ?_
  simp only [Act.put, List.setIfInBounds_toArray, List.set_cons_zero, List.set_cons_succ]
  refine wpAnyH_take (i := 24) (oi := { dst := some 95, op := Op.move (Operand.tmp 16), type := 24, pos := "law.go:47", after := #[{ on := 23, ground := Ground.guard }], guard := some (23, true) }) (v := .int .i64 CX) rfl (by kernel_rfl) (by kernel_rfl) (by kernel_rfl) (fun _ _ _ h => h) (Or.inl ⟨by rfl, fun w' hSw => by clear hSw; go_simp⟩) (by assumption) ?_
  simp only [Act.put, List.setIfInBounds_toArray, List.set_cons_zero, List.set_cons_succ]
  refine wpAnyH_take (i := 25) (oi := { dst := some 96, op := Op.move (Operand.tmp 18), type := 24, pos := "law.go:47", after := #[{ on := 23, ground := Ground.guard }], guard := some (23, true) }) (v := .int .i64 CX) rfl (by kernel_rfl) (by kernel_rfl) (by kernel_rfl) (fun _ _ _ h => h) (Or.inl ⟨by rfl, fun w' hSw => by clear hSw; go_simp⟩) (by assumption) ?_
  simp only [Act.put, List.setIfInBounds_toArray, List.set_cons_zero, List.set_cons_succ]
  refine wpAnyH_take (i := 26) (oi := { dst := some 97, op := Op.binOp BinOp.eql 24 (Operand.tmp 95) (Operand.tmp 96) 24, type := 4, pos := "law.go:47", after := #[{ on := 24, ground := Ground.data }, { on := 25, ground := Ground.data }, { on := 23, ground := Ground.guard }], guard := some (23, true) }) (v := .bool true) rfl (by kernel_rfl) (by kernel_rfl) (by kernel_rfl) (fun _ _ _ h => h) (Or.inl ⟨by rfl, fun w' hSw => by clear hSw; go_simp⟩) (by assumption) ?_
  simp only [Act.put, List.setIfInBounds_toArray, List.set_cons_zero, List.set_cons_succ]
  refine wpAnyH_take (i := 27) (oi := { dst := some 98, op := Op.pick (Operand.tmp 94) (Operand.tmp 97) (Operand.const (Value.bool false)), type := 4, pos := "law.go:47", after := #[{ on := 23, ground := Ground.data }, { on := 26, ground := Ground.data }], guard := none }) (v := .bool true) rfl (by kernel_rfl) (by kernel_rfl) (by kernel_rfl) (fun _ _ _ h => h) (Or.inl ⟨by rfl, fun w' hSw => by clear hSw; go_simp⟩) (by assumption) ?_
  simp only [Act.put, List.setIfInBounds_toArray, List.set_cons_zero, List.set_cons_succ]
  refine wpAnyH_take (i := 28) (oi := { dst := some 99, op := Op.move (Operand.tmp 98), type := 4, pos := "law.go:47", after := #[{ on := 27, ground := Ground.data }, { on := 23, ground := Ground.chain }], guard := none }) (v := .bool true) rfl (by kernel_rfl) (by kernel_rfl) (by kernel_rfl) (fun _ _ _ h => h) (Or.inl ⟨by rfl, fun w' hSw => by clear hSw; go_simp⟩) (by assumption) ?_
  simp only [Act.put, List.setIfInBounds_toArray, List.set_cons_zero, List.set_cons_succ]
  refine wpAnyH_take (i := 29) (oi := { dst := some 100, op := Op.load 23 (Operand.tmp 19), type := 23, pos := "law.go:47", after := #[{ on := 28, ground := Ground.guard }], guard := some (28, true) }) (v := .agg #[.string Y1.key, .int .i64 Y1.page, .int .i64 Y1.slot]) rfl (by kernel_rfl) (by kernel_rfl) (by kernel_rfl) (fun _ _ _ h => h) (yieldsIf_load_ev (by rfl) _ rfl rfl (fun W hW => HY12.out.more hW)) (by assumption) ?_
  simp only [Act.put, List.setIfInBounds_toArray, List.set_cons_zero, List.set_cons_succ]
  refine wpAnyH_take (i := 30) (oi := { dst := some 101, op := Op.load 23 (Operand.tmp 22), type := 23, pos := "law.go:47", after := #[{ on := 28, ground := Ground.guard }], guard := some (28, true) }) (v := .agg #[.string Y1.key, .int .i64 Y1.page, .int .i64 Y1.slot]) rfl (by kernel_rfl) (by kernel_rfl) (by kernel_rfl) (fun _ _ _ h => h) (yieldsIf_load_ev (by rfl) _ rfl rfl (fun W hW => HU12.out.more hW)) (by assumption) ?_
  simp only [Act.put, List.setIfInBounds_toArray, List.set_cons_zero, List.set_cons_succ]
  refine wpAnyH_take (i := 31) (oi := { dst := some 102, op := Op.binOp BinOp.eql 23 (Operand.tmp 100) (Operand.tmp 101) 23, type := 4, pos := "law.go:47", after := #[{ on := 29, ground := Ground.data }, { on := 30, ground := Ground.data }, { on := 28, ground := Ground.guard }], guard := some (28, true) }) (v := .bool true) rfl (by kernel_rfl) (by kernel_rfl) (by kernel_rfl) (fun _ _ _ h => h) (Or.inl ⟨by rfl, fun w' hSw => by clear hSw; go_simp⟩) (by assumption) ?_
  simp only [Act.put, List.setIfInBounds_toArray, List.set_cons_zero, List.set_cons_succ]
  refine wpAnyH_take (i := 32) (oi := { dst := some 103, op := Op.pick (Operand.tmp 99) (Operand.tmp 102) (Operand.const (Value.bool false)), type := 4, pos := "law.go:47", after := #[{ on := 28, ground := Ground.data }, { on := 31, ground := Ground.data }], guard := none }) (v := .bool true) rfl (by kernel_rfl) (by kernel_rfl) (by kernel_rfl) (fun _ _ _ h => h) (Or.inl ⟨by rfl, fun w' hSw => by clear hSw; go_simp⟩) (by assumption) ?_
  simp only [Act.put, List.setIfInBounds_toArray, List.set_cons_zero, List.set_cons_succ]
  refine wpAnyH_take (i := 33) (oi := { dst := some 104, op := Op.move (Operand.tmp 103), type := 4, pos := "law.go:47", after := #[{ on := 32, ground := Ground.data }, { on := 28, ground := Ground.chain }], guard := none }) (v := .bool true) rfl (by kernel_rfl) (by kernel_rfl) (by kernel_rfl) (fun _ _ _ h => h) (Or.inl ⟨by rfl, fun w' hSw => by clear hSw; go_simp⟩) (by assumption) ?_
  simp only [Act.put, List.setIfInBounds_toArray, List.set_cons_zero, List.set_cons_succ]
  refine wpAnyH_take (i := 34) (oi := { dst := some 105, op := Op.move (Operand.tmp 20), type := 3, pos := "law.go:47", after := #[{ on := 33, ground := Ground.guard }], guard := some (33, true) }) (v := .int .i64 Y2) rfl (by kernel_rfl) (by kernel_rfl) (by kernel_rfl) (fun _ _ _ h => h) (Or.inl ⟨by rfl, fun w' hSw => by clear hSw; go_simp⟩) (by assumption) ?_
  simp only [Act.put, List.setIfInBounds_toArray, List.set_cons_zero, List.set_cons_succ]
  refine wpAnyH_take (i := 35) (oi := { dst := some 106, op := Op.move (Operand.tmp 23), type := 3, pos := "law.go:47", after := #[{ on := 33, ground := Ground.guard }], guard := some (33, true) }) (v := .int .i64 Y2) rfl (by kernel_rfl) (by kernel_rfl) (by kernel_rfl) (fun _ _ _ h => h) (Or.inl ⟨by rfl, fun w' hSw => by clear hSw; go_simp⟩) (by assumption) ?_
  simp only [Act.put, List.setIfInBounds_toArray, List.set_cons_zero, List.set_cons_succ]
  refine wpAnyH_take (i := 36) (oi := { dst := some 107, op := Op.binOp BinOp.eql 3 (Operand.tmp 105) (Operand.tmp 106) 3, type := 4, pos := "law.go:47", after := #[{ on := 34, ground := Ground.data }, { on := 35, ground := Ground.data }, { on := 33, ground := Ground.guard }], guard := some (33, true) }) (v := .bool true) rfl (by kernel_rfl) (by kernel_rfl) (by kernel_rfl) (fun _ _ _ h => h) (Or.inl ⟨by rfl, fun w' hSw => by clear hSw; go_simp⟩) (by assumption) ?_
  simp only [Act.put, List.setIfInBounds_toArray, List.set_cons_zero, List.set_cons_succ]
  refine wpAnyH_take (i := 37) (oi := { dst := some 108, op := Op.pick (Operand.tmp 104) (Operand.tmp 107) (Operand.const (Value.bool false)), type := 4, pos := "law.go:47", after := #[{ on := 33, ground := Ground.data }, { on := 36, ground := Ground.data }], guard := none }) (v := .bool true) rfl (by kernel_rfl) (by kernel_rfl) (by kernel_rfl) (fun _ _ _ h => h) (Or.inl ⟨by rfl, fun w' hSw => by clear hSw; go_simp⟩) (by assumption) ?_
  simp only [Act.put, List.setIfInBounds_toArray, List.set_cons_zero, List.set_cons_succ]
  refine wpAnyH_take (i := 38) (oi := { dst := some 109, op := Op.move (Operand.tmp 108), type := 4, pos := "law.go:47", after := #[{ on := 37, ground := Ground.data }, { on := 33, ground := Ground.chain }], guard := none }) (v := .bool true) rfl (by kernel_rfl) (by kernel_rfl) (by kernel_rfl) (fun _ _ _ h => h) (Or.inl ⟨by rfl, fun w' hSw => by clear hSw; go_simp⟩) (by assumption) ?_
  simp only [Act.put, List.setIfInBounds_toArray, List.set_cons_zero, List.set_cons_succ]
  refine wpAnyH_take (i := 39) (oi := { dst := some 110, op := Op.move (Operand.tmp 21), type := 24, pos := "law.go:47", after := #[{ on := 38, ground := Ground.guard }], guard := some (38, true) }) (v := .int .i64 CY) rfl (by kernel_rfl) (by kernel_rfl) (by kernel_rfl) (fun _ _ _ h => h) (Or.inl ⟨by rfl, fun w' hSw => by clear hSw; go_simp⟩) (by assumption) ?_
  simp only [Act.put, List.setIfInBounds_toArray, List.set_cons_zero, List.set_cons_succ]
  refine wpAnyH_take (i := 40) (oi := { dst := some 111, op := Op.move (Operand.tmp 24), type := 24, pos := "law.go:47", after := #[{ on := 38, ground := Ground.guard }], guard := some (38, true) }) (v := .int .i64 CY) rfl (by kernel_rfl) (by kernel_rfl) (by kernel_rfl) (fun _ _ _ h => h) (Or.inl ⟨by rfl, fun w' hSw => by clear hSw; go_simp⟩) (by assumption) ?_
  simp only [Act.put, List.setIfInBounds_toArray, List.set_cons_zero, List.set_cons_succ]
  refine wpAnyH_take (i := 41) (oi := { dst := some 112, op := Op.binOp BinOp.eql 24 (Operand.tmp 110) (Operand.tmp 111) 24, type := 4, pos := "law.go:47", after := #[{ on := 39, ground := Ground.data }, { on := 40, ground := Ground.data }, { on := 38, ground := Ground.guard }], guard := some (38, true) }) (v := .bool true) rfl (by kernel_rfl) (by kernel_rfl) (by kernel_rfl) (fun _ _ _ h => h) (Or.inl ⟨by rfl, fun w' hSw => by clear hSw; go_simp⟩) (by assumption) ?_
  simp only [Act.put, List.setIfInBounds_toArray, List.set_cons_zero, List.set_cons_succ]
  refine wpAnyH_take (i := 42) (oi := { dst := some 113, op := Op.pick (Operand.tmp 109) (Operand.tmp 112) (Operand.const (Value.bool false)), type := 4, pos := "law.go:47", after := #[{ on := 38, ground := Ground.data }, { on := 41, ground := Ground.data }], guard := none }) (v := .bool true) rfl (by kernel_rfl) (by kernel_rfl) (by kernel_rfl) (fun _ _ _ h => h) (Or.inl ⟨by rfl, fun w' hSw => by clear hSw; go_simp⟩) (by assumption) ?_
  simp only [Act.put, List.setIfInBounds_toArray, List.set_cons_zero, List.set_cons_succ]
  refine wpAnyH_take (i := 43) (oi := { dst := some 114, op := Op.move (Operand.tmp 113), type := 4, pos := "law.go:47", after := #[{ on := 42, ground := Ground.data }, { on := 38, ground := Ground.chain }], guard := none }) (v := .bool true) rfl (by kernel_rfl) (by kernel_rfl) (by kernel_rfl) (fun _ _ _ h => h) (Or.inl ⟨by rfl, fun w' hSw => by clear hSw; go_simp⟩) (by assumption) ?_
  simp only [Act.put, List.setIfInBounds_toArray, List.set_cons_zero, List.set_cons_succ]
  refine wpAnyH_take (i := 44) (oi := { dst := some 115, op := Op.load 23 (Operand.tmp 3), type := 23, pos := "law.go:47", after := #[{ on := 43, ground := Ground.guard }], guard := some (43, true) }) (v := .agg #[.string a.key, .int .i64 a.page, .int .i64 a.slot]) rfl (by kernel_rfl) (by kernel_rfl) (by kernel_rfl) (fun _ _ _ h => h) (yieldsIf_load_ev (by rfl) _ rfl rfl (fun W hW => HA12.out.more hW)) (by assumption) ?_
  simp only [Act.put, List.setIfInBounds_toArray, List.set_cons_zero, List.set_cons_succ]
  refine wpAnyH_take (i := 45) (oi := { dst := some 116, op := Op.load 23 (Operand.tmp 4), type := 23, pos := "law.go:47", after := #[{ on := 43, ground := Ground.guard }], guard := some (43, true) }) (v := .agg #[.string b.key, .int .i64 b.page, .int .i64 b.slot]) rfl (by kernel_rfl) (by kernel_rfl) (by kernel_rfl) (fun _ _ _ h => h) (yieldsIf_load_ev (by rfl) _ rfl rfl (fun W hW => HB12.out.more hW)) (by assumption) ?_
  simp only [Act.put, List.setIfInBounds_toArray, List.set_cons_zero, List.set_cons_succ]
  refine wpAnyH_take (i := 47) (oi := { dst := some 118, op := Op.load 23 (Operand.tmp 3), type := 23, pos := "law.go:47", after := #[{ on := 43, ground := Ground.guard }], guard := some (43, true) }) (v := .agg #[.string a.key, .int .i64 a.page, .int .i64 a.slot]) rfl (by kernel_rfl) (by kernel_rfl) (by kernel_rfl) (fun _ _ _ h => h) (yieldsIf_load_ev (by rfl) _ rfl rfl (fun W hW => HA12.out.more hW)) (by assumption) ?_
  simp only [Act.put, List.setIfInBounds_toArray, List.set_cons_zero, List.set_cons_succ]
  refine wpAnyH_take (i := 48) (oi := { dst := some 119, op := Op.load 23 (Operand.tmp 4), type := 23, pos := "law.go:47", after := #[{ on := 43, ground := Ground.guard }], guard := some (43, true) }) (v := .agg #[.string b.key, .int .i64 b.page, .int .i64 b.slot]) rfl (by kernel_rfl) (by kernel_rfl) (by kernel_rfl) (fun _ _ _ h => h) (yieldsIf_load_ev (by rfl) _ rfl rfl (fun W hW => HB12.out.more hW)) (by assumption) ?_
  simp only [Act.put, List.setIfInBounds_toArray, List.set_cons_zero, List.set_cons_succ]
  refine wpAnyH_ready (rs := [46]) (by kernel_rfl) (by simp) ?_
  refine AllReadyH.cons (o := { dst := some 117, op := Op.call { callee := Callee.value (Operand.func 17), args := #[Operand.tmp 115, Operand.tmp 116], argTypes := #[23, 23] }, type := 3, pos := "law.go:47", after := #[{ on := 44, ground := Ground.data }, { on := 45, ground := Ground.data }, { on := 43, ground := Ground.chain }, { on := 43, ground := Ground.guard }], guard := some (43, true) }) rfl (fun K hK => ?_) (AllReadyH.nil)
  go_simp
  refine (HAB.out _).mono ?_
  rintro x x1 ⟨rfl, hx1⟩
  have HV1 := hide (o2 hHeld hx1)
  clear hx1
  refine hK.out _ _ (HV1.out) (fun hHeld => ?_)
  clear hK K
  try simp only [Act.put, List.setIfInBounds_toArray, List.set_cons_zero, List.set_cons_succ]
  refine wpAnyH_ready (rs := [49]) (by kernel_rfl) (by simp) ?_
  refine AllReadyH.cons (o := { dst := some 120, op := Op.call { callee := Callee.value (Operand.func 18), args := #[Operand.tmp 118, Operand.tmp 119], argTypes := #[23, 23] }, type := 3, pos := "law.go:47", after := #[{ on := 47, ground := Ground.data }, { on := 48, ground := Ground.data }, { on := 46, ground := Ground.chain }, { on := 43, ground := Ground.guard }], guard := some (43, true) }) rfl (fun K hK => ?_) (AllReadyH.nil)
  go_simp
  refine (HAF.out _).mono ?_
  rintro x x2 ⟨rfl, hx2⟩
  have HV2 := hide (o2 HV1.out hx2)
  clear hx2
  refine hK.out _ _ (HV2.out) (fun hHeld => ?_)
  clear hK K
  try simp only [Act.put, List.setIfInBounds_toArray, List.set_cons_zero, List.set_cons_succ]
  refine wpAnyH_take (i := 50) (oi := { dst := some 121, op := Op.binOp BinOp.eql 3 (Operand.tmp 117) (Operand.tmp 120) 3, type := 4, pos := "law.go:47", after := #[{ on := 46, ground := Ground.data }, { on := 49, ground := Ground.data }, { on := 43, ground := Ground.guard }], guard := some (43, true) }) (v := .bool true) rfl (by kernel_rfl) (by kernel_rfl) (by kernel_rfl) (fun _ _ _ h => h) (Or.inl ⟨by rfl, fun w' hSw => by clear hSw; go_simp⟩) (by assumption) ?_
  simp only [Act.put, List.setIfInBounds_toArray, List.set_cons_zero, List.set_cons_succ]
  refine wpAnyH_take (i := 51) (oi := { dst := some 122, op := Op.pick (Operand.tmp 114) (Operand.tmp 121) (Operand.const (Value.bool false)), type := 4, pos := "law.go:47", after := #[{ on := 43, ground := Ground.data }, { on := 50, ground := Ground.data }], guard := none }) (v := .bool true) rfl (by kernel_rfl) (by kernel_rfl) (by kernel_rfl) (fun _ _ _ h => h) (Or.inl ⟨by rfl, fun w' hSw => by clear hSw; go_simp⟩) (by assumption) ?_
  simp only [Act.put, List.setIfInBounds_toArray, List.set_cons_zero, List.set_cons_succ]
  refine wpAnyH_take (i := 52) (oi := { dst := some 123, op := Op.move (Operand.tmp 122), type := 4, pos := "law.go:47", after := #[{ on := 51, ground := Ground.data }, { on := 49, ground := Ground.chain }], guard := none }) (v := .bool true) rfl (by kernel_rfl) (by kernel_rfl) (by kernel_rfl) (fun _ _ _ h => h) (Or.inl ⟨by rfl, fun w' hSw => by clear hSw; go_simp⟩) (by assumption) ?_
  simp only [Act.put, List.setIfInBounds_toArray, List.set_cons_zero, List.set_cons_succ]
  refine wpAnyH_ready (rs := [53]) (by kernel_rfl) (by simp) ?_
  refine AllReadyH.cons (o := { dst := some 124, op := Op.call { callee := Callee.value (Operand.func 19), args := #[], argTypes := #[] }, type := 4, pos := "law.go:47", after := #[{ on := 52, ground := Ground.chain }, { on := 52, ground := Ground.guard }], guard := some (52, true) }) rfl (fun K hK => ?_) (AllReadyH.nil)
  go_simp
  refine (HAW.out _).mono ?_
  rintro x x3 ⟨rfl, hx3⟩
  have HV3 := hide (o2 HV2.out hx3)
  clear hx3
  refine hK.out _ _ (HV3.out) (fun hHeld => ?_)
  clear hK K
  try simp only [Act.put, List.setIfInBounds_toArray, List.set_cons_zero, List.set_cons_succ]
  refine wpAnyH_take (i := 54) (oi := { dst := some 125, op := Op.pick (Operand.tmp 123) (Operand.tmp 124) (Operand.const (Value.bool false)), type := 4, pos := "law.go:47", after := #[{ on := 52, ground := Ground.data }, { on := 53, ground := Ground.data }], guard := none }) (v := .bool true) rfl (by kernel_rfl) (by kernel_rfl) (by kernel_rfl) (fun _ _ _ h => h) (Or.inl ⟨by rfl, fun w' hSw => by clear hSw; go_simp⟩) (by assumption) ?_
  simp only [Act.put, List.setIfInBounds_toArray, List.set_cons_zero, List.set_cons_succ]
  refine wpAnyH_take (i := 55) (oi := { dst := some 6, op := Op.assign (Operand.tmp 125), type := 4, pos := "law.go:47", after := #[{ on := 54, ground := Ground.data }, { on := 53, ground := Ground.chain }, { on := 0, ground := Ground.phase }, { on := 1, ground := Ground.phase }, { on := 2, ground := Ground.phase }, { on := 3, ground := Ground.phase }, { on := 4, ground := Ground.phase }, { on := 5, ground := Ground.phase }, { on := 6, ground := Ground.phase }, { on := 7, ground := Ground.phase }, { on := 8, ground := Ground.phase }, { on := 9, ground := Ground.phase }, { on := 10, ground := Ground.phase }, { on := 11, ground := Ground.phase }, { on := 12, ground := Ground.phase }, { on := 13, ground := Ground.phase }, { on := 14, ground := Ground.phase }, { on := 15, ground := Ground.phase }, { on := 16, ground := Ground.phase }, { on := 17, ground := Ground.phase }, { on := 18, ground := Ground.phase }, { on := 19, ground := Ground.phase }, { on := 20, ground := Ground.phase }, { on := 21, ground := Ground.phase }, { on := 22, ground := Ground.phase }, { on := 23, ground := Ground.phase }, { on := 24, ground := Ground.phase }, { on := 25, ground := Ground.phase }, { on := 26, ground := Ground.phase }, { on := 27, ground := Ground.phase }, { on := 28, ground := Ground.phase }, { on := 29, ground := Ground.phase }, { on := 30, ground := Ground.phase }, { on := 31, ground := Ground.phase }, { on := 32, ground := Ground.phase }, { on := 33, ground := Ground.phase }, { on := 34, ground := Ground.phase }, { on := 35, ground := Ground.phase }, { on := 36, ground := Ground.phase }, { on := 37, ground := Ground.phase }, { on := 38, ground := Ground.phase }, { on := 39, ground := Ground.phase }, { on := 40, ground := Ground.phase }, { on := 41, ground := Ground.phase }, { on := 42, ground := Ground.phase }, { on := 43, ground := Ground.phase }, { on := 44, ground := Ground.phase }, { on := 45, ground := Ground.phase }, { on := 46, ground := Ground.phase }, { on := 47, ground := Ground.phase }, { on := 48, ground := Ground.phase }, { on := 49, ground := Ground.phase }, { on := 50, ground := Ground.phase }, { on := 51, ground := Ground.phase }, { on := 52, ground := Ground.phase }, { on := 53, ground := Ground.phase }, { on := 54, ground := Ground.phase }], guard := none }) (v := .bool true) rfl (by kernel_rfl) (by kernel_rfl) (by kernel_rfl) (fun _ _ _ h => h) (Or.inl ⟨by rfl, fun w' hSw => by clear hSw; go_simp⟩) (by assumption) ?_
  simp only [Act.put, List.setIfInBounds_toArray, List.set_cons_zero, List.set_cons_succ]
  refine wpAnyH_done (by kernel_rfl) ?_ _
  refine NoPanic.normal ?_
  rw [Exit.then]
  -- r9}
  go_wp2_with fail
  go_ret
  exact ⟨rfl, o2 HO12.out HV3.out⟩
end Go.Proofs.Ythhlmhghiknnkaa
