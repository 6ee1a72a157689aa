/- The law of CheckLays. -/
import Derived.Test.YtpogphaflhfmbaaGLawP
import Derived.Test.YtpogphaflhfmbaaGLawB
namespace Go.Proofs.Ytpogphaflhfmbaa
open Go.RowKit

theorem out_form (c : Ct) : ∃ (S : ByteArray) (E : Int), c.out = .tuple #[.string S, .int .i64 E] := by
  unfold Ct.out
  split
  · exact ⟨_, _, rfl⟩
  · exact ⟨_, _, rfl⟩
theorem outL_form (f m l p : Int) : ∃ (x y z E : Int), outL f m l p = .tuple #[.agg #[.int .i64 x, .int .i64 y, .int .i64 z], .int .i64 E] := by
  unfold outL
  split
  · exact ⟨_, _, _, _, rfl⟩
  · exact ⟨_, _, _, _, rfl⟩
theorem Cb.conf {w : World} {b : Nat} {c : Ct} (h : Cb w b c) : (loadVar 23 ⟨b, 0, none⟩).run Try.prog w = .ok (.agg #[.int .i64 c.f, .int .i64 c.m, .int .i64 c.l, .int .i64 c.p]) w := load_cf h.c0 h.c1 h.c2 h.c3
theorem yieldsIf_load_cf {ops : Array Oper} {S : World → Prop} {op : Oper} {a : Act} {c : Ct} (hw : Region.wanted op (yielded ops a.tmps) = true) (x : Operand) (ho : op.op = .load 23 x)
    {b : Nat} (hx : a.eval x = .pointer (some ⟨b, 0, none⟩)) (hS : ∀ w, S w → Cb w b c) : YieldsIf Try.prog ops S op (.agg #[.int .i64 c.f, .int .i64 c.m, .int .i64 c.l, .int .i64 c.p]) a :=
  .inl ⟨hw, fun w hw' => by
    unfold execOp
    simp only [ho, hx, Instr.loadAt, Instr.sureAddr, Sem.run_bind, Sem.run_pure, Result.andThen_ok, (hS w hw').conf]⟩
theorem yieldsIf_load_lb {ops : Array Oper} {S : World → Prop} {op : Oper} {a : Act} {x y z : Int} (hw : Region.wanted op (yielded ops a.tmps) = true) (o : Operand) (ho : op.op = .load 31 o)
    {b : Nat} (hx : a.eval o = .pointer (some ⟨b, 0, none⟩)) (hS : ∀ w, S w → Lb w b x y z) : YieldsIf Try.prog ops S op (.agg #[.int .i64 x, .int .i64 y, .int .i64 z]) a :=
  .inl ⟨hw, fun w hw' => by
    have h := load_lb (hS w hw')
    unfold layV at h
    unfold execOp
    simp only [ho, hx, Instr.loadAt, Instr.sureAddr, Sem.run_bind, Sem.run_pure, Result.andThen_ok, h]⟩
set_option maxRecDepth 100000 in
set_option maxHeartbeats 3200000 in
theorem lays_law (w : World) (c : Ct) (q : Int) (BB cp : Nat) (ao : Option Addr) (l : List (Int × Int)) (h : Pr w BB ao l) : Calls Try.prog 3 #[c.agg, .int .i64 q, .slice ao l.length cp] w fun e w' => e = .returned (.bool true) ∧ Only (fun _ => False) w w' := by
  obtain ⟨SS, E, hE⟩ := out_form c
  obtain ⟨x, y, z, G, hG⟩ := outL_form c.f c.m c.l c.p
  obtain ⟨D, hD⟩ : ∃ D, decide (Snd c.f c.m c.l c.p) = D := ⟨_, rfl⟩
  obtain ⟨R, hR⟩ : ∃ R, rdL q l = R := ⟨_, rfl⟩
  have H1 : Hid (∀ W, Calls Try.prog 7 #[c.agg] W fun e w' => e = .returned (.tuple #[.string SS, .int .i64 E]) ∧ Only (fun _ => False) W w') := fun W => by
    rw [← hE]
    exact encode_any c W
  have H2 : Hid (∀ W, Calls Try.prog 8 #[c.agg] W fun e w' => e = .returned (.tuple #[.string SS, .int .i64 E]) ∧ Only (fun _ => False) W w') := fun W => by
    rw [← hE]
    exact rencode_any c W
  have H3 : Hid (∀ W, Calls Try.prog 9 #[.agg #[.int .i64 c.f, .int .i64 c.m, .int .i64 c.l, .int .i64 c.p]] W fun e w' => e = .returned (.tuple #[.agg #[.int .i64 x, .int .i64 y, .int .i64 z], .int .i64 G]) ∧ Only (fun _ => False) W w') := fun W => by
    rw [← hG]
    exact layout_any _ _ _ _ W
  have H4 : Hid (∀ W, Calls Try.prog 10 #[.agg #[.int .i64 c.f, .int .i64 c.m, .int .i64 c.l, .int .i64 c.p]] W fun e w' => e = .returned (.tuple #[.agg #[.int .i64 x, .int .i64 y, .int .i64 z], .int .i64 G]) ∧ Only (fun _ => False) W w') := fun W => by
    rw [← hG]
    exact rlayout_any _ _ _ _ W
  have H5 : Hid (∀ W, Calls Try.prog 11 #[.agg #[.int .i64 c.f, .int .i64 c.m, .int .i64 c.l, .int .i64 c.p]] W fun e w' => e = .returned (.bool D) ∧ Only (fun _ => False) W w') := fun W => by
    rw [← hD]
    exact sound_any _ _ _ _ W
  have H6 : Hid (∀ W, Calls Try.prog 12 #[.agg #[.int .i64 c.f, .int .i64 c.m, .int .i64 c.l, .int .i64 c.p]] W fun e w' => e = .returned (.bool D) ∧ Only (fun _ => False) W w') := fun W => by
    rw [← hD]
    exact rsound_any _ _ _ _ W
  have HP := hide h
  have H7 : Hid (∀ W, Only (fun _ => False) w W → Calls Try.prog 13 #[.int .i64 q, .slice ao l.length cp] W fun e w' => e = .returned (.int .i64 R) ∧ Only (fun _ => False) W w') := fun W ho => by
    rw [← hR]
    exact redo_any W q BB cp ao l (HP.out.more ho)
  have H8 : Hid (∀ W, Only (fun _ => False) w W → Calls Try.prog 14 #[.int .i64 q, .slice ao l.length cp] W fun e w' => e = .returned (.int .i64 R) ∧ Only (fun _ => False) W w') := fun W ho => by
    rw [← hR]
    exact rredo_any W q BB cp ao l (HP.out.more ho)
  have HW : Hid (∀ W, Calls Try.prog 15 #[] W fun e w' => e = .returned (.bool true) ∧ Only (fun _ => False) W w') := fun W => chawake_any W
  have HQ : ∀ W, (binOp .eql 31 (.agg #[.int .i64 x, .int .i64 y, .int .i64 z]) (.agg #[.int .i64 x, .int .i64 y, .int .i64 z])).run Try.prog W = .ok (.bool true) W := fun W => layR_eq x y z x y z rfl rfl rfl W
  have HB0 := hide (Cb.new w c)
  have HO := hide (onlyA w (.cells #[.int .i64 c.f, .int .i64 c.m, .int .i64 c.l, .int .i64 c.p, .int .i64 c.n, .int .i64 c.s, .int .i64 c.k] 25))
  clear hE hG hD hR h
  unfold Ct.agg at H1 H2 ⊢
  obtain ⟨V0, hV0⟩ : ∃ V, w.alloc (.cells #[.int .i64 c.f, .int .i64 c.m, .int .i64 c.l, .int .i64 c.p, .int .i64 c.n, .int .i64 c.s, .int .i64 c.k] 25) = V := ⟨_, rfl⟩
  rw [hV0] at HB0 HO
  go_enter Try.func3, Try.ntmps3
  go_upto_region 1 with fail
  clear hV0
  obtain ⟨c0, c1, c2, c3, c4, c5, c6, _, _, _, _, _, _, _, _⟩ := HB0.out
  go_wp2_with fail
  refine (H1.out _).mono ?_
  rintro e w1 ⟨rfl, ho⟩
  have HB1 := hide (HB0.out.more ho)
  have HO := hide (o2 HO.out ho)
  clear ho c0 c1 c2 c3 c4 c5 c6
  obtain ⟨c0, c1, c2, c3, c4, c5, c6, _, _, _, _, _, _, _, _⟩ := HB1.out
  go_wp2_with fail
  refine (H2.out _).mono ?_
  rintro e w2 ⟨rfl, ho⟩
  have HB2 := hide (HB1.out.more ho)
  have HO := hide (o2 HO.out ho)
  clear ho c0 c1 c2 c3 c4 c5 c6
  obtain ⟨c0, c1, c2, c3, c4, c5, c6, _, _, _, _, _, _, _, _⟩ := HB2.out
  go_wp2_with fail
  refine (H3.out _).mono ?_
  rintro e w3 ⟨rfl, ho⟩
  have HB3 := hide (HB2.out.more (o2 ho (onlyA w3 (.cells #[.int .i64 x, .int .i64 y, .int .i64 z] 31))))
  have HX := hide (Lb.new w3 x y z)
  have HO := hide (o2 HO.out (o2 ho (onlyA w3 (.cells #[.int .i64 x, .int .i64 y, .int .i64 z] 31))))
  clear ho c0 c1 c2 c3 c4 c5 c6
  go_upto_region 4 with fail
  obtain ⟨V3, hV3⟩ : ∃ V, w3.alloc (.cells #[.int .i64 x, .int .i64 y, .int .i64 z] 31) = V := ⟨_, rfl⟩
  rw [hV3] at HX HB3 HO ⊢
  clear hV3
  obtain ⟨c0, c1, c2, c3, c4, c5, c6, _, _, _, _, _, _, _, _⟩ := HB3.out
  go_wp2_with fail
  refine (H4.out _).mono ?_
  rintro e w4 ⟨rfl, ho⟩
  have HB := hide (HB3.out.more (o2 ho (onlyA w4 (.cells #[.int .i64 x, .int .i64 y, .int .i64 z] 31))))
  have HX := hide (HX.out.more (o2 ho (onlyA w4 (.cells #[.int .i64 x, .int .i64 y, .int .i64 z] 31))))
  have HY := hide (Lb.new w4 x y z)
  have HO := hide (o2 HO.out (o2 ho (onlyA w4 (.cells #[.int .i64 x, .int .i64 y, .int .i64 z] 31))))
  clear ho c0 c1 c2 c3 c4 c5 c6
  go_upto_region 5 with fail
  obtain ⟨W0, hV4⟩ : ∃ V, w4.alloc (.cells #[.int .i64 x, .int .i64 y, .int .i64 z] 31) = V := ⟨_, rfl⟩
  rw [hV4] at HX HY HB HO ⊢
  clear hV4
  refine wp_region_noPanic ?_
  refine wp_region_held_drew (S := fun W => Only (fun _ => False) W0 W) (by kernel_rfl) (Only.drew _ _) (fun hHeld => ?_)
  refine wpAnyH_take (i := 0) (oi := { dst := some 37, op := Op.fieldAddr 25 (Operand.tmp 3) 0, type := 0, pos := "law.go:28", after := #[], guard := none }) (v := .pointer (some ⟨w.heap.size, 0, none⟩)) rfl (by kernel_rfl) (by kernel_rfl) (by kernel_rfl) (fun _ _ _ h => h) (Or.inl ⟨by rfl, fun w' hSw => by clear hSw; go_simp⟩) (by assumption) ?_
  simp only [Act.put, List.setIfInBounds_toArray, List.set_cons_zero, List.set_cons_succ]
  refine wpAnyH_take (i := 3) (oi := { dst := some 40, op := Op.fieldAddr 25 (Operand.tmp 3) 0, type := 0, pos := "law.go:28", after := #[], guard := none }) (v := .pointer (some ⟨w.heap.size, 0, none⟩)) rfl (by kernel_rfl) (by kernel_rfl) (by kernel_rfl) (fun _ _ _ h => h) (Or.inl ⟨by rfl, fun w' hSw => by clear hSw; go_simp⟩) (by assumption) ?_
  simp only [Act.put, List.setIfInBounds_toArray, List.set_cons_zero, List.set_cons_succ]
  refine wpAnyH_take (i := 1) (oi := { dst := some 38, op := Op.load 23 (Operand.tmp 37), type := 23, pos := "law.go:28", after := #[{ on := 0, ground := Ground.data }], guard := none }) (v := .agg #[.int .i64 c.f, .int .i64 c.m, .int .i64 c.l, .int .i64 c.p]) rfl (by kernel_rfl) (by kernel_rfl) (by kernel_rfl) (fun _ _ _ h => h) (yieldsIf_load_cf (by rfl) _ rfl rfl (fun W hW => HB.out.more hW)) (by assumption) ?_
  simp only [Act.put, List.setIfInBounds_toArray, List.set_cons_zero, List.set_cons_succ]
  refine wpAnyH_take (i := 4) (oi := { dst := some 41, op := Op.load 23 (Operand.tmp 40), type := 23, pos := "law.go:28", after := #[{ on := 3, ground := Ground.data }], guard := none }) (v := .agg #[.int .i64 c.f, .int .i64 c.m, .int .i64 c.l, .int .i64 c.p]) rfl (by kernel_rfl) (by kernel_rfl) (by kernel_rfl) (fun _ _ _ h => h) (yieldsIf_load_cf (by rfl) _ rfl rfl (fun W hW => HB.out.more hW)) (by assumption) ?_
  simp only [Act.put, List.setIfInBounds_toArray, List.set_cons_zero, List.set_cons_succ]
  refine wpAnyH_ready (rs := [2]) (by kernel_rfl) (by simp) ?_
  refine AllReadyH.cons (o := { dst := some 39, op := Op.call { callee := Callee.value (Operand.func 11), args := #[Operand.tmp 38], argTypes := #[23] }, type := 4, pos := "law.go:28", after := #[{ on := 1, ground := Ground.data }], guard := none }) rfl (fun K hK => ?_) (AllReadyH.nil)
  go_simp
  refine (H5.out _).mono ?_
  rintro e p1 ⟨rfl, hp1⟩
  have HXp1 := hide (o2 (Only.drew _ _) hp1)
  clear hp1
  refine hK.out _ _ (HXp1.out) (fun hHeld => ?_)
  clear hK K
  try simp only [Act.put, List.setIfInBounds_toArray, List.set_cons_zero, List.set_cons_succ]
  refine wpAnyH_ready (rs := [5]) (by kernel_rfl) (by simp) ?_
  refine AllReadyH.cons (o := { dst := some 42, op := Op.call { callee := Callee.value (Operand.func 12), args := #[Operand.tmp 41], argTypes := #[23] }, type := 4, pos := "law.go:28", after := #[{ on := 4, ground := Ground.data }, { on := 2, ground := Ground.chain }], guard := none }) rfl (fun K hK => ?_) (AllReadyH.nil)
  go_simp
  refine (H6.out _).mono ?_
  rintro e p2 ⟨rfl, hp2⟩
  have HXp2 := hide (o2 HXp1.out hp2)
  clear hp2
  refine hK.out _ _ (HXp2.out) (fun hHeld => ?_)
  clear hK K
  try simp only [Act.put, List.setIfInBounds_toArray, List.set_cons_zero, List.set_cons_succ]
  refine wpAnyH_take (i := 6) (oi := { dst := some 43, op := Op.binOp BinOp.eql 4 (Operand.tmp 39) (Operand.tmp 42) 4, type := 4, pos := "law.go:28", after := #[{ on := 2, ground := Ground.data }, { on := 5, ground := Ground.data }], guard := none }) (v := .bool true) rfl (by kernel_rfl) (by kernel_rfl) (by kernel_rfl) (fun _ _ _ h => h) (Or.inl ⟨by rfl, fun w' hSw => by clear hSw; go_simp⟩) (by assumption) ?_
  simp only [Act.put, List.setIfInBounds_toArray, List.set_cons_zero, List.set_cons_succ]
  refine wpAnyH_take (i := 7) (oi := { dst := some 44, op := Op.move (Operand.tmp 43), type := 4, pos := "law.go:28", after := #[{ on := 6, ground := Ground.data }, { on := 5, ground := Ground.chain }], guard := none }) (v := .bool true) rfl (by kernel_rfl) (by kernel_rfl) (by kernel_rfl) (fun _ _ _ h => h) (Or.inl ⟨by rfl, fun w' hSw => by clear hSw; go_simp⟩) (by assumption) ?_
  simp only [Act.put, List.setIfInBounds_toArray, List.set_cons_zero, List.set_cons_succ]
  refine wpAnyH_take (i := 8) (oi := { dst := some 45, op := Op.move (Operand.tmp 7), type := 9, pos := "law.go:28", after := #[{ on := 7, ground := Ground.guard }], guard := some (7, true) }) (v := .string SS) rfl (by kernel_rfl) (by kernel_rfl) (by kernel_rfl) (fun _ _ _ h => h) (Or.inl ⟨by rfl, fun w' hSw => by clear hSw; go_simp⟩) (by assumption) ?_
  simp only [Act.put, List.setIfInBounds_toArray, List.set_cons_zero, List.set_cons_succ]
  refine wpAnyH_take (i := 9) (oi := { dst := some 46, op := Op.move (Operand.tmp 9), type := 9, pos := "law.go:28", after := #[{ on := 7, ground := Ground.guard }], guard := some (7, true) }) (v := .string SS) rfl (by kernel_rfl) (by kernel_rfl) (by kernel_rfl) (fun _ _ _ h => h) (Or.inl ⟨by rfl, fun w' hSw => by clear hSw; go_simp⟩) (by assumption) ?_
  simp only [Act.put, List.setIfInBounds_toArray, List.set_cons_zero, List.set_cons_succ]
  refine wpAnyH_take (i := 10) (oi := { dst := some 47, op := Op.binOp BinOp.eql 9 (Operand.tmp 45) (Operand.tmp 46) 9, type := 4, pos := "law.go:28", after := #[{ on := 8, ground := Ground.data }, { on := 9, ground := Ground.data }, { on := 7, ground := Ground.guard }], guard := some (7, true) }) (v := .bool true) rfl (by kernel_rfl) (by kernel_rfl) (by kernel_rfl) (fun _ _ _ h => h) (Or.inl ⟨by rfl, fun w' hSw => by clear hSw; go_simp⟩) (by assumption) ?_
  simp only [Act.put, List.setIfInBounds_toArray, List.set_cons_zero, List.set_cons_succ]
  refine wpAnyH_take (i := 11) (oi := { dst := some 48, op := Op.pick (Operand.tmp 44) (Operand.tmp 47) (Operand.const (Value.bool false)), type := 4, pos := "law.go:28", after := #[{ on := 7, ground := Ground.data }, { on := 10, ground := Ground.data }], guard := none }) (v := .bool true) rfl (by kernel_rfl) (by kernel_rfl) (by kernel_rfl) (fun _ _ _ h => h) (Or.inl ⟨by rfl, fun w' hSw => by clear hSw; go_simp⟩) (by assumption) ?_
  simp only [Act.put, List.setIfInBounds_toArray, List.set_cons_zero, List.set_cons_succ]
  refine wpAnyH_take (i := 12) (oi := { dst := some 49, op := Op.move (Operand.tmp 48), type := 4, pos := "law.go:28", after := #[{ on := 11, ground := Ground.data }, { on := 7, ground := Ground.chain }], guard := none }) (v := .bool true) rfl (by kernel_rfl) (by kernel_rfl) (by kernel_rfl) (fun _ _ _ h => h) (Or.inl ⟨by rfl, fun w' hSw => by clear hSw; go_simp⟩) (by assumption) ?_
  simp only [Act.put, List.setIfInBounds_toArray, List.set_cons_zero, List.set_cons_succ]
  refine wpAnyH_take (i := 13) (oi := { dst := some 50, op := Op.move (Operand.tmp 8), type := 27, pos := "law.go:28", after := #[{ on := 12, ground := Ground.guard }], guard := some (12, true) }) (v := .int .i64 E) rfl (by kernel_rfl) (by kernel_rfl) (by kernel_rfl) (fun _ _ _ h => h) (Or.inl ⟨by rfl, fun w' hSw => by clear hSw; go_simp⟩) (by assumption) ?_
  simp only [Act.put, List.setIfInBounds_toArray, List.set_cons_zero, List.set_cons_succ]
  refine wpAnyH_take (i := 14) (oi := { dst := some 51, op := Op.move (Operand.tmp 10), type := 27, pos := "law.go:28", after := #[{ on := 12, ground := Ground.guard }], guard := some (12, true) }) (v := .int .i64 E) rfl (by kernel_rfl) (by kernel_rfl) (by kernel_rfl) (fun _ _ _ h => h) (Or.inl ⟨by rfl, fun w' hSw => by clear hSw; go_simp⟩) (by assumption) ?_
  simp only [Act.put, List.setIfInBounds_toArray, List.set_cons_zero, List.set_cons_succ]
  refine wpAnyH_take (i := 15) (oi := { dst := some 52, op := Op.binOp BinOp.eql 27 (Operand.tmp 50) (Operand.tmp 51) 27, type := 4, pos := "law.go:28", after := #[{ on := 13, ground := Ground.data }, { on := 14, ground := Ground.data }, { on := 12, ground := Ground.guard }], guard := some (12, true) }) (v := .bool true) rfl (by kernel_rfl) (by kernel_rfl) (by kernel_rfl) (fun _ _ _ h => h) (Or.inl ⟨by rfl, fun w' hSw => by clear hSw; go_simp⟩) (by assumption) ?_
  simp only [Act.put, List.setIfInBounds_toArray, List.set_cons_zero, List.set_cons_succ]
  refine wpAnyH_take (i := 16) (oi := { dst := some 53, op := Op.pick (Operand.tmp 49) (Operand.tmp 52) (Operand.const (Value.bool false)), type := 4, pos := "law.go:28", after := #[{ on := 12, ground := Ground.data }, { on := 15, ground := Ground.data }], guard := none }) (v := .bool true) rfl (by kernel_rfl) (by kernel_rfl) (by kernel_rfl) (fun _ _ _ h => h) (Or.inl ⟨by rfl, fun w' hSw => by clear hSw; go_simp⟩) (by assumption) ?_
  simp only [Act.put, List.setIfInBounds_toArray, List.set_cons_zero, List.set_cons_succ]
  refine wpAnyH_take (i := 17) (oi := { dst := some 54, op := Op.move (Operand.tmp 53), type := 4, pos := "law.go:28", after := #[{ on := 16, ground := Ground.data }, { on := 12, ground := Ground.chain }], guard := none }) (v := .bool true) rfl (by kernel_rfl) (by kernel_rfl) (by kernel_rfl) (fun _ _ _ h => h) (Or.inl ⟨by rfl, fun w' hSw => by clear hSw; go_simp⟩) (by assumption) ?_
  simp only [Act.put, List.setIfInBounds_toArray, List.set_cons_zero, List.set_cons_succ]
  refine wpAnyH_take (i := 18) (oi := { dst := some 55, op := Op.load 31 (Operand.tmp 11), type := 31, pos := "law.go:28", after := #[{ on := 17, ground := Ground.guard }], guard := some (17, true) }) (v := .agg #[.int .i64 x, .int .i64 y, .int .i64 z]) rfl (by kernel_rfl) (by kernel_rfl) (by kernel_rfl) (fun _ _ _ h => h) (yieldsIf_load_lb (by rfl) _ rfl rfl (fun W hW => HX.out.more hW)) (by assumption) ?_
  simp only [Act.put, List.setIfInBounds_toArray, List.set_cons_zero, List.set_cons_succ]
  refine wpAnyH_take (i := 19) (oi := { dst := some 56, op := Op.load 31 (Operand.tmp 13), type := 31, pos := "law.go:28", after := #[{ on := 17, ground := Ground.guard }], guard := some (17, true) }) (v := .agg #[.int .i64 x, .int .i64 y, .int .i64 z]) rfl (by kernel_rfl) (by kernel_rfl) (by kernel_rfl) (fun _ _ _ h => h) (yieldsIf_load_lb (by rfl) _ rfl rfl (fun W hW => HY.out.more hW)) (by assumption) ?_
  simp only [Act.put, List.setIfInBounds_toArray, List.set_cons_zero, List.set_cons_succ]
  refine wpAnyH_take (i := 20) (oi := { dst := some 57, op := Op.binOp BinOp.eql 31 (Operand.tmp 55) (Operand.tmp 56) 31, type := 4, pos := "law.go:28", after := #[{ on := 18, ground := Ground.data }, { on := 19, ground := Ground.data }, { on := 17, ground := Ground.guard }], guard := some (17, true) }) (v := .bool true) rfl (by kernel_rfl) (by kernel_rfl) (by kernel_rfl) (fun _ _ _ h => h) (Or.inl ⟨by rfl, fun w' hSw => by clear hSw; go_simp⟩) (by assumption) ?_
  simp only [Act.put, List.setIfInBounds_toArray, List.set_cons_zero, List.set_cons_succ]
  refine wpAnyH_take (i := 21) (oi := { dst := some 58, op := Op.pick (Operand.tmp 54) (Operand.tmp 57) (Operand.const (Value.bool false)), type := 4, pos := "law.go:28", after := #[{ on := 17, ground := Ground.data }, { on := 20, ground := Ground.data }], guard := none }) (v := .bool true) rfl (by kernel_rfl) (by kernel_rfl) (by kernel_rfl) (fun _ _ _ h => h) (Or.inl ⟨by rfl, fun w' hSw => by clear hSw; go_simp⟩) (by assumption) ?_
  simp only [Act.put, List.setIfInBounds_toArray, List.set_cons_zero, List.set_cons_succ]
  refine wpAnyH_take (i := 22) (oi := { dst := some 59, op := Op.move (Operand.tmp 58), type := 4, pos := "law.go:28", after := #[{ on := 21, ground := Ground.data }, { on := 17, ground := Ground.chain }], guard := none }) (v := .bool true) rfl (by kernel_rfl) (by kernel_rfl) (by kernel_rfl) (fun _ _ _ h => h) (Or.inl ⟨by rfl, fun w' hSw => by clear hSw; go_simp⟩) (by assumption) ?_
  simp only [Act.put, List.setIfInBounds_toArray, List.set_cons_zero, List.set_cons_succ]
  refine wpAnyH_take (i := 23) (oi := { dst := some 60, op := Op.move (Operand.tmp 12), type := 27, pos := "law.go:28", after := #[{ on := 22, ground := Ground.guard }], guard := some (22, true) }) (v := .int .i64 G) rfl (by kernel_rfl) (by kernel_rfl) (by kernel_rfl) (fun _ _ _ h => h) (Or.inl ⟨by rfl, fun w' hSw => by clear hSw; go_simp⟩) (by assumption) ?_
  simp only [Act.put, List.setIfInBounds_toArray, List.set_cons_zero, List.set_cons_succ]
  refine wpAnyH_take (i := 24) (oi := { dst := some 61, op := Op.move (Operand.tmp 14), type := 27, pos := "law.go:28", after := #[{ on := 22, ground := Ground.guard }], guard := some (22, true) }) (v := .int .i64 G) rfl (by kernel_rfl) (by kernel_rfl) (by kernel_rfl) (fun _ _ _ h => h) (Or.inl ⟨by rfl, fun w' hSw => by clear hSw; go_simp⟩) (by assumption) ?_
  simp only [Act.put, List.setIfInBounds_toArray, List.set_cons_zero, List.set_cons_succ]
  refine wpAnyH_take (i := 25) (oi := { dst := some 62, op := Op.binOp BinOp.eql 27 (Operand.tmp 60) (Operand.tmp 61) 27, type := 4, pos := "law.go:28", after := #[{ on := 23, ground := Ground.data }, { on := 24, ground := Ground.data }, { on := 22, ground := Ground.guard }], guard := some (22, true) }) (v := .bool true) rfl (by kernel_rfl) (by kernel_rfl) (by kernel_rfl) (fun _ _ _ h => h) (Or.inl ⟨by rfl, fun w' hSw => by clear hSw; go_simp⟩) (by assumption) ?_
  simp only [Act.put, List.setIfInBounds_toArray, List.set_cons_zero, List.set_cons_succ]
  refine wpAnyH_take (i := 26) (oi := { dst := some 63, op := Op.pick (Operand.tmp 59) (Operand.tmp 62) (Operand.const (Value.bool false)), type := 4, pos := "law.go:28", after := #[{ on := 22, ground := Ground.data }, { on := 25, ground := Ground.data }], guard := none }) (v := .bool true) rfl (by kernel_rfl) (by kernel_rfl) (by kernel_rfl) (fun _ _ _ h => h) (Or.inl ⟨by rfl, fun w' hSw => by clear hSw; go_simp⟩) (by assumption) ?_
  simp only [Act.put, List.setIfInBounds_toArray, List.set_cons_zero, List.set_cons_succ]
  refine wpAnyH_take (i := 27) (oi := { dst := some 64, op := Op.move (Operand.tmp 63), type := 4, pos := "law.go:28", after := #[{ on := 26, ground := Ground.data }, { on := 22, ground := Ground.chain }], guard := none }) (v := .bool true) rfl (by kernel_rfl) (by kernel_rfl) (by kernel_rfl) (fun _ _ _ h => h) (Or.inl ⟨by rfl, fun w' hSw => by clear hSw; go_simp⟩) (by assumption) ?_
  simp only [Act.put, List.setIfInBounds_toArray, List.set_cons_zero, List.set_cons_succ]
  refine wpAnyH_take (i := 28) (oi := { dst := some 65, op := Op.move (Operand.tmp 1), type := 3, pos := "law.go:28", after := #[{ on := 27, ground := Ground.guard }], guard := some (27, true) }) (v := .int .i64 q) rfl (by kernel_rfl) (by kernel_rfl) (by kernel_rfl) (fun _ _ _ h => h) (Or.inl ⟨by rfl, fun w' hSw => by clear hSw; go_simp⟩) (by assumption) ?_
  simp only [Act.put, List.setIfInBounds_toArray, List.set_cons_zero, List.set_cons_succ]
  refine wpAnyH_take (i := 29) (oi := { dst := some 66, op := Op.move (Operand.tmp 2), type := 26, pos := "law.go:28", after := #[{ on := 27, ground := Ground.guard }], guard := some (27, true) }) (v := .slice ao l.length cp) rfl (by kernel_rfl) (by kernel_rfl) (by kernel_rfl) (fun _ _ _ h => h) (Or.inl ⟨by rfl, fun w' hSw => by clear hSw; go_simp⟩) (by assumption) ?_
  simp only [Act.put, List.setIfInBounds_toArray, List.set_cons_zero, List.set_cons_succ]
  refine wpAnyH_take (i := 31) (oi := { dst := some 68, op := Op.move (Operand.tmp 1), type := 3, pos := "law.go:28", after := #[{ on := 27, ground := Ground.guard }], guard := some (27, true) }) (v := .int .i64 q) rfl (by kernel_rfl) (by kernel_rfl) (by kernel_rfl) (fun _ _ _ h => h) (Or.inl ⟨by rfl, fun w' hSw => by clear hSw; go_simp⟩) (by assumption) ?_
  simp only [Act.put, List.setIfInBounds_toArray, List.set_cons_zero, List.set_cons_succ]
  refine wpAnyH_take (i := 32) (oi := { dst := some 69, op := Op.move (Operand.tmp 2), type := 26, pos := "law.go:28", after := #[{ on := 27, ground := Ground.guard }], guard := some (27, true) }) (v := .slice ao l.length cp) rfl (by kernel_rfl) (by kernel_rfl) (by kernel_rfl) (fun _ _ _ h => h) (Or.inl ⟨by rfl, fun w' hSw => by clear hSw; go_simp⟩) (by assumption) ?_
  simp only [Act.put, List.setIfInBounds_toArray, List.set_cons_zero, List.set_cons_succ]
  refine wpAnyH_ready (rs := [30]) (by kernel_rfl) (by simp) ?_
  refine AllReadyH.cons (o := { dst := some 67, op := Op.call { callee := Callee.value (Operand.func 13), args := #[Operand.tmp 65, Operand.tmp 66], argTypes := #[3, 26] }, type := 3, pos := "law.go:28", after := #[{ on := 28, ground := Ground.data }, { on := 29, ground := Ground.data }, { on := 27, ground := Ground.chain }, { on := 27, ground := Ground.guard }], guard := some (27, true) }) rfl (fun K hK => ?_) (AllReadyH.nil)
  go_simp
  refine (H7.out _ (o2 HO.out HXp2.out)).mono ?_
  rintro e p3 ⟨rfl, hp3⟩
  have HXp3 := hide (o2 HXp2.out hp3)
  clear hp3
  refine hK.out _ _ (HXp3.out) (fun hHeld => ?_)
  clear hK K
  try simp only [Act.put, List.setIfInBounds_toArray, List.set_cons_zero, List.set_cons_succ]
  refine wpAnyH_ready (rs := [33]) (by kernel_rfl) (by simp) ?_
  refine AllReadyH.cons (o := { dst := some 70, op := Op.call { callee := Callee.value (Operand.func 14), args := #[Operand.tmp 68, Operand.tmp 69], argTypes := #[3, 26] }, type := 3, pos := "law.go:28", after := #[{ on := 31, ground := Ground.data }, { on := 32, ground := Ground.data }, { on := 30, ground := Ground.chain }, { on := 27, ground := Ground.guard }], guard := some (27, true) }) rfl (fun K hK => ?_) (AllReadyH.nil)
  go_simp
  refine (H8.out _ (o2 HO.out HXp3.out)).mono ?_
  rintro e p4 ⟨rfl, hp4⟩
  have HXp4 := hide (o2 HXp3.out hp4)
  clear hp4
  refine hK.out _ _ (HXp4.out) (fun hHeld => ?_)
  clear hK K
  try simp only [Act.put, List.setIfInBounds_toArray, List.set_cons_zero, List.set_cons_succ]
  refine wpAnyH_take (i := 34) (oi := { dst := some 71, op := Op.binOp BinOp.eql 3 (Operand.tmp 67) (Operand.tmp 70) 3, type := 4, pos := "law.go:28", after := #[{ on := 30, ground := Ground.data }, { on := 33, ground := Ground.data }, { on := 27, ground := Ground.guard }], guard := some (27, true) }) (v := .bool true) rfl (by kernel_rfl) (by kernel_rfl) (by kernel_rfl) (fun _ _ _ h => h) (Or.inl ⟨by rfl, fun w' hSw => by clear hSw; go_simp⟩) (by assumption) ?_
  simp only [Act.put, List.setIfInBounds_toArray, List.set_cons_zero, List.set_cons_succ]
  refine wpAnyH_take (i := 35) (oi := { dst := some 72, op := Op.pick (Operand.tmp 64) (Operand.tmp 71) (Operand.const (Value.bool false)), type := 4, pos := "law.go:28", after := #[{ on := 27, ground := Ground.data }, { on := 34, ground := Ground.data }], guard := none }) (v := .bool true) rfl (by kernel_rfl) (by kernel_rfl) (by kernel_rfl) (fun _ _ _ h => h) (Or.inl ⟨by rfl, fun w' hSw => by clear hSw; go_simp⟩) (by assumption) ?_
  simp only [Act.put, List.setIfInBounds_toArray, List.set_cons_zero, List.set_cons_succ]
  refine wpAnyH_take (i := 36) (oi := { dst := some 73, op := Op.move (Operand.tmp 72), type := 4, pos := "law.go:28", after := #[{ on := 35, ground := Ground.data }, { on := 33, ground := Ground.chain }], guard := none }) (v := .bool true) rfl (by kernel_rfl) (by kernel_rfl) (by kernel_rfl) (fun _ _ _ h => h) (Or.inl ⟨by rfl, fun w' hSw => by clear hSw; go_simp⟩) (by assumption) ?_
  simp only [Act.put, List.setIfInBounds_toArray, List.set_cons_zero, List.set_cons_succ]
  refine wpAnyH_ready (rs := [37]) (by kernel_rfl) (by simp) ?_
  refine AllReadyH.cons (o := { dst := some 74, op := Op.call { callee := Callee.value (Operand.func 15), args := #[], argTypes := #[] }, type := 4, pos := "law.go:28", after := #[{ on := 36, ground := Ground.chain }, { on := 36, ground := Ground.guard }], guard := some (36, true) }) rfl (fun K hK => ?_) (AllReadyH.nil)
  go_simp
  refine (HW.out _).mono ?_
  rintro e p5 ⟨rfl, hp5⟩
  have HXp5 := hide (o2 HXp4.out hp5)
  clear hp5
  refine hK.out _ _ (HXp5.out) (fun hHeld => ?_)
  clear hK K
  try simp only [Act.put, List.setIfInBounds_toArray, List.set_cons_zero, List.set_cons_succ]
  refine wpAnyH_take (i := 38) (oi := { dst := some 75, op := Op.pick (Operand.tmp 73) (Operand.tmp 74) (Operand.const (Value.bool false)), type := 4, pos := "law.go:28", after := #[{ on := 36, ground := Ground.data }, { on := 37, ground := Ground.data }], guard := none }) (v := .bool true) rfl (by kernel_rfl) (by kernel_rfl) (by kernel_rfl) (fun _ _ _ h => h) (Or.inl ⟨by rfl, fun w' hSw => by clear hSw; go_simp⟩) (by assumption) ?_
  simp only [Act.put, List.setIfInBounds_toArray, List.set_cons_zero, List.set_cons_succ]
  refine wpAnyH_take (i := 39) (oi := { dst := some 6, op := Op.assign (Operand.tmp 75), type := 4, pos := "law.go:28", after := #[{ on := 38, ground := Ground.data }, { on := 37, ground := Ground.chain }, { on := 0, ground := Ground.phase }, { on := 1, ground := Ground.phase }, { on := 2, ground := Ground.phase }, { on := 3, ground := Ground.phase }, { on := 4, ground := Ground.phase }, { on := 5, ground := Ground.phase }, { on := 6, ground := Ground.phase }, { on := 7, ground := Ground.phase }, { on := 8, ground := Ground.phase }, { on := 9, ground := Ground.phase }, { on := 10, ground := Ground.phase }, { on := 11, ground := Ground.phase }, { on := 12, ground := Ground.phase }, { on := 13, ground := Ground.phase }, { on := 14, ground := Ground.phase }, { on := 15, ground := Ground.phase }, { on := 16, ground := Ground.phase }, { on := 17, ground := Ground.phase }, { on := 18, ground := Ground.phase }, { on := 19, ground := Ground.phase }, { on := 20, ground := Ground.phase }, { on := 21, ground := Ground.phase }, { on := 22, ground := Ground.phase }, { on := 23, ground := Ground.phase }, { on := 24, ground := Ground.phase }, { on := 25, ground := Ground.phase }, { on := 26, ground := Ground.phase }, { on := 27, ground := Ground.phase }, { on := 28, ground := Ground.phase }, { on := 29, ground := Ground.phase }, { on := 30, ground := Ground.phase }, { on := 31, ground := Ground.phase }, { on := 32, ground := Ground.phase }, { on := 33, ground := Ground.phase }, { on := 34, ground := Ground.phase }, { on := 35, ground := Ground.phase }, { on := 36, ground := Ground.phase }, { on := 37, ground := Ground.phase }, { on := 38, ground := Ground.phase }], guard := none }) (v := .bool true) rfl (by kernel_rfl) (by kernel_rfl) (by kernel_rfl) (fun _ _ _ h => h) (Or.inl ⟨by rfl, fun w' hSw => by clear hSw; go_simp⟩) (by assumption) ?_
  simp only [Act.put, List.setIfInBounds_toArray, List.set_cons_zero, List.set_cons_succ]
  refine wpAnyH_done (by kernel_rfl) ?_ _
  refine NoPanic.normal ?_
  rw [Exit.then]
  go_wp2_with fail
  go_ret
  exact ⟨rfl, o2 HO.out HXp5.out⟩
end Go.Proofs.Ytpogphaflhfmbaa
