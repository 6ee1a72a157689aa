/- follows of package node, whatever was read and whatever follows. -/
import Derived.Test.YtphofhicehncgaaGreatK23
namespace Go.Proofs.YtphofhicehncgaaGreat
open Go.RowKit

theorem follows_nil (w : World) (a1 a2 : Option Addr) (c1 n2 c2 : Nat) (h e : En) :
    Calls Tryz.prog 119 #[cvv (.slice a1 0 c1) (.slice a2 n2 c2) h, e.agg] w fun x w' => x = .returned (.bool (decide (e = noE))) ∧ Only (fun _ => False) w w' := by
  have HL : Hid (∀ W, Calls Tryz.prog 116 #[.agg #[.string e.key, .int .i64 e.page, .int .i64 e.slot]] W fun x w' => x = .returned (.bool (decide (e = noE))) ∧ Only (fun _ => False) W w') := fun W => isLeast_any e W
  have HX := hide (ce_new w (.slice a1 0 c1) (.slice a2 n2 c2) h e)
  obtain ⟨bb, hbb⟩ : ∃ b, decide (e = noE) = b := ⟨_, rfl⟩
  rw [hbb] at HL ⊢
  clear hbb
  unfold cvv En.agg
  go_enter Tryz.func119, Tryz.ntmps119
  go_upto_region 1 with fail
  obtain ⟨W0, hW0⟩ : ∃ x, (w.alloc (.cells #[.slice a1 0 c1, .slice a2 n2 c2, .string h.key, .int .i64 h.page, .int .i64 h.slot] 118)).alloc (.cells #[.string e.key, .int .i64 e.page, .int .i64 e.slot] 83) = x := ⟨_, rfl⟩
  rw [hW0] at HX ⊢
  clear hW0
  have q0 := HX.out.1.c0
  obtain ⟨d0, d1, d2, _⟩ := HX.out.2.1
  go_wp2_with fail
  refine (HL.out _).mono ?_
  rintro x w1 ⟨rfl, ho⟩
  have HO1 := hide (o2 HX.out.2.2 ho)
  clear ho
  go_wp2_with fail
  go_ret
  exact ⟨rfl, HO1.out⟩
set_option maxRecDepth 100000 in
set_option maxHeartbeats 3200000 in
theorem follows_one (w : World) (B o n c1 n2 c2 : Nat) (a2 : Option Addr) (h e la : En) (hE : Eb w B (o + n * 3) la) (hn : n ≤ 8796093021952) :
    Calls Tryz.prog 119 #[cvv (.slice (some ⟨B, o, none⟩) (n + 1) c1) (.slice a2 n2 c2) h, e.agg] w fun x w' => x = .returned (.bool (decide (la.lt e) && blw h e)) ∧ Only (fun _ => False) w w' := by
  have HM : Hid (∀ W, Calls Tryz.prog 115 #[.agg #[.string e.key, .int .i64 e.page, .int .i64 e.slot], .agg #[.string la.key, .int .i64 la.page, .int .i64 la.slot]] W fun x w' => x = .returned (.int .i64 (cmpE e la)) ∧ Only (fun _ => False) W w') := fun W => compare_any e la W
  have HB : Hid (∀ W, Calls Tryz.prog 84 #[.agg #[.slice (some ⟨B, o, none⟩) (n + 1) c1, .slice a2 n2 c2, .string h.key, .int .i64 h.page, .int .i64 h.slot], .agg #[.string e.key, .int .i64 e.page, .int .i64 e.slot]] W fun x w' => x = .returned (.bool (blw h e)) ∧ Only (fun _ => False) W w') := fun W => isBelow_any W (some ⟨B, o, none⟩) a2 (n + 1) n2 c1 c2 h e
  have hzp : 0 < cmpE e la ↔ la.lt e := cmpE_pos
  obtain ⟨z, hz⟩ : ∃ z, cmpE e la = z := ⟨_, rfl⟩
  obtain ⟨bw, hbw⟩ : ∃ b, blw h e = b := ⟨_, rfl⟩
  rw [hz] at HM hzp
  rw [hbw] at HB ⊢
  obtain ⟨rb, hrb⟩ : ∃ b, (decide (la.lt e) && bw) = b := ⟨_, rfl⟩
  rw [hrb]
  have HX := hide (ce_new w (.slice (some ⟨B, o, none⟩) (n + 1) c1) (.slice a2 n2 c2) h e)
  have HEB := hide (hE.more HX.out.2.2)
  clear hz hE hbw
  unfold cvv En.agg
  go_enter Tryz.func119, Tryz.ntmps119
  go_upto_region 1 with fail
  obtain ⟨W0, hW0⟩ : ∃ x, (w.alloc (.cells #[.slice (some ⟨B, o, none⟩) (n + 1) c1, .slice a2 n2 c2, .string h.key, .int .i64 h.page, .int .i64 h.slot] 118)).alloc (.cells #[.string e.key, .int .i64 e.page, .int .i64 e.slot] 83) = x := ⟨_, rfl⟩
  rw [hW0] at HX HEB ⊢
  clear hW0
  have q0 := HX.out.1.c0
  have hn0 : ((n : Int) + 1 == 0) = false := by simp; omega
  go_upto_region 3 with fail
  clear q0 hn0
  have hwn : IntKind.i64.wrap (n : Int) = (n : Int) := by rw [IntKind.wrap_i64]; omega
  have hle : ¬ (n : Int) + 1 ≤ (n : Int) := by omega
  by_cases hlt : la.lt e
  · have hz0 : 0 < z := hzp.2 hlt
    have HR : Hid (bw = rb) := by rw [decide_eq_true hlt, Bool.true_and] at hrb; exact hrb
    clear hzp hlt hrb
    -- {r3a
    refine wp_region_noPanic ?_
    refine wp_region_held_drew (S := fun W => Only (fun _ => False) W0 W) (by kernel_rfl) (Only.drew _ _) (fun hHeld => ?_)
    refine wpAnyH_take (i := 0) (oi := { dst := some 11, op := Op.load 83 (Operand.tmp 3), type := 83, pos := "read.go:78", after := #[], guard := none }) (v := .agg #[.string e.key, .int .i64 e.page, .int .i64 e.slot]) rfl (by kernel_rfl) (by kernel_rfl) (by kernel_rfl) (fun _ _ _ h => h) (yieldsIf_load_ev (by rfl) _ rfl rfl (fun W hW => HX.out.2.1.more hW)) (by assumption) ?_
    simp only [Act.put, List.setIfInBounds_toArray, List.set_cons_zero, List.set_cons_succ]
    refine wpAnyH_take (i := 1) (oi := { dst := some 12, op := Op.fieldAddr 118 (Operand.tmp 2) 0, type := 0, pos := "read.go:78", after := #[], guard := none }) (v := .pointer (some ⟨w.heap.size, 0, none⟩)) rfl (by kernel_rfl) (by kernel_rfl) (by kernel_rfl) (fun _ _ _ h => h) (Or.inl ⟨by rfl, fun w' hSw => by clear hSw; go_simp⟩) (by assumption) ?_
    simp only [Act.put, List.setIfInBounds_toArray, List.set_cons_zero, List.set_cons_succ]
    refine wpAnyH_take (i := 3) (oi := { dst := some 14, op := Op.fieldAddr 118 (Operand.tmp 2) 0, type := 0, pos := "read.go:78", after := #[], guard := none }) (v := .pointer (some ⟨w.heap.size, 0, none⟩)) rfl (by kernel_rfl) (by kernel_rfl) (by kernel_rfl) (fun _ _ _ h => h) (Or.inl ⟨by rfl, fun w' hSw => by clear hSw; go_simp⟩) (by assumption) ?_
    simp only [Act.put, List.setIfInBounds_toArray, List.set_cons_zero, List.set_cons_succ]
    refine wpAnyH_take (i := 2) (oi := { dst := some 13, op := Op.load 116 (Operand.tmp 12), type := 116, pos := "read.go:78", after := #[{ on := 1, ground := Ground.data }], guard := none }) (v := .slice (some ⟨B, o, none⟩) (n + 1) c1) rfl (by kernel_rfl) (by kernel_rfl) (by kernel_rfl) (fun _ _ _ h => h) (yieldsIf_load_cell (by rfl) 116 _ rfl _ rfl (fun W hW => (HX.out.1.more hW).c0) (fun W hc => ld_entries hc)) (by assumption) ?_
    simp only [Act.put, List.setIfInBounds_toArray, List.set_cons_zero, List.set_cons_succ]
    refine wpAnyH_take (i := 4) (oi := { dst := some 15, op := Op.load 116 (Operand.tmp 14), type := 116, pos := "read.go:78", after := #[{ on := 3, ground := Ground.data }], guard := none }) (v := .slice (some ⟨B, o, none⟩) (n + 1) c1) rfl (by kernel_rfl) (by kernel_rfl) (by kernel_rfl) (fun _ _ _ h => h) (yieldsIf_load_cell (by rfl) 116 _ rfl _ rfl (fun W hW => (HX.out.1.more hW).c0) (fun W hc => ld_entries hc)) (by assumption) ?_
    simp only [Act.put, List.setIfInBounds_toArray, List.set_cons_zero, List.set_cons_succ]
    refine wpAnyH_take (i := 5) (oi := { dst := some 16, op := Op.call { callee := Callee.builtin Builtin.len, args := #[Operand.tmp 15], argTypes := #[116] }, type := 3, pos := "read.go:78", after := #[{ on := 4, ground := Ground.data }], guard := none }) (v := .int .i64 ((n : Int) + 1)) rfl (by kernel_rfl) (by kernel_rfl) (by kernel_rfl) (fun _ _ _ h => h) (Or.inl ⟨by rfl, fun w' hSw => by clear hSw; go_simp⟩) (by assumption) ?_
    simp only [Act.put, List.setIfInBounds_toArray, List.set_cons_zero, List.set_cons_succ]
    refine wpAnyH_take (i := 6) (oi := { dst := some 17, op := Op.binOp BinOp.sub 3 (Operand.tmp 16) (Operand.const (Value.int IntKind.i64 1)) 3, type := 3, pos := "read.go:78", after := #[{ on := 5, ground := Ground.data }], guard := none }) (v := .int .i64 (n : Int)) rfl (by kernel_rfl) (by kernel_rfl) (by kernel_rfl) (fun _ _ _ h => h) (Or.inl ⟨by rfl, fun w' hSw => by clear hSw; go_simp⟩) (by assumption) ?_
    simp only [Act.put, List.setIfInBounds_toArray, List.set_cons_zero, List.set_cons_succ]
    refine wpAnyH_take (i := 7) (oi := { dst := some 18, op := Op.indexAddr 116 (Operand.tmp 13) (Operand.tmp 17), type := 0, pos := "read.go:78", after := #[{ on := 2, ground := Ground.data }, { on := 6, ground := Ground.data }], guard := none }) (v := .pointer (some ⟨B, o + n * 3, none⟩)) rfl (by kernel_rfl) (by kernel_rfl) (by kernel_rfl) (fun _ _ _ h => h) (Or.inl ⟨by rfl, fun w' hSw => by clear hSw; go_simp⟩) (by assumption) ?_
    simp only [Act.put, List.setIfInBounds_toArray, List.set_cons_zero, List.set_cons_succ]
    refine wpAnyH_take (i := 8) (oi := { dst := some 19, op := Op.load 83 (Operand.tmp 18), type := 83, pos := "read.go:78", after := #[{ on := 7, ground := Ground.data }], guard := none }) (v := .agg #[.string la.key, .int .i64 la.page, .int .i64 la.slot]) rfl (by kernel_rfl) (by kernel_rfl) (by kernel_rfl) (fun _ _ _ h => h) (yieldsIf_load_eb (by rfl) _ rfl rfl (fun W hW => HEB.out.more hW)) (by assumption) ?_
    simp only [Act.put, List.setIfInBounds_toArray, List.set_cons_zero, List.set_cons_succ]
    refine wpAnyH_ready (rs := [9]) (by kernel_rfl) (by simp) ?_
    refine AllReadyH.cons (o := { dst := some 20, op := Op.call { callee := Callee.value (Operand.func 115), args := #[Operand.tmp 11, Operand.tmp 19], argTypes := #[83, 83] }, type := 3, pos := "read.go:78", after := #[{ on := 0, ground := Ground.data }, { on := 8, ground := Ground.data }], guard := none }) rfl (fun K hK => ?_) (AllReadyH.nil)
    go_simp
    refine (HM.out _).mono ?_
    rintro x x1 ⟨rfl, hx1⟩
    have HX1 := hide (o2 hHeld hx1)
    clear hx1
    refine hK.out _ _ (HX1.out) (fun hHeld => ?_)
    clear hK K
    try simp only [Act.put, List.setIfInBounds_toArray, List.set_cons_zero, List.set_cons_succ]
    refine wpAnyH_take (i := 10) (oi := { dst := some 21, op := Op.binOp BinOp.gtr 3 (Operand.tmp 20) (Operand.const (Value.int IntKind.i64 0)) 3, type := 4, pos := "read.go:78", after := #[{ on := 9, ground := Ground.data }], guard := none }) (v := .bool true) rfl (by kernel_rfl) (by kernel_rfl) (by kernel_rfl) (fun _ _ _ h => h) (Or.inl ⟨by rfl, fun w' hSw => by clear hSw; go_simp⟩) (by assumption) ?_
    simp only [Act.put, List.setIfInBounds_toArray, List.set_cons_zero, List.set_cons_succ]
    refine wpAnyH_take (i := 11) (oi := { dst := some 22, op := Op.move (Operand.tmp 21), type := 4, pos := "read.go:78", after := #[{ on := 10, ground := Ground.data }, { on := 9, ground := Ground.chain }], guard := none }) (v := .bool true) rfl (by kernel_rfl) (by kernel_rfl) (by kernel_rfl) (fun _ _ _ h => h) (Or.inl ⟨by rfl, fun w' hSw => by clear hSw; go_simp⟩) (by assumption) ?_
    simp only [Act.put, List.setIfInBounds_toArray, List.set_cons_zero, List.set_cons_succ]
    refine wpAnyH_take (i := 12) (oi := { dst := some 23, op := Op.load 118 (Operand.tmp 2), type := 118, pos := "read.go:78", after := #[{ on := 11, ground := Ground.guard }], guard := some (11, true) }) (v := .agg #[.slice (some ⟨B, o, none⟩) (n + 1) c1, .slice a2 n2 c2, .string h.key, .int .i64 h.page, .int .i64 h.slot]) rfl (by kernel_rfl) (by kernel_rfl) (by kernel_rfl) (fun _ _ _ h => h) (yieldsIf_load_cv (by rfl) _ rfl rfl (fun W hW => HX.out.1.more hW)) (by assumption) ?_
    simp only [Act.put, List.setIfInBounds_toArray, List.set_cons_zero, List.set_cons_succ]
    refine wpAnyH_take (i := 13) (oi := { dst := some 24, op := Op.load 83 (Operand.tmp 3), type := 83, pos := "read.go:78", after := #[{ on := 11, ground := Ground.guard }], guard := some (11, true) }) (v := .agg #[.string e.key, .int .i64 e.page, .int .i64 e.slot]) rfl (by kernel_rfl) (by kernel_rfl) (by kernel_rfl) (fun _ _ _ h => h) (yieldsIf_load_ev (by rfl) _ rfl rfl (fun W hW => HX.out.2.1.more hW)) (by assumption) ?_
    simp only [Act.put, List.setIfInBounds_toArray, List.set_cons_zero, List.set_cons_succ]
    refine wpAnyH_ready (rs := [14]) (by kernel_rfl) (by simp) ?_
    refine AllReadyH.cons (o := { dst := some 25, op := Op.call { callee := Callee.value (Operand.func 84), args := #[Operand.tmp 23, Operand.tmp 24], argTypes := #[118, 83] }, type := 4, pos := "read.go:78", after := #[{ on := 12, ground := Ground.data }, { on := 13, ground := Ground.data }, { on := 11, ground := Ground.chain }, { on := 11, ground := Ground.guard }], guard := some (11, true) }) rfl (fun K hK => ?_) (AllReadyH.nil)
    go_simp
    refine (HB.out _).mono ?_
    rintro x x2 ⟨rfl, hx2⟩
    have HX2 := hide (o2 HX1.out hx2)
    clear hx2
    refine hK.out _ _ (HX2.out) (fun hHeld => ?_)
    clear hK K
    try simp only [Act.put, List.setIfInBounds_toArray, List.set_cons_zero, List.set_cons_succ]
    refine wpAnyH_take (i := 15) (oi := { dst := some 26, op := Op.pick (Operand.tmp 22) (Operand.tmp 25) (Operand.const (Value.bool false)), type := 4, pos := "read.go:78", after := #[{ on := 11, ground := Ground.data }, { on := 14, ground := Ground.data }], guard := none }) (v := .bool bw) rfl (by kernel_rfl) (by kernel_rfl) (by kernel_rfl) (fun _ _ _ h => h) (Or.inl ⟨by rfl, fun w' hSw => by clear hSw; go_simp⟩) (by assumption) ?_
    simp only [Act.put, List.setIfInBounds_toArray, List.set_cons_zero, List.set_cons_succ]
    refine wpAnyH_take (i := 16) (oi := { dst := some 4, op := Op.assign (Operand.tmp 26), type := 4, pos := "read.go:78", after := #[{ on := 15, ground := Ground.data }, { on := 14, ground := Ground.chain }, { on := 0, ground := Ground.phase }, { on := 1, ground := Ground.phase }, { on := 2, ground := Ground.phase }, { on := 3, ground := Ground.phase }, { on := 4, ground := Ground.phase }, { on := 5, ground := Ground.phase }, { on := 6, ground := Ground.phase }, { on := 7, ground := Ground.phase }, { on := 8, ground := Ground.phase }, { on := 9, ground := Ground.phase }, { on := 10, ground := Ground.phase }, { on := 11, ground := Ground.phase }, { on := 12, ground := Ground.phase }, { on := 13, ground := Ground.phase }, { on := 14, ground := Ground.phase }, { on := 15, ground := Ground.phase }], guard := none }) (v := .bool bw) rfl (by kernel_rfl) (by kernel_rfl) (by kernel_rfl) (fun _ _ _ h => h) (Or.inl ⟨by rfl, fun w' hSw => by clear hSw; go_simp⟩) (by assumption) ?_
    simp only [Act.put, List.setIfInBounds_toArray, List.set_cons_zero, List.set_cons_succ]
    refine wpAnyH_done (by kernel_rfl) ?_ _
    refine NoPanic.normal ?_
    go_wp2_with fail
    go_ret
    obtain rfl := HR.out
    exact ⟨rfl, o2 HX.out.2.2 HX2.out⟩
    -- r3a}
  · have hz0 : ¬ 0 < z := fun k => hlt (hzp.1 k)
    have HR : Hid (false = rb) := by rw [decide_eq_false hlt, Bool.false_and] at hrb; exact hrb
    clear hzp hlt hrb
    -- {r3b
    refine wp_region_noPanic ?_
    refine wp_region_held_drew (S := fun W => Only (fun _ => False) W0 W) (by kernel_rfl) (Only.drew _ _) (fun hHeld => ?_)
    refine wpAnyH_take (i := 0) (oi := { dst := some 11, op := Op.load 83 (Operand.tmp 3), type := 83, pos := "read.go:78", after := #[], guard := none }) (v := .agg #[.string e.key, .int .i64 e.page, .int .i64 e.slot]) rfl (by kernel_rfl) (by kernel_rfl) (by kernel_rfl) (fun _ _ _ h => h) (yieldsIf_load_ev (by rfl) _ rfl rfl (fun W hW => HX.out.2.1.more hW)) (by assumption) ?_
    simp only [Act.put, List.setIfInBounds_toArray, List.set_cons_zero, List.set_cons_succ]
    refine wpAnyH_take (i := 1) (oi := { dst := some 12, op := Op.fieldAddr 118 (Operand.tmp 2) 0, type := 0, pos := "read.go:78", after := #[], guard := none }) (v := .pointer (some ⟨w.heap.size, 0, none⟩)) rfl (by kernel_rfl) (by kernel_rfl) (by kernel_rfl) (fun _ _ _ h => h) (Or.inl ⟨by rfl, fun w' hSw => by clear hSw; go_simp⟩) (by assumption) ?_
    simp only [Act.put, List.setIfInBounds_toArray, List.set_cons_zero, List.set_cons_succ]
    refine wpAnyH_take (i := 3) (oi := { dst := some 14, op := Op.fieldAddr 118 (Operand.tmp 2) 0, type := 0, pos := "read.go:78", after := #[], guard := none }) (v := .pointer (some ⟨w.heap.size, 0, none⟩)) rfl (by kernel_rfl) (by kernel_rfl) (by kernel_rfl) (fun _ _ _ h => h) (Or.inl ⟨by rfl, fun w' hSw => by clear hSw; go_simp⟩) (by assumption) ?_
    simp only [Act.put, List.setIfInBounds_toArray, List.set_cons_zero, List.set_cons_succ]
    refine wpAnyH_take (i := 2) (oi := { dst := some 13, op := Op.load 116 (Operand.tmp 12), type := 116, pos := "read.go:78", after := #[{ on := 1, ground := Ground.data }], guard := none }) (v := .slice (some ⟨B, o, none⟩) (n + 1) c1) rfl (by kernel_rfl) (by kernel_rfl) (by kernel_rfl) (fun _ _ _ h => h) (yieldsIf_load_cell (by rfl) 116 _ rfl _ rfl (fun W hW => (HX.out.1.more hW).c0) (fun W hc => ld_entries hc)) (by assumption) ?_
    simp only [Act.put, List.setIfInBounds_toArray, List.set_cons_zero, List.set_cons_succ]
    refine wpAnyH_take (i := 4) (oi := { dst := some 15, op := Op.load 116 (Operand.tmp 14), type := 116, pos := "read.go:78", after := #[{ on := 3, ground := Ground.data }], guard := none }) (v := .slice (some ⟨B, o, none⟩) (n + 1) c1) rfl (by kernel_rfl) (by kernel_rfl) (by kernel_rfl) (fun _ _ _ h => h) (yieldsIf_load_cell (by rfl) 116 _ rfl _ rfl (fun W hW => (HX.out.1.more hW).c0) (fun W hc => ld_entries hc)) (by assumption) ?_
    simp only [Act.put, List.setIfInBounds_toArray, List.set_cons_zero, List.set_cons_succ]
    refine wpAnyH_take (i := 5) (oi := { dst := some 16, op := Op.call { callee := Callee.builtin Builtin.len, args := #[Operand.tmp 15], argTypes := #[116] }, type := 3, pos := "read.go:78", after := #[{ on := 4, ground := Ground.data }], guard := none }) (v := .int .i64 ((n : Int) + 1)) rfl (by kernel_rfl) (by kernel_rfl) (by kernel_rfl) (fun _ _ _ h => h) (Or.inl ⟨by rfl, fun w' hSw => by clear hSw; go_simp⟩) (by assumption) ?_
    simp only [Act.put, List.setIfInBounds_toArray, List.set_cons_zero, List.set_cons_succ]
    refine wpAnyH_take (i := 6) (oi := { dst := some 17, op := Op.binOp BinOp.sub 3 (Operand.tmp 16) (Operand.const (Value.int IntKind.i64 1)) 3, type := 3, pos := "read.go:78", after := #[{ on := 5, ground := Ground.data }], guard := none }) (v := .int .i64 (n : Int)) rfl (by kernel_rfl) (by kernel_rfl) (by kernel_rfl) (fun _ _ _ h => h) (Or.inl ⟨by rfl, fun w' hSw => by clear hSw; go_simp⟩) (by assumption) ?_
    simp only [Act.put, List.setIfInBounds_toArray, List.set_cons_zero, List.set_cons_succ]
    refine wpAnyH_take (i := 7) (oi := { dst := some 18, op := Op.indexAddr 116 (Operand.tmp 13) (Operand.tmp 17), type := 0, pos := "read.go:78", after := #[{ on := 2, ground := Ground.data }, { on := 6, ground := Ground.data }], guard := none }) (v := .pointer (some ⟨B, o + n * 3, none⟩)) rfl (by kernel_rfl) (by kernel_rfl) (by kernel_rfl) (fun _ _ _ h => h) (Or.inl ⟨by rfl, fun w' hSw => by clear hSw; go_simp⟩) (by assumption) ?_
    simp only [Act.put, List.setIfInBounds_toArray, List.set_cons_zero, List.set_cons_succ]
    refine wpAnyH_take (i := 8) (oi := { dst := some 19, op := Op.load 83 (Operand.tmp 18), type := 83, pos := "read.go:78", after := #[{ on := 7, ground := Ground.data }], guard := none }) (v := .agg #[.string la.key, .int .i64 la.page, .int .i64 la.slot]) rfl (by kernel_rfl) (by kernel_rfl) (by kernel_rfl) (fun _ _ _ h => h) (yieldsIf_load_eb (by rfl) _ rfl rfl (fun W hW => HEB.out.more hW)) (by assumption) ?_
    simp only [Act.put, List.setIfInBounds_toArray, List.set_cons_zero, List.set_cons_succ]
    refine wpAnyH_ready (rs := [9]) (by kernel_rfl) (by simp) ?_
    refine AllReadyH.cons (o := { dst := some 20, op := Op.call { callee := Callee.value (Operand.func 115), args := #[Operand.tmp 11, Operand.tmp 19], argTypes := #[83, 83] }, type := 3, pos := "read.go:78", after := #[{ on := 0, ground := Ground.data }, { on := 8, ground := Ground.data }], guard := none }) rfl (fun K hK => ?_) (AllReadyH.nil)
    go_simp
    refine (HM.out _).mono ?_
    rintro x x1 ⟨rfl, hx1⟩
    have HX1 := hide (o2 hHeld hx1)
    clear hx1
    refine hK.out _ _ (HX1.out) (fun hHeld => ?_)
    clear hK K
    try simp only [Act.put, List.setIfInBounds_toArray, List.set_cons_zero, List.set_cons_succ]
    refine wpAnyH_take (i := 10) (oi := { dst := some 21, op := Op.binOp BinOp.gtr 3 (Operand.tmp 20) (Operand.const (Value.int IntKind.i64 0)) 3, type := 4, pos := "read.go:78", after := #[{ on := 9, ground := Ground.data }], guard := none }) (v := .bool false) rfl (by kernel_rfl) (by kernel_rfl) (by kernel_rfl) (fun _ _ _ h => h) (Or.inl ⟨by rfl, fun w' hSw => by clear hSw; go_simp⟩) (by assumption) ?_
    simp only [Act.put, List.setIfInBounds_toArray, List.set_cons_zero, List.set_cons_succ]
    refine wpAnyH_take (i := 11) (oi := { dst := some 22, op := Op.move (Operand.tmp 21), type := 4, pos := "read.go:78", after := #[{ on := 10, ground := Ground.data }, { on := 9, ground := Ground.chain }], guard := none }) (v := .bool false) rfl (by kernel_rfl) (by kernel_rfl) (by kernel_rfl) (fun _ _ _ h => h) (Or.inl ⟨by rfl, fun w' hSw => by clear hSw; go_simp⟩) (by assumption) ?_
    simp only [Act.put, List.setIfInBounds_toArray, List.set_cons_zero, List.set_cons_succ]
    refine wpAnyH_take (i := 12) (oi := { dst := some 23, op := Op.load 118 (Operand.tmp 2), type := 118, pos := "read.go:78", after := #[{ on := 11, ground := Ground.guard }], guard := some (11, true) }) (v := undef) rfl (by kernel_rfl) (by kernel_rfl) (by kernel_rfl) (fun _ _ _ h => h) (Or.inr ⟨by rfl, rfl⟩) (by assumption) ?_
    simp only [Act.put, List.setIfInBounds_toArray, List.set_cons_zero, List.set_cons_succ]
    refine wpAnyH_take (i := 13) (oi := { dst := some 24, op := Op.load 83 (Operand.tmp 3), type := 83, pos := "read.go:78", after := #[{ on := 11, ground := Ground.guard }], guard := some (11, true) }) (v := undef) rfl (by kernel_rfl) (by kernel_rfl) (by kernel_rfl) (fun _ _ _ h => h) (Or.inr ⟨by rfl, rfl⟩) (by assumption) ?_
    simp only [Act.put, List.setIfInBounds_toArray, List.set_cons_zero, List.set_cons_succ]
    refine wpAnyH_take (i := 14) (oi := { dst := some 25, op := Op.call { callee := Callee.value (Operand.func 84), args := #[Operand.tmp 23, Operand.tmp 24], argTypes := #[118, 83] }, type := 4, pos := "read.go:78", after := #[{ on := 12, ground := Ground.data }, { on := 13, ground := Ground.data }, { on := 11, ground := Ground.chain }, { on := 11, ground := Ground.guard }], guard := some (11, true) }) (v := undef) rfl (by kernel_rfl) (by kernel_rfl) (by kernel_rfl) (fun _ _ _ h => h) (Or.inr ⟨by rfl, rfl⟩) (by assumption) ?_
    simp only [Act.put, List.setIfInBounds_toArray, List.set_cons_zero, List.set_cons_succ]
    refine wpAnyH_take (i := 15) (oi := { dst := some 26, op := Op.pick (Operand.tmp 22) (Operand.tmp 25) (Operand.const (Value.bool false)), type := 4, pos := "read.go:78", after := #[{ on := 11, ground := Ground.data }, { on := 14, ground := Ground.data }], guard := none }) (v := .bool false) rfl (by kernel_rfl) (by kernel_rfl) (by kernel_rfl) (fun _ _ _ h => h) (Or.inl ⟨by rfl, fun w' hSw => by clear hSw; go_simp⟩) (by assumption) ?_
    simp only [Act.put, List.setIfInBounds_toArray, List.set_cons_zero, List.set_cons_succ]
    refine wpAnyH_take (i := 16) (oi := { dst := some 4, op := Op.assign (Operand.tmp 26), type := 4, pos := "read.go:78", after := #[{ on := 15, ground := Ground.data }, { on := 14, ground := Ground.chain }, { on := 0, ground := Ground.phase }, { on := 1, ground := Ground.phase }, { on := 2, ground := Ground.phase }, { on := 3, ground := Ground.phase }, { on := 4, ground := Ground.phase }, { on := 5, ground := Ground.phase }, { on := 6, ground := Ground.phase }, { on := 7, ground := Ground.phase }, { on := 8, ground := Ground.phase }, { on := 9, ground := Ground.phase }, { on := 10, ground := Ground.phase }, { on := 11, ground := Ground.phase }, { on := 12, ground := Ground.phase }, { on := 13, ground := Ground.phase }, { on := 14, ground := Ground.phase }, { on := 15, ground := Ground.phase }], guard := none }) (v := .bool false) rfl (by kernel_rfl) (by kernel_rfl) (by kernel_rfl) (fun _ _ _ h => h) (Or.inl ⟨by rfl, fun w' hSw => by clear hSw; go_simp⟩) (by assumption) ?_
    simp only [Act.put, List.setIfInBounds_toArray, List.set_cons_zero, List.set_cons_succ]
    refine wpAnyH_done (by kernel_rfl) ?_ _
    refine NoPanic.normal ?_
    go_wp2_with fail
    go_ret
    obtain rfl := HR.out
    exact ⟨rfl, o2 HX.out.2.2 HX1.out⟩
    -- r3b}
/-- follows of any. -/
theorem follows_any (W : World) (base C n2 C2 : Nat) (A A2 : Option Addr) (hi e : En) (es : List En) (n : Nat) (hn : es.length = n) (hl : n ≤ 8796093021952) (hE : Ets W base (.slice A n C) es) :
    Calls Tryz.prog 119 #[.agg #[.slice A n C, .slice A2 n2 C2, .string hi.key, .int .i64 hi.page, .int .i64 hi.slot], .agg #[.string e.key, .int .i64 e.page, .int .i64 e.slot]] W fun x w' => x = .returned (.bool (okI hi es.getLast? e)) ∧ Only (fun _ => False) W w' := by
  subst hn
  cases hx : es.getLast? with
  | none =>
    have e0 : es = [] := List.getLast?_eq_none_iff.1 hx
    subst e0
    exact follows_nil W A A2 C n2 C2 hi e
  | some la =>
    obtain ⟨ini, rfl⟩ := List.getLast?_eq_some_iff.1 hx
    obtain ⟨B, ao, cp, hv, hels, _, _⟩ := hE.els
    have hlen : (ini ++ [la]).length = ini.length + 1 := by simp
    obtain ⟨o, hao, hat⟩ := hels.at_ (by omega)
    have hv' : A = ao := by injection hv
    subst hao
    subst hv'
    have hb := hat ini.length (by omega)
    have e1 : (ini ++ [la])[ini.length]'(by omega) = la := by simp
    rw [e1] at hb
    have q := follows_one W B o ini.length C n2 C2 A2 hi e la hb (by omega)
    rw [hlen]
    exact q
end Go.Proofs.YtphofhicehncgaaGreat
