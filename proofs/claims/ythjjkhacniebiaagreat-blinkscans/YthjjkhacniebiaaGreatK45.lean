/- The law's forest: its method does, of a record of an entry. -/
import Derived.Test.YthjjkhacniebiaaGreatK44
namespace Go.Proofs.YthjjkhacniebiaaGreat
open Go.RowKit

variable {K : Nat → Prop}

theorem yieldsIf_load_br {ops : Array Oper} {S : World → Prop} {op : Oper} {a : Act} {r : Br} (hw : Region.wanted op (yielded ops a.tmps) = true) (x : Operand) (ho : op.op = .load 36 x)
    {b : Nat} (hx : a.eval x = .pointer (some ⟨b, 0, none⟩)) (hS : ∀ w, S w → Rg w b 0 r.cl) : YieldsIf Tryz.prog ops S op (.agg r.cells) a :=
  .inl ⟨hw, fun w hw' => by
    unfold execOp
    simp only [ho, hx, Instr.loadAt, Instr.sureAddr, Sem.run_bind, Sem.run_pure, Result.andThen_ok, load_br (hS w hw')]⟩
theorem load_pz {w : World} {b o : Nat} {z : Pz} (h : Rg w b o z.c) : (loadVar 24 ⟨b, o, none⟩).run Tryz.prog w = .ok (.agg z.ar) w :=
  run_loadVar_mid (P := Tryz.prog) w b o 24 z.c _ h.range Tryz.underlying24 rfl Tryz.sizePageB
theorem yieldsIf_load_pz {ops : Array Oper} {S : World → Prop} {op : Oper} {a : Act} {z : Pz} (hw : Region.wanted op (yielded ops a.tmps) = true) (x : Operand) (ho : op.op = .load 24 x)
    {b o : Nat} (hx : a.eval x = .pointer (some ⟨b, o, none⟩)) (hS : ∀ w, S w → Rg w b o z.c) : YieldsIf Tryz.prog ops S op (.agg z.ar) a :=
  .inl ⟨hw, fun w hw' => by
    unfold execOp
    simp only [ho, hx, Instr.loadAt, Instr.sureAddr, Sem.run_bind, Sem.run_pure, Result.andThen_ok, load_pz (hS w hw')]⟩
theorem ld_images {w : World} {p : Addr} {v : Value} (h : w.cell? p = some v) : (loadVar 32 p).run Tryz.prog w = .ok v w := by simp [loadVar, go_sem, h]
theorem ld_pages {w : World} {p : Addr} {v : Value} (h : w.cell? p = some v) : (loadVar 51 p).run Tryz.prog w = .ok v w := by simp [loadVar, go_sem, h]
set_option maxRecDepth 100000 in
set_option maxHeartbeats 6400000 in
theorem does_one (w : World) (f g cap : Nat) (zs : List Pz) (i : Nat) (kd : Int) (data : ByteArray) (Q : Pg) (hM : Fm K w f g cap zs) (hi : 1 ≤ i) (hil : i < zs.length) (hk : kd = 3 ∨ kd = 4) (hz : zs.length ≤ 20000)
    (hC : ∀ W, Only (fun _ => False) w W → Calls Tryz.prog 40 #[.agg zs[i].ar, .agg (Br.cells ⟨kd, i, data, none, 0, 0⟩)] W fun x w' => Res W w' x Q 0) :
    Calls Tryz.prog 22 #[.pointer (some ⟨f, 0, none⟩), .agg (Br.cells ⟨kd, i, data, none, 0, 0⟩)] w fun x w' => x = .returned (.bool true) ∧ ∃ ao cp, Fk K w w' f g (zs.set i ⟨Q, ao, cp⟩) := by
  have HB := hide (Rg.new w (Br.cells ⟨kd, i, data, none, 0, 0⟩) 36)
  have HO := hide (onlyA w (.cells (Br.cells ⟨kd, i, data, none, 0, 0⟩) 36))
  have HM := hide hM
  have HCH := hide hC
  have HIL : Hid (i < zs.length) := hil
  have HFW := hide hM.flt
  have HGW : Hid (g < w.heap.size) := (World.ownsRow.lt hM.row g rfl).2
  have hk5 : (kd == 5) = false := by rcases hk with rfl | rfl <;> rfl
  have hi1 : ¬ (i : Int) < 1 := by omega
  have hi2 : ¬ (zs.length : Int) ≤ (i : Int) := by omega
  have hi3 : (i : Int) < (zs.length : Int) := by omega
  clear hC hM hk
  unfold Br.cells at HB HO ⊢
  simp only [] at HB HO ⊢
  go_enter Tryz.func22, Tryz.ntmps22
  go_upto_region 2 with fail
  obtain ⟨W0, hW0⟩ : ∃ x, w.alloc (.cells #[.int .i64 0, .int .i64 0, .int .i64 0, .int .u8 kd, .int .i64 0, .int .i64 (i : Int), .int .i64 0, .int .i64 0, .int .i64 0, .int .i64 0, .string data, .slice Option.none 0 0, .slice Option.none 0 0, .slice Option.none 0 0, .slice Option.none 0 0, .slice Option.none 0 0] 36) = x := ⟨_, rfl⟩
  rw [hW0] at HB HO ⊢
  clear hW0
  have HM0 := hide (HM.out.more HO.out)
  obtain ⟨z, hzz⟩ : ∃ z, zs[i]'hil = z := ⟨_, rfl⟩
  have HRG0 := hide (HM0.out.rg i hil)
  rw [hzz] at HRG0 HCH
  clear hzz hil
  have fc := HM0.out.cell
  obtain ⟨n, hn⟩ : ∃ n, zs.length = n := ⟨_, rfl⟩
  rw [hn] at fc hi2 hi3 hz
  have HNN := hide hn
  clear hn
  have c3 := HB.out.cell 3 (.int .u8 kd) rfl
  have c5 := HB.out.cell 5 (.int .i64 (i : Int)) rfl
  have c13 := HB.out.cell 13 (.slice none 0 0) rfl
  rw [Nat.zero_add] at c3 c5 c13
  go_loopw [5] (fun x wr => x = .int .i64 0 ∧ wr = W0) (fun _ _ => 0)
  case atStart => exact ⟨rfl, rfl⟩
  case round =>
    obtain ⟨rfl, h4⟩ := hrel
    obtain rfl := h4.symm
    have HFB : Hid (f < W0.heap.size) := HM0.out.flt
    have hi0 : (1 : Int) ≤ (i : Int) := by omega
    have hnk : (i : Int) ≤ 20000 := by omega
    have hinN : i < n := by omega
    go_upto_region 12 with fail
    -- {r12
    refine wp_region_noPanic ?_
    refine wp_region_held_drew (S := fun W => Only (fun _ => False) W0 W) (by kernel_rfl) (Only.drew _ _) (fun hHeld => ?_)
    refine wpAnyH_take (i := 0) (oi := { dst := some 70, op := Op.fieldAddr 36 (Operand.tmp 3) 5, type := 0, pos := "law.go:114", after := #[], guard := none }) (v := .pointer (some ⟨w.heap.size, 5, none⟩)) rfl (by kernel_rfl) (by kernel_rfl) (by kernel_rfl) (fun _ _ _ h => h) (Or.inl ⟨by rfl, fun w' hSw => by clear hSw; go_simp⟩) (by assumption) ?_
    simp only [Act.put, List.setIfInBounds_toArray, List.set_cons_zero, List.set_cons_succ]
    refine wpAnyH_take (i := 1) (oi := { dst := some 71, op := Op.load 3 (Operand.tmp 70), type := 3, pos := "law.go:114", after := #[{ on := 0, ground := Ground.data }], guard := none }) (v := .int .i64 (i : Int)) rfl (by kernel_rfl) (by kernel_rfl) (by kernel_rfl) (fun _ _ _ h => h) (yieldsIf_load_cell (by rfl) 3 _ rfl _ rfl (fun W hW => (hW.cell (p := ⟨w.heap.size, 5, none⟩) HB.out.lt (fun h => h)).trans c5) (fun W hc => ld_int hc)) (by assumption) ?_
    simp only [Act.put, List.setIfInBounds_toArray, List.set_cons_zero, List.set_cons_succ]
    refine wpAnyH_take (i := 2) (oi := { dst := some 72, op := Op.binOp BinOp.lss 3 (Operand.tmp 71) (Operand.const (Value.int IntKind.i64 1)) 3, type := 4, pos := "law.go:114", after := #[{ on := 1, ground := Ground.data }], guard := none }) (v := .bool false) rfl (by kernel_rfl) (by kernel_rfl) (by kernel_rfl) (fun _ _ _ h => h) (Or.inl ⟨by rfl, fun w' hSw => by clear hSw; go_simp⟩) (by assumption) ?_
    simp only [Act.put, List.setIfInBounds_toArray, List.set_cons_zero, List.set_cons_succ]
    refine wpAnyH_take (i := 3) (oi := { dst := some 73, op := Op.move (Operand.tmp 72), type := 4, pos := "law.go:114", after := #[{ on := 2, ground := Ground.data }], guard := none }) (v := .bool false) rfl (by kernel_rfl) (by kernel_rfl) (by kernel_rfl) (fun _ _ _ h => h) (Or.inl ⟨by rfl, fun w' hSw => by clear hSw; go_simp⟩) (by assumption) ?_
    simp only [Act.put, List.setIfInBounds_toArray, List.set_cons_zero, List.set_cons_succ]
    refine wpAnyH_take (i := 4) (oi := { dst := some 74, op := Op.fieldAddr 36 (Operand.tmp 3) 5, type := 0, pos := "law.go:114", after := #[{ on := 3, ground := Ground.guard }], guard := some (3, false) }) (v := .pointer (some ⟨w.heap.size, 5, none⟩)) rfl (by kernel_rfl) (by kernel_rfl) (by kernel_rfl) (fun _ _ _ h => h) (Or.inl ⟨by rfl, fun w' hSw => by clear hSw; go_simp⟩) (by assumption) ?_
    simp only [Act.put, List.setIfInBounds_toArray, List.set_cons_zero, List.set_cons_succ]
    refine wpAnyH_take (i := 6) (oi := { dst := some 76, op := Op.move (Operand.tmp 0), type := 49, pos := "law.go:114", after := #[{ on := 3, ground := Ground.guard }], guard := some (3, false) }) (v := .pointer (some ⟨f, 0, none⟩)) rfl (by kernel_rfl) (by kernel_rfl) (by kernel_rfl) (fun _ _ _ h => h) (Or.inl ⟨by rfl, fun w' hSw => by clear hSw; go_simp⟩) (by assumption) ?_
    simp only [Act.put, List.setIfInBounds_toArray, List.set_cons_zero, List.set_cons_succ]
    refine wpAnyH_take (i := 5) (oi := { dst := some 75, op := Op.load 3 (Operand.tmp 74), type := 3, pos := "law.go:114", after := #[{ on := 4, ground := Ground.data }, { on := 3, ground := Ground.guard }], guard := some (3, false) }) (v := .int .i64 (i : Int)) rfl (by kernel_rfl) (by kernel_rfl) (by kernel_rfl) (fun _ _ _ h => h) (yieldsIf_load_cell (by rfl) 3 _ rfl _ rfl (fun W hW => (hW.cell (p := ⟨w.heap.size, 5, none⟩) HB.out.lt (fun h => h)).trans c5) (fun W hc => ld_int hc)) (by assumption) ?_
    simp only [Act.put, List.setIfInBounds_toArray, List.set_cons_zero, List.set_cons_succ]
    refine wpAnyH_take (i := 7) (oi := { dst := some 77, op := Op.nilCheck (Operand.tmp 76), type := 0, pos := "law.go:114", after := #[{ on := 6, ground := Ground.data }, { on := 3, ground := Ground.guard }], guard := some (3, false) }) (v := .pointer (some ⟨f, 0, none⟩)) rfl (by kernel_rfl) (by kernel_rfl) (by kernel_rfl) (fun _ _ _ h => h) (Or.inl ⟨by rfl, fun w' hSw => by clear hSw; go_simp⟩) (by assumption) ?_
    simp only [Act.put, List.setIfInBounds_toArray, List.set_cons_zero, List.set_cons_succ]
    refine wpAnyH_take (i := 8) (oi := { dst := some 78, op := Op.fieldAddr 53 (Operand.tmp 77) 0, type := 0, pos := "law.go:114", after := #[{ on := 7, ground := Ground.data }, { on := 3, ground := Ground.guard }], guard := some (3, false) }) (v := .pointer (some ⟨f, 0, none⟩)) rfl (by kernel_rfl) (by kernel_rfl) (by kernel_rfl) (fun _ _ _ h => h) (Or.inl ⟨by rfl, fun w' hSw => by clear hSw; go_simp⟩) (by assumption) ?_
    simp only [Act.put, List.setIfInBounds_toArray, List.set_cons_zero, List.set_cons_succ]
    refine wpAnyH_take (i := 9) (oi := { dst := some 79, op := Op.load 51 (Operand.tmp 78), type := 51, pos := "law.go:114", after := #[{ on := 8, ground := Ground.data }, { on := 3, ground := Ground.guard }], guard := some (3, false) }) (v := .slice (some ⟨g, 0, none⟩) n cap) rfl (by kernel_rfl) (by kernel_rfl) (by kernel_rfl) (fun _ _ _ h => h) (yieldsIf_load_cell (by rfl) 51 _ rfl _ rfl (fun W hW => (hW.cell (p := ⟨f, 0, none⟩) HFB.out (fun h => h)).trans fc) (fun W hc => ld_pages hc)) (by assumption) ?_
    simp only [Act.put, List.setIfInBounds_toArray, List.set_cons_zero, List.set_cons_succ]
    refine wpAnyH_take (i := 10) (oi := { dst := some 80, op := Op.call { callee := Callee.builtin Builtin.len, args := #[Operand.tmp 79], argTypes := #[51] }, type := 3, pos := "law.go:114", after := #[{ on := 9, ground := Ground.data }, { on := 3, ground := Ground.guard }], guard := some (3, false) }) (v := .int .i64 (n : Int)) rfl (by kernel_rfl) (by kernel_rfl) (by kernel_rfl) (fun _ _ _ h => h) (Or.inl ⟨by rfl, fun w' hSw => by clear hSw; go_simp⟩) (by assumption) ?_
    simp only [Act.put, List.setIfInBounds_toArray, List.set_cons_zero, List.set_cons_succ]
    refine wpAnyH_take (i := 11) (oi := { dst := some 81, op := Op.binOp BinOp.geq 3 (Operand.tmp 75) (Operand.tmp 80) 3, type := 4, pos := "law.go:114", after := #[{ on := 5, ground := Ground.data }, { on := 10, ground := Ground.data }, { on := 3, ground := Ground.guard }], guard := some (3, false) }) (v := .bool false) rfl (by kernel_rfl) (by kernel_rfl) (by kernel_rfl) (fun _ _ _ h => h) (Or.inl ⟨by rfl, fun w' hSw => by clear hSw; go_simp⟩) (by assumption) ?_
    simp only [Act.put, List.setIfInBounds_toArray, List.set_cons_zero, List.set_cons_succ]
    refine wpAnyH_take (i := 12) (oi := { dst := some 82, op := Op.pick (Operand.tmp 73) (Operand.const (Value.bool true)) (Operand.tmp 81), type := 4, pos := "law.go:114", after := #[{ on := 3, ground := Ground.data }, { on := 11, ground := Ground.data }], guard := none }) (v := .bool false) rfl (by kernel_rfl) (by kernel_rfl) (by kernel_rfl) (fun _ _ _ h => h) (Or.inl ⟨by rfl, fun w' hSw => by clear hSw; go_simp⟩) (by assumption) ?_
    simp only [Act.put, List.setIfInBounds_toArray, List.set_cons_zero, List.set_cons_succ]
    refine wpAnyH_take (i := 13) (oi := { dst := some 83, op := Op.move (Operand.tmp 82), type := 4, pos := "law.go:114", after := #[{ on := 12, ground := Ground.data }, { on := 3, ground := Ground.chain }], guard := none }) (v := .bool false) rfl (by kernel_rfl) (by kernel_rfl) (by kernel_rfl) (fun _ _ _ h => h) (Or.inl ⟨by rfl, fun w' hSw => by clear hSw; go_simp⟩) (by assumption) ?_
    simp only [Act.put, List.setIfInBounds_toArray, List.set_cons_zero, List.set_cons_succ]
    refine wpAnyH_take (i := 14) (oi := { dst := some 84, op := Op.fieldAddr 36 (Operand.tmp 3) 13, type := 0, pos := "law.go:114", after := #[{ on := 13, ground := Ground.guard }], guard := some (13, false) }) (v := .pointer (some ⟨w.heap.size, 13, none⟩)) rfl (by kernel_rfl) (by kernel_rfl) (by kernel_rfl) (fun _ _ _ h => h) (Or.inl ⟨by rfl, fun w' hSw => by clear hSw; go_simp⟩) (by assumption) ?_
    simp only [Act.put, List.setIfInBounds_toArray, List.set_cons_zero, List.set_cons_succ]
    refine wpAnyH_take (i := 15) (oi := { dst := some 85, op := Op.load 32 (Operand.tmp 84), type := 32, pos := "law.go:114", after := #[{ on := 14, ground := Ground.data }, { on := 13, ground := Ground.guard }], guard := some (13, false) }) (v := .slice none 0 0) rfl (by kernel_rfl) (by kernel_rfl) (by kernel_rfl) (fun _ _ _ h => h) (yieldsIf_load_cell (by rfl) 32 _ rfl _ rfl (fun W hW => (hW.cell (p := ⟨w.heap.size, 13, none⟩) HB.out.lt (fun h => h)).trans c13) (fun W hc => ld_images hc)) (by assumption) ?_
    simp only [Act.put, List.setIfInBounds_toArray, List.set_cons_zero, List.set_cons_succ]
    refine wpAnyH_take (i := 16) (oi := { dst := some 86, op := Op.call { callee := Callee.builtin Builtin.len, args := #[Operand.tmp 85], argTypes := #[32] }, type := 3, pos := "law.go:114", after := #[{ on := 15, ground := Ground.data }, { on := 13, ground := Ground.guard }], guard := some (13, false) }) (v := .int .i64 0) rfl (by kernel_rfl) (by kernel_rfl) (by kernel_rfl) (fun _ _ _ h => h) (Or.inl ⟨by rfl, fun w' hSw => by clear hSw; go_simp⟩) (by assumption) ?_
    simp only [Act.put, List.setIfInBounds_toArray, List.set_cons_zero, List.set_cons_succ]
    refine wpAnyH_take (i := 17) (oi := { dst := some 87, op := Op.binOp BinOp.gtr 3 (Operand.tmp 86) (Operand.const (Value.int IntKind.i64 0)) 3, type := 4, pos := "law.go:114", after := #[{ on := 16, ground := Ground.data }, { on := 13, ground := Ground.guard }], guard := some (13, false) }) (v := .bool false) rfl (by kernel_rfl) (by kernel_rfl) (by kernel_rfl) (fun _ _ _ h => h) (Or.inl ⟨by rfl, fun w' hSw => by clear hSw; go_simp⟩) (by assumption) ?_
    simp only [Act.put, List.setIfInBounds_toArray, List.set_cons_zero, List.set_cons_succ]
    refine wpAnyH_take (i := 18) (oi := { dst := some 88, op := Op.pick (Operand.tmp 83) (Operand.const (Value.bool true)) (Operand.tmp 87), type := 4, pos := "law.go:114", after := #[{ on := 13, ground := Ground.data }, { on := 17, ground := Ground.data }], guard := none }) (v := .bool false) rfl (by kernel_rfl) (by kernel_rfl) (by kernel_rfl) (fun _ _ _ h => h) (Or.inl ⟨by rfl, fun w' hSw => by clear hSw; go_simp⟩) (by assumption) ?_
    simp only [Act.put, List.setIfInBounds_toArray, List.set_cons_zero, List.set_cons_succ]
    refine wpAnyH_done (by kernel_rfl) ?_ _
    refine NoPanic.normal ?_
    rw [Exit.then]
    -- r12}
    have HDW := hide (Only.drew (fun _ => False) W0)
    obtain ⟨W1, hW1⟩ : ∃ x, W0.drew = x := ⟨_, rfl⟩
    rw [hW1] at HDW ⊢
    clear hW1
    have HM1 := hide (HM0.out.more HDW.out)
    have HRG1 := hide (HRG0.out.more HDW.out)
    have HB1 := hide (HB.out.more HDW.out)
    have HO1 := hide (o2 HO.out HDW.out)
    have HFB1 : Hid (f < W1.heap.size) := HM1.out.flt
    have fc1 := HM1.out.cell
    rw [HNN.out] at fc1
    have d5 := HB1.out.cell 5 (.int .i64 (i : Int)) rfl
    rw [Nat.zero_add] at d5
    clear fc c3 c5 c13
    go_upto_region 14 with fail
    go_cut [7, 8] (fun x y wx => ∃ b3 ao5 cp5, x = .pointer (some ⟨b3, 0, none⟩) ∧ y = .int .i64 0 ∧ Hid (Pz3 W1 wx b3 ⟨Q, ao5, cp5⟩))
    case first =>
      -- {r14
      refine wp_region_noPanic ?_
      refine wp_region_held_drew (S := fun W => Only (fun _ => False) W1 W) (by kernel_rfl) (Only.drew _ _) (fun hHeld => ?_)
      refine wpAnyH_take (i := 0) (oi := { dst := some 90, op := Op.move (Operand.tmp 0), type := 49, pos := "law.go:117", after := #[], guard := none }) (v := .pointer (some ⟨f, 0, none⟩)) rfl (by kernel_rfl) (by kernel_rfl) (by kernel_rfl) (fun _ _ _ h => h) (Or.inl ⟨by rfl, fun w' hSw => by clear hSw; go_simp⟩) (by assumption) ?_
      simp only [Act.put, List.setIfInBounds_toArray, List.set_cons_zero, List.set_cons_succ]
      refine wpAnyH_take (i := 4) (oi := { dst := some 94, op := Op.fieldAddr 36 (Operand.tmp 3) 5, type := 0, pos := "law.go:117", after := #[], guard := none }) (v := .pointer (some ⟨w.heap.size, 5, none⟩)) rfl (by kernel_rfl) (by kernel_rfl) (by kernel_rfl) (fun _ _ _ h => h) (Or.inl ⟨by rfl, fun w' hSw => by clear hSw; go_simp⟩) (by assumption) ?_
      simp only [Act.put, List.setIfInBounds_toArray, List.set_cons_zero, List.set_cons_succ]
      refine wpAnyH_take (i := 8) (oi := { dst := some 98, op := Op.load 36 (Operand.tmp 3), type := 36, pos := "law.go:117", after := #[], guard := none }) (v := .agg #[.int .i64 0, .int .i64 0, .int .i64 0, .int .u8 kd, .int .i64 0, .int .i64 (i : Int), .int .i64 0, .int .i64 0, .int .i64 0, .int .i64 0, .string data, .slice none 0 0, .slice none 0 0, .slice none 0 0, .slice none 0 0, .slice none 0 0]) rfl (by kernel_rfl) (by kernel_rfl) (by kernel_rfl) (fun _ _ _ h => h) (yieldsIf_load_br (r := ⟨kd, i, data, none, 0, 0⟩) (by rfl) _ rfl rfl (fun W hW => HB1.out.more hW)) (by assumption) ?_
      simp only [Act.put, List.setIfInBounds_toArray, List.set_cons_zero, List.set_cons_succ]
      refine wpAnyH_take (i := 1) (oi := { dst := some 91, op := Op.nilCheck (Operand.tmp 90), type := 0, pos := "law.go:117", after := #[{ on := 0, ground := Ground.data }], guard := none }) (v := .pointer (some ⟨f, 0, none⟩)) rfl (by kernel_rfl) (by kernel_rfl) (by kernel_rfl) (fun _ _ _ h => h) (Or.inl ⟨by rfl, fun w' hSw => by clear hSw; go_simp⟩) (by assumption) ?_
      simp only [Act.put, List.setIfInBounds_toArray, List.set_cons_zero, List.set_cons_succ]
      refine wpAnyH_take (i := 5) (oi := { dst := some 95, op := Op.load 3 (Operand.tmp 94), type := 3, pos := "law.go:117", after := #[{ on := 4, ground := Ground.data }], guard := none }) (v := .int .i64 (i : Int)) rfl (by kernel_rfl) (by kernel_rfl) (by kernel_rfl) (fun _ _ _ h => h) (yieldsIf_load_cell (by rfl) 3 _ rfl _ rfl (fun W hW => (hW.cell (p := ⟨w.heap.size, 5, none⟩) HB1.out.lt (fun h => h)).trans d5) (fun W hc => ld_int hc)) (by assumption) ?_
      simp only [Act.put, List.setIfInBounds_toArray, List.set_cons_zero, List.set_cons_succ]
      refine wpAnyH_take (i := 2) (oi := { dst := some 92, op := Op.fieldAddr 53 (Operand.tmp 91) 0, type := 0, pos := "law.go:117", after := #[{ on := 1, ground := Ground.data }], guard := none }) (v := .pointer (some ⟨f, 0, none⟩)) rfl (by kernel_rfl) (by kernel_rfl) (by kernel_rfl) (fun _ _ _ h => h) (Or.inl ⟨by rfl, fun w' hSw => by clear hSw; go_simp⟩) (by assumption) ?_
      simp only [Act.put, List.setIfInBounds_toArray, List.set_cons_zero, List.set_cons_succ]
      refine wpAnyH_take (i := 3) (oi := { dst := some 93, op := Op.load 51 (Operand.tmp 92), type := 51, pos := "law.go:117", after := #[{ on := 2, ground := Ground.data }], guard := none }) (v := .slice (some ⟨g, 0, none⟩) n cap) rfl (by kernel_rfl) (by kernel_rfl) (by kernel_rfl) (fun _ _ _ h => h) (yieldsIf_load_cell (by rfl) 51 _ rfl _ rfl (fun W hW => (hW.cell (p := ⟨f, 0, none⟩) HFB1.out (fun h => h)).trans fc1) (fun W hc => ld_pages hc)) (by assumption) ?_
      simp only [Act.put, List.setIfInBounds_toArray, List.set_cons_zero, List.set_cons_succ]
      refine wpAnyH_take (i := 6) (oi := { dst := some 96, op := Op.indexAddr 51 (Operand.tmp 93) (Operand.tmp 95), type := 0, pos := "law.go:117", after := #[{ on := 3, ground := Ground.data }, { on := 5, ground := Ground.data }], guard := none }) (v := .pointer (some ⟨g, i * 6, none⟩)) rfl (by kernel_rfl) (by kernel_rfl) (by kernel_rfl) (fun _ _ _ h => h) (Or.inl ⟨by rfl, fun w' hSw => by clear hSw; go_simp⟩) (by assumption) ?_
      simp only [Act.put, List.setIfInBounds_toArray, List.set_cons_zero, List.set_cons_succ]
      refine wpAnyH_take (i := 7) (oi := { dst := some 97, op := Op.load 24 (Operand.tmp 96), type := 24, pos := "law.go:117", after := #[{ on := 6, ground := Ground.data }], guard := none }) (v := .agg #[.int .i64 z.p.lsn, .int .i64 z.p.kind, .int .i64 z.p.level, .int .i64 z.p.right, .string z.p.high, .slice z.ao z.p.items.length z.cp]) rfl (by kernel_rfl) (by kernel_rfl) (by kernel_rfl) (fun _ _ _ h => h) (yieldsIf_load_pz (by rfl) _ rfl rfl (fun W hW => HRG1.out.more hW)) (by assumption) ?_
      simp only [Act.put, List.setIfInBounds_toArray, List.set_cons_zero, List.set_cons_succ]
      refine wpAnyH_ready (rs := [9, 13]) (by kernel_rfl) (by simp) ?_
      refine AllReadyH.cons (o := { dst := some 99, op := Op.call { callee := Callee.value (Operand.func 40), args := #[Operand.tmp 97, Operand.tmp 98], argTypes := #[24, 36] }, type := 71, pos := "law.go:117", after := #[{ on := 7, ground := Ground.data }, { on := 8, ground := Ground.data }], guard := none }) rfl (fun K hK => ?_) (AllReadyH.cons (o := { dst := some 7, op := Op.alloc 24, type := 0, pos := "law.go:117", after := #[], guard := none }) rfl (fun K hK => ?_) (AllReadyH.nil))
      · go_simp
        refine (HCH.out _ (o2 HO1.out hHeld)).mono ?_
        rintro x x1 ⟨B5, ao5, cp5, rfl, hS5, hF5, ho5, hB5⟩
        have HX1 := hide (o2 hHeld ho5)
        have HA3 : Hid (At x1 (fun k => W1.heap.size ≤ k) ⟨Q, ao5, cp5⟩) := ⟨⟨B5, hS5, fun h0 => Nat.le_trans hHeld.size (hB5 h0)⟩, hF5⟩
        clear hS5 hF5 ho5 hB5
        refine hK.out _ _ (HX1.out) (fun hHeld => ?_)
        clear hK K
        try simp only [Act.put, List.setIfInBounds_toArray, List.set_cons_zero, List.set_cons_succ]
        refine wpAnyH_take (i := 10) (oi := { dst := some 89, op := Op.move (Operand.tmp 99), type := 71, pos := "law.go:117", after := #[{ on := 9, ground := Ground.data }], guard := none }) (v := .tuple #[.agg #[.int .i64 Q.lsn, .int .i64 Q.kind, .int .i64 Q.level, .int .i64 Q.right, .string Q.high, .slice ao5 Q.items.length cp5], .int .i64 0]) rfl (by kernel_rfl) (by kernel_rfl) (by kernel_rfl) (fun _ _ _ h => h) (Or.inl ⟨by rfl, fun w' hSw => by clear hSw; go_simp⟩) (by assumption) ?_
        simp only [Act.put, List.setIfInBounds_toArray, List.set_cons_zero, List.set_cons_succ]
        refine wpAnyH_take (i := 11) (oi := { dst := some 100, op := Op.extract (Operand.tmp 89) 0, type := 24, pos := "law.go:117", after := #[{ on := 10, ground := Ground.data }], guard := none }) (v := .agg #[.int .i64 Q.lsn, .int .i64 Q.kind, .int .i64 Q.level, .int .i64 Q.right, .string Q.high, .slice ao5 Q.items.length cp5]) rfl (by kernel_rfl) (by kernel_rfl) (by kernel_rfl) (fun _ _ _ h => h) (Or.inl ⟨by rfl, fun w' hSw => by clear hSw; go_simp⟩) (by assumption) ?_
        simp only [Act.put, List.setIfInBounds_toArray, List.set_cons_zero, List.set_cons_succ]
        refine wpAnyH_take (i := 12) (oi := { dst := some 101, op := Op.extract (Operand.tmp 89) 1, type := 28, pos := "law.go:117", after := #[{ on := 10, ground := Ground.data }, { on := 14, ground := Ground.gcOnly Departure.lateStores }], guard := none }) (v := .int .i64 0) rfl (by kernel_rfl) (by kernel_rfl) (by kernel_rfl) (fun _ _ _ h => h) (Or.inl ⟨by rfl, fun w' hSw => by clear hSw; go_simp⟩) (by assumption) ?_
        simp only [Act.put, List.setIfInBounds_toArray, List.set_cons_zero, List.set_cons_succ]
        refine wpAnyH_ready (rs := [13]) (by kernel_rfl) (by simp) ?_
        refine AllReadyH.cons (o := { dst := some 7, op := Op.alloc 24, type := 0, pos := "law.go:117", after := #[], guard := none }) rfl (fun K hK => ?_) (AllReadyH.nil)
        go_simp
        refine hK.out _ _ (o2 HX1.out (onlyA _ _)) (fun hHeld => ?_)
        clear hK K
        try simp only [Act.put, List.setIfInBounds_toArray, List.set_cons_zero, List.set_cons_succ]
        refine wpAnyH_ready (rs := [14]) (by kernel_rfl) (by simp) ?_
        refine AllReadyH.cons (o := { dst := none, op := Op.store 24 (Operand.tmp 7) (Operand.tmp 100), type := 0, pos := "law.go:117", after := #[{ on := 13, ground := Ground.data }, { on := 11, ground := Ground.data }, { on := 9, ground := Ground.chain }, { on := 0, ground := Ground.phase }, { on := 1, ground := Ground.phase }, { on := 2, ground := Ground.phase }, { on := 3, ground := Ground.phase }, { on := 4, ground := Ground.phase }, { on := 5, ground := Ground.phase }, { on := 6, ground := Ground.phase }, { on := 7, ground := Ground.phase }, { on := 8, ground := Ground.phase }, { on := 9, ground := Ground.phase }, { on := 10, ground := Ground.phase }, { on := 11, ground := Ground.phase }, { on := 12, ground := Ground.textOnly Departure.lateStores }, { on := 13, ground := Ground.phase }], guard := none }) rfl (fun K hK => ?_) (AllReadyH.nil)
        go_simp
        have HNV := hide (Pz3.after (z := ⟨Q, ao5, cp5⟩) HX1.out HA3.out)
        refine hK.out _ _ (HNV.out.only) (fun hHeld => ?_)
        clear hK K
        try simp only [Act.put, List.setIfInBounds_toArray, List.set_cons_zero, List.set_cons_succ]
        refine wpAnyH_take (i := 15) (oi := { dst := some 8, op := Op.assign (Operand.tmp 101), type := 28, pos := "law.go:117", after := #[{ on := 12, ground := Ground.data }, { on := 14, ground := Ground.chain }, { on := 0, ground := Ground.phase }, { on := 1, ground := Ground.phase }, { on := 2, ground := Ground.phase }, { on := 3, ground := Ground.phase }, { on := 4, ground := Ground.phase }, { on := 5, ground := Ground.phase }, { on := 6, ground := Ground.phase }, { on := 7, ground := Ground.phase }, { on := 8, ground := Ground.phase }, { on := 9, ground := Ground.phase }, { on := 10, ground := Ground.phase }, { on := 11, ground := Ground.phase }, { on := 12, ground := Ground.phase }, { on := 13, ground := Ground.phase }, { on := 14, ground := Ground.phase }], guard := none }) (v := .int .i64 0) rfl (by kernel_rfl) (by kernel_rfl) (by kernel_rfl) (fun _ _ _ h => h) (Or.inl ⟨by rfl, fun w' hSw => by clear hSw; go_simp⟩) (by assumption) ?_
        simp only [Act.put, List.setIfInBounds_toArray, List.set_cons_zero, List.set_cons_succ]
        refine wpAnyH_done (by kernel_rfl) ?_ _
        refine NoPanic.normal ?_
        go_wp2_with fail
        go_meet
        exact ⟨_, ao5, cp5, rfl, rfl, HNV⟩
      · go_simp
        have HZA : Hid (Pag ((W1.alloc (.cells #[.int .i64 0, .int .i64 0, .int .i64 0, .int .i64 0, .string ⟨#[]⟩, .slice none 0 0] 24)).drew) W1.heap.size (.int .i64 0) (.int .i64 0) (.int .i64 0) (.int .i64 0) (.string ⟨#[]⟩) (.slice none 0 0)) := (Pag.new W1 _ _ _ _ _ _).more (Only.drew _ _)
        have HOA : Hid (Only (fun _ => False) W1 ((W1.alloc (.cells #[.int .i64 0, .int .i64 0, .int .i64 0, .int .i64 0, .string ⟨#[]⟩, .slice none 0 0] 24)).drew)) := o2 (onlyA _ _) (Only.drew _ _)
        refine hK.out _ _ (HOA.out) (fun hHeld => ?_)
        clear hK K
        try simp only [Act.put, List.setIfInBounds_toArray, List.set_cons_zero, List.set_cons_succ]
        refine wpAnyH_ready (rs := [9]) (by kernel_rfl) (by simp) ?_
        refine AllReadyH.cons (o := { dst := some 99, op := Op.call { callee := Callee.value (Operand.func 40), args := #[Operand.tmp 97, Operand.tmp 98], argTypes := #[24, 36] }, type := 71, pos := "law.go:117", after := #[{ on := 7, ground := Ground.data }, { on := 8, ground := Ground.data }], guard := none }) rfl (fun K hK => ?_) (AllReadyH.nil)
        go_simp
        refine (HCH.out _ (o2 HO1.out hHeld)).mono ?_
        rintro x x1 ⟨B5, ao5, cp5, rfl, hS5, hF5, ho5, hB5⟩
        have HX1 := hide (o2 hHeld ho5)
        have HA3 : Hid (At x1 (fun k => (W1.alloc (.cells #[.int .i64 0, .int .i64 0, .int .i64 0, .int .i64 0, .string ⟨#[]⟩, .slice none 0 0] 24)).drew.heap.size ≤ k) ⟨Q, ao5, cp5⟩) := ⟨⟨B5, hS5, hB5⟩, hF5⟩
        have HY1 := hide ho5
        have HZ7 := hide (HZA.out.more ho5)
        obtain ⟨q0, q1, q2, q3, q4, q5, g0, g1, g2, g3, g4, g5, ql⟩ := HZ7.out
        clear hS5 hF5 ho5 hB5
        refine hK.out _ _ (HX1.out) (fun hHeld => ?_)
        clear hK K
        try simp only [Act.put, List.setIfInBounds_toArray, List.set_cons_zero, List.set_cons_succ]
        refine wpAnyH_take (i := 10) (oi := { dst := some 89, op := Op.move (Operand.tmp 99), type := 71, pos := "law.go:117", after := #[{ on := 9, ground := Ground.data }], guard := none }) (v := .tuple #[.agg #[.int .i64 Q.lsn, .int .i64 Q.kind, .int .i64 Q.level, .int .i64 Q.right, .string Q.high, .slice ao5 Q.items.length cp5], .int .i64 0]) rfl (by kernel_rfl) (by kernel_rfl) (by kernel_rfl) (fun _ _ _ h => h) (Or.inl ⟨by rfl, fun w' hSw => by clear hSw; go_simp⟩) (by assumption) ?_
        simp only [Act.put, List.setIfInBounds_toArray, List.set_cons_zero, List.set_cons_succ]
        refine wpAnyH_take (i := 11) (oi := { dst := some 100, op := Op.extract (Operand.tmp 89) 0, type := 24, pos := "law.go:117", after := #[{ on := 10, ground := Ground.data }], guard := none }) (v := .agg #[.int .i64 Q.lsn, .int .i64 Q.kind, .int .i64 Q.level, .int .i64 Q.right, .string Q.high, .slice ao5 Q.items.length cp5]) rfl (by kernel_rfl) (by kernel_rfl) (by kernel_rfl) (fun _ _ _ h => h) (Or.inl ⟨by rfl, fun w' hSw => by clear hSw; go_simp⟩) (by assumption) ?_
        simp only [Act.put, List.setIfInBounds_toArray, List.set_cons_zero, List.set_cons_succ]
        refine wpAnyH_take (i := 12) (oi := { dst := some 101, op := Op.extract (Operand.tmp 89) 1, type := 28, pos := "law.go:117", after := #[{ on := 10, ground := Ground.data }, { on := 14, ground := Ground.gcOnly Departure.lateStores }], guard := none }) (v := .int .i64 0) rfl (by kernel_rfl) (by kernel_rfl) (by kernel_rfl) (fun _ _ _ h => h) (Or.inl ⟨by rfl, fun w' hSw => by clear hSw; go_simp⟩) (by assumption) ?_
        simp only [Act.put, List.setIfInBounds_toArray, List.set_cons_zero, List.set_cons_succ]
        refine wpAnyH_ready (rs := [14]) (by kernel_rfl) (by simp) ?_
        refine AllReadyH.cons (o := { dst := none, op := Op.store 24 (Operand.tmp 7) (Operand.tmp 100), type := 0, pos := "law.go:117", after := #[{ on := 13, ground := Ground.data }, { on := 11, ground := Ground.data }, { on := 9, ground := Ground.chain }, { on := 0, ground := Ground.phase }, { on := 1, ground := Ground.phase }, { on := 2, ground := Ground.phase }, { on := 3, ground := Ground.phase }, { on := 4, ground := Ground.phase }, { on := 5, ground := Ground.phase }, { on := 6, ground := Ground.phase }, { on := 7, ground := Ground.phase }, { on := 8, ground := Ground.phase }, { on := 9, ground := Ground.phase }, { on := 10, ground := Ground.phase }, { on := 11, ground := Ground.phase }, { on := 12, ground := Ground.textOnly Departure.lateStores }, { on := 13, ground := Ground.phase }], guard := none }) rfl (fun K hK => ?_) (AllReadyH.nil)
        go_simp
        have HNV := hide (Pz3.before (z := ⟨Q, ao5, cp5⟩) (Nat.le_refl _) HZA.out.lt HOA.out HY1.out HZ7.out HA3.out)
        refine hK.out _ _ (HNV.out.only) (fun hHeld => ?_)
        clear hK K
        try simp only [Act.put, List.setIfInBounds_toArray, List.set_cons_zero, List.set_cons_succ]
        refine wpAnyH_take (i := 15) (oi := { dst := some 8, op := Op.assign (Operand.tmp 101), type := 28, pos := "law.go:117", after := #[{ on := 12, ground := Ground.data }, { on := 14, ground := Ground.chain }, { on := 0, ground := Ground.phase }, { on := 1, ground := Ground.phase }, { on := 2, ground := Ground.phase }, { on := 3, ground := Ground.phase }, { on := 4, ground := Ground.phase }, { on := 5, ground := Ground.phase }, { on := 6, ground := Ground.phase }, { on := 7, ground := Ground.phase }, { on := 8, ground := Ground.phase }, { on := 9, ground := Ground.phase }, { on := 10, ground := Ground.phase }, { on := 11, ground := Ground.phase }, { on := 12, ground := Ground.phase }, { on := 13, ground := Ground.phase }, { on := 14, ground := Ground.phase }], guard := none }) (v := .int .i64 0) rfl (by kernel_rfl) (by kernel_rfl) (by kernel_rfl) (fun _ _ _ h => h) (Or.inl ⟨by rfl, fun w' hSw => by clear hSw; go_simp⟩) (by assumption) ?_
        simp only [Act.put, List.setIfInBounds_toArray, List.set_cons_zero, List.set_cons_succ]
        refine wpAnyH_done (by kernel_rfl) ?_ _
        refine NoPanic.normal ?_
        go_wp2_with fail
        go_meet
        exact ⟨_, ao5, cp5, rfl, rfl, HNV⟩
      -- r14}
    case rest =>
      obtain ⟨b3, ao5, cp5, rfl, rfl, HZ3⟩ := hcut
      have HM3 := hide (HM1.out.more HZ3.out.only)
      have HRG3 := hide (HRG1.out.more HZ3.out.only)
      have HB3 := hide (HB1.out.more HZ3.out.only)
      have HA3 := hide (HZ3.out.at_.mono (Q := fun k => k ≠ f ∧ k ≠ g ∧ ¬ K k) (fun k hk => by have h1 := HM1.out.flt; have h2 := (World.ownsRow.lt HM1.out.row g rfl).2; exact ⟨by omega, by omega, fun q => by have := HM1.out.kk k q; omega⟩))
      have HPT := hide (HM3.out.put i HIL.out ⟨Q, ao5, cp5⟩ HA3.out)
      have fc3 := HM3.out.cell
      rw [HNN.out] at fc3
      have c53 := HB3.out.cell 5 (.int .i64 (i : Int)) rfl
      rw [Nat.zero_add] at c53
      obtain ⟨p0, p1, p2, p3, p4, p5, _⟩ := HZ3.out.pag
      have q0 := HRG3.out.cell 0 (.int .i64 z.p.lsn) rfl
      have q1 := HRG3.out.cell 1 (.int .i64 z.p.kind) rfl
      have q2 := HRG3.out.cell 2 (.int .i64 z.p.level) rfl
      have q3 := HRG3.out.cell 3 (.int .i64 z.p.right) rfl
      have q4 := HRG3.out.cell 4 (.string z.p.high) rfl
      have q5 := HRG3.out.cell 5 (.slice z.ao z.p.items.length z.cp) rfl
      have r0 := HRG3.out.fr 0 (by show 0 < 6; decide)
      have r1 := HRG3.out.fr 1 (by show 1 < 6; decide)
      have r2 := HRG3.out.fr 2 (by show 2 < 6; decide)
      have r3 := HRG3.out.fr 3 (by show 3 < 6; decide)
      have r4 := HRG3.out.fr 4 (by show 4 < 6; decide)
      have r5 := HRG3.out.fr 5 (by show 5 < 6; decide)
      rw [Nat.add_zero] at q0 r0
      simp only [] at p0 p1 p2 p3 p4 p5
      have HRES : Hid (Fk K w ((wc.setCells g (i * 6) (Pz.c ⟨Q, ao5, cp5⟩)).drew) f g (zs.set i ⟨Q, ao5, cp5⟩)) :=
        ⟨⟨g, cap, HPT.out.1.more (Only.drew _ _), .inl rfl⟩, ((((o2 HO1.out HZ3.out.only).mono (fun _ _ h => h.elim)).trans HPT.out.2 (fun _ _ e => .inr e))).trans (Only.drew (fun _ => False) _) (fun _ _ h => h.elim)⟩
      go_upto_region 16 with fail
      go_region
      all_goals go_wp2_with fail
      all_goals go_ret
      all_goals exact ⟨rfl, ao5, cp5, HRES.out⟩
end Go.Proofs.YthjjkhacniebiaaGreat
