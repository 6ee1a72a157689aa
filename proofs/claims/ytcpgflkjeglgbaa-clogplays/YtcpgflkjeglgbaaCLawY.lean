/- Walk of ClogAny. -/
import Derived.Test.YtcpgflkjeglgbaaCRefD
import Derived.Test.YtcpgflkjeglgbaaCHeld
namespace Go.Proofs.Ytcpgflkjeglgbaa
open Go.RowKit

theorem same_self (p : Pg) (W : World) (B B' cp cp' : Nat) (ao ao' : Option Addr) (h : Strs W B ao p.items) (h' : Strs W B' ao' p.items) :
    Calls Try.prog 14 #[.agg #[.int .i64 p.lsn, .int .i64 p.kind, .int .i64 p.level, .int .i64 p.right, .string p.high, .slice ao p.items.length cp], .agg #[.int .i64 p.lsn, .int .i64 p.kind, .int .i64 p.level, .int .i64 p.right, .string p.high, .slice ao' p.items.length cp']] W fun e w' => e = .returned (.bool true) ∧ Only (fun _ => False) W w' := by
  have := ysame_any W p.lsn p.kind p.level p.right p.lsn p.kind p.level p.right p.high p.high B B' cp cp' ao ao' p.items p.items h h'
  simpa using this
set_option maxRecDepth 100000 in
set_option maxHeartbeats 3200000 in
theorem any_law (w : World) (m : Int) (p : Pg) (B cp : Nat) (ao : Option Addr) (c : Bool) (x : Int) (st : Nat) (hm : I64 m) (hx : I64 x) (hst : st < 256) (hS : Strs w B ao p.items) (hF : Fit ao p.items.length cp) :
    Calls Try.prog 3 #[.int .i64 m, .agg #[.int .i64 p.lsn, .int .i64 p.kind, .int .i64 p.level, .int .i64 p.right, .string p.high, .slice ao p.items.length cp], .agg #[.bool c, .int .i64 x, .int .u8 (st : Int)]] w fun e w' => e = .returned (.bool true) ∧ Only (fun _ => False) w w' := by
  have e0 : (⟨p.lsn, p.kind, p.level, p.right, p.high, p.items⟩ : Pg) = p := rfl
  have G1 := hide (fun W (hS : Strs W B ao p.items) => cget_any W m p.lsn p.kind p.level p.right x p.high cp B ao p.items hm hx hS)
  have G2 := hide (fun W (hS : Strs W B ao p.items) => kget_any W m p.lsn p.kind p.level p.right x p.high cp B ao p.items hm hx hS)
  have S1 := hide (fun W (hS : Strs W B ao p.items) => cset_any W m p.lsn p.kind p.level p.right x p.high cp B ao p.items st hm hx hS hst)
  have S2 := hide (fun W (hS : Strs W B ao p.items) => kset_any W m p.lsn p.kind p.level p.right x p.high cp B ao p.items st hm hx hS hst)
  have F1 := hide (fun W (hS : Strs W B ao p.items) => cfrozen_any W m p.lsn p.kind p.level p.right  p.high cp B ao p.items hm hS)
  have F2 := hide (fun W (hS : Strs W B ao p.items) => kfrozen_any W m p.lsn p.kind p.level p.right  p.high cp B ao p.items hm hS)
  have C1 := hide (fun W (hS : Strs W B ao p.items) => check_any W m p.lsn p.kind p.level p.right  p.high cp B ao p.items hm hS)
  have C2 := hide (fun W (hS : Strs W B ao p.items) => kcheck_any W m p.lsn p.kind p.level p.right  p.high cp B ao p.items hm hS)
  have T1 := hide (fun W (hS : Strs W B ao p.items) => ccut_any W m p.lsn p.kind p.level p.right x p.high cp B ao p.items hm hx hS)
  have T2 := hide (fun W (hS : Strs W B ao p.items) => kcut_any W m p.lsn p.kind p.level p.right x p.high cp B ao p.items hm hx hS)
  simp only [e0] at G1 G2 S1 S2 F1 F2 C1 C2 T1 T2
  have bg : gst m p x < 4 := by unfold gst; split; exact stAt_lt _ _; omega
  have bk := cid_bd m p x
  have bc := chk_bd m p
  have bq := setC_bd m p x st
  have bf : 0 ≤ fst m p ∧ fst m p < 9223372036854775808 := by
    unfold fst
    split
    · rename_i h
      have := lim_bd (by have := (chk_zero h).1.1; omega : 0 ≤ m) (it0 p)
      have := (chk_zero h).1.2.1
      omega
    · omega
  obtain ⟨g, hg⟩ : ∃ y, gst m p x = y := ⟨_, rfl⟩
  obtain ⟨kc, hkc⟩ : ∃ y, cid m p x = y := ⟨_, rfl⟩
  obtain ⟨ck, hck⟩ : ∃ y, chk m p = y := ⟨_, rfl⟩
  obtain ⟨kq, hkq⟩ : ∃ y, setC m p x st = y := ⟨_, rfl⟩
  obtain ⟨f, hf⟩ : ∃ y, fst m p = y := ⟨_, rfl⟩
  obtain ⟨qs, hqs⟩ : ∃ y, setR m p x st = y := ⟨_, rfl⟩
  obtain ⟨rs, hrs⟩ : ∃ y, cutR m p x = y := ⟨_, rfl⟩
  simp only [hg, hkc] at G1 G2 bg bk
  simp only [hf, hck] at F1 F2 bf bc
  simp only [hck] at C1 C2
  simp only [hqs, hkq] at S1 S2 bq
  simp only [hrs, hkc] at T1 T2
  have hm1 := hm.1
  have hm2 := hm.2
  have hx1 := hx.1
  have hx2 := hx.2
  clear e0 hg hkc hck hkq hf hqs hrs hm hx
  have HPp := hide (PgB.new hS hF)
  clear hS hF
  go_enter Try.func3, Try.ntmps3
  go_upto_region 1 with fail
  obtain ⟨W0, hW0⟩ : ∃ W, (w.alloc (.cells #[.int .i64 p.lsn, .int .i64 p.kind, .int .i64 p.level, .int .i64 p.right, .string p.high, .slice ao p.items.length cp] 24)).alloc (.cells #[.bool c, .int .i64 x, .int .u8 (st : Int)] 27) = W := ⟨_, rfl⟩
  have HO : Hid (Only (fun _ => False) w W0) := by unfold Hid; rw [← hW0]; exact o2 (onlyA _ _) (onlyA _ _)
  have HP_p : Hid (PgB W0 w.heap.size p B ao cp) := by unfold Hid; rw [← hW0]; exact HPp.out.more (onlyA _ _)
  have HP_x : Hid (Opx W0 (w.heap.size + 1) c x st) := by
    unfold Hid
    rw [← hW0]
    have := Opx.new (w.alloc (.cells #[.int .i64 p.lsn, .int .i64 p.kind, .int .i64 p.level, .int .i64 p.right, .string p.high, .slice ao p.items.length cp] 24)) c x st
    simpa using this
  rw [hW0]
  clear hW0 HPp
  obtain ⟨zp0, zp1, zp2, zp3, zp4, zp5, zf0, zf1, zf2, zf3, zf4, zf5, zfl⟩ := HP_p.out.pag
  obtain ⟨yc0, yc1, yc2, ycl⟩ := HP_x.out
  go_wp2_with fail
  refine (G1.out _ HP_p.out.strs).mono ?_
  rintro e w1 ⟨rfl, ho⟩
  clear zp0 zf0 zp1 zf1 zp2 zf2 zp3 zf3 zp4 zf4 zp5 zf5 zfl
  clear yc0 yc1 yc2 ycl
  have HP_p := hide (HP_p.out.more ho)
  have HP_x := hide (HP_x.out.more ho)
  have HO := hide (o2 HO.out ho)
  clear ho
  go_upto_region 2 with fail
  obtain ⟨zp0, zp1, zp2, zp3, zp4, zp5, zf0, zf1, zf2, zf3, zf4, zf5, zfl⟩ := HP_p.out.pag
  obtain ⟨yc0, yc1, yc2, ycl⟩ := HP_x.out
  go_wp2_with fail
  refine (G2.out _ HP_p.out.strs).mono ?_
  rintro e w2 ⟨rfl, ho⟩
  clear zp0 zf0 zp1 zf1 zp2 zf2 zp3 zf3 zp4 zf4 zp5 zf5 zfl
  clear yc0 yc1 yc2 ycl
  have HP_p := hide (HP_p.out.more ho)
  have HP_x := hide (HP_x.out.more ho)
  have HO := hide (o2 HO.out ho)
  clear ho
  go_upto_region 3 with fail
  obtain ⟨zp0, zp1, zp2, zp3, zp4, zp5, zf0, zf1, zf2, zf3, zf4, zf5, zfl⟩ := HP_p.out.pag
  obtain ⟨yc0, yc1, yc2, ycl⟩ := HP_x.out
  go_wp2_with fail
  refine (S1.out _ HP_p.out.strs).mono ?_
  rintro e w3 ⟨B3, ao3, cp3, rfl, hS3, hF3, ho, hB3⟩
  clear zp0 zf0 zp1 zf1 zp2 zf2 zp3 zf3 zp4 zf4 zp5 zf5 zfl
  clear yc0 yc1 yc2 ycl
  have HP_p := hide (HP_p.out.more ho)
  have HP_x := hide (HP_x.out.more ho)
  have HO := hide (o2 HO.out ho)
  have HP_c := hide (PgB.new hS3 hF3)
  have HN := hide (onlyA w3 (.cells #[.int .i64 qs.lsn, .int .i64 qs.kind, .int .i64 qs.level, .int .i64 qs.right, .string qs.high, .slice ao3 qs.items.length cp3] 24))
  have HD3 : Hid (w.heap.size + 1 < w3.heap.size) := by unfold Hid; have := HP_x.out.lt; omega
  clear hS3 hF3 hB3 ho
  go_upto_region 4 with fail
  obtain ⟨b3, hb⟩ : ∃ b, w3.heap.size = b := ⟨_, rfl⟩
  obtain ⟨W3, hW⟩ : ∃ W, w3.alloc (.cells #[.int .i64 qs.lsn, .int .i64 qs.kind, .int .i64 qs.level, .int .i64 qs.right, .string qs.high, .slice ao3 qs.items.length cp3] 24) = W := ⟨_, rfl⟩
  rw [hW] at HP_c HN ⊢
  rw [hb] at HP_c HD3 ⊢
  clear hW hb
  have HP_p := hide (HP_p.out.more HN.out)
  have HP_x := hide (HP_x.out.more HN.out)
  have HO := hide (o2 HO.out HN.out)
  obtain ⟨zp0, zp1, zp2, zp3, zp4, zp5, zf0, zf1, zf2, zf3, zf4, zf5, zfl⟩ := HP_p.out.pag
  obtain ⟨yc0, yc1, yc2, ycl⟩ := HP_x.out
  go_wp2_with fail
  refine (S2.out _ HP_p.out.strs).mono ?_
  rintro e w4 ⟨B4, ao4, cp4, rfl, hS4, hF4, ho, hB4⟩
  clear zp0 zf0 zp1 zf1 zp2 zf2 zp3 zf3 zp4 zf4 zp5 zf5 zfl
  clear yc0 yc1 yc2 ycl
  have HP_p := hide (HP_p.out.more ho)
  have HP_x := hide (HP_x.out.more ho)
  have HP_c := hide (HP_c.out.more ho)
  have HO := hide (o2 HO.out ho)
  have HP_d := hide (PgB.new hS4 hF4)
  have HN := hide (onlyA w4 (.cells #[.int .i64 qs.lsn, .int .i64 qs.kind, .int .i64 qs.level, .int .i64 qs.right, .string qs.high, .slice ao4 qs.items.length cp4] 24))
  have HD4 : Hid (b3 < w4.heap.size) := by unfold Hid; have := HP_c.out.pag.lt; omega
  clear hS4 hF4 hB4 ho
  go_upto_region 5 with fail
  obtain ⟨b4, hb⟩ : ∃ b, w4.heap.size = b := ⟨_, rfl⟩
  obtain ⟨W4, hW⟩ : ∃ W, w4.alloc (.cells #[.int .i64 qs.lsn, .int .i64 qs.kind, .int .i64 qs.level, .int .i64 qs.right, .string qs.high, .slice ao4 qs.items.length cp4] 24) = W := ⟨_, rfl⟩
  rw [hW] at HP_d HN ⊢
  rw [hb] at HP_d HD4 ⊢
  clear hW hb
  have HP_p := hide (HP_p.out.more HN.out)
  have HP_x := hide (HP_x.out.more HN.out)
  have HP_c := hide (HP_c.out.more HN.out)
  have HO := hide (o2 HO.out HN.out)
  obtain ⟨zp0, zp1, zp2, zp3, zp4, zp5, zf0, zf1, zf2, zf3, zf4, zf5, zfl⟩ := HP_p.out.pag
  go_wp2_with fail
  refine (F1.out _ HP_p.out.strs).mono ?_
  rintro e w5 ⟨rfl, ho⟩
  clear zp0 zf0 zp1 zf1 zp2 zf2 zp3 zf3 zp4 zf4 zp5 zf5 zfl
  have HP_p := hide (HP_p.out.more ho)
  have HP_x := hide (HP_x.out.more ho)
  have HP_c := hide (HP_c.out.more ho)
  have HP_d := hide (HP_d.out.more ho)
  have HO := hide (o2 HO.out ho)
  clear ho
  go_upto_region 6 with fail
  obtain ⟨zp0, zp1, zp2, zp3, zp4, zp5, zf0, zf1, zf2, zf3, zf4, zf5, zfl⟩ := HP_p.out.pag
  go_wp2_with fail
  refine (F2.out _ HP_p.out.strs).mono ?_
  rintro e w6 ⟨rfl, ho⟩
  clear zp0 zf0 zp1 zf1 zp2 zf2 zp3 zf3 zp4 zf4 zp5 zf5 zfl
  have HP_p := hide (HP_p.out.more ho)
  have HP_x := hide (HP_x.out.more ho)
  have HP_c := hide (HP_c.out.more ho)
  have HP_d := hide (HP_d.out.more ho)
  have HO := hide (o2 HO.out ho)
  clear ho
  go_upto_region 7 with fail
  go_cut [108] (fun t wc => t = .bool false ∧ Hid (Only (fun _ => False) w6 wc))
  case first =>
    refine wp_region_noPanic ?_
    refine wp_region_held_drew (S := fun W => Only (fun _ => False) w6 W) (by kernel_rfl) (Only.drew _ w6) (fun hHeld => ?_)
    refine wpAnyH_take (i := 0) (oi := { dst := some 71, op := Op.move (Operand.tmp 7), type := 25, pos := "law.go:40", after := #[], guard := none }) (v := .int .u8 (g : Int)) rfl (by kernel_rfl) (by kernel_rfl) (by kernel_rfl) (fun _ _ _ h => h) (Or.inl ⟨by rfl, fun w' hSw => by clear hSw; go_simp⟩) (by assumption) ?_
    simp only [Act.put, List.setIfInBounds_toArray, List.set_cons_zero, List.set_cons_succ]
    refine wpAnyH_take (i := 1) (oi := { dst := some 72, op := Op.move (Operand.tmp 9), type := 25, pos := "law.go:40", after := #[], guard := none }) (v := .int .u8 (g : Int)) rfl (by kernel_rfl) (by kernel_rfl) (by kernel_rfl) (fun _ _ _ h => h) (Or.inl ⟨by rfl, fun w' hSw => by clear hSw; go_simp⟩) (by assumption) ?_
    simp only [Act.put, List.setIfInBounds_toArray, List.set_cons_zero, List.set_cons_succ]
    refine wpAnyH_take (i := 2) (oi := { dst := some 73, op := Op.binOp BinOp.neq 25 (Operand.tmp 71) (Operand.tmp 72) 25, type := 4, pos := "law.go:40", after := #[{ on := 0, ground := Ground.data }, { on := 1, ground := Ground.data }], guard := none }) (v := .bool false) rfl (by kernel_rfl) (by kernel_rfl) (by kernel_rfl) (fun _ _ _ h => h) (Or.inl ⟨by rfl, fun w' hSw => by clear hSw; go_simp⟩) (by assumption) ?_
    simp only [Act.put, List.setIfInBounds_toArray, List.set_cons_zero, List.set_cons_succ]
    refine wpAnyH_take (i := 3) (oi := { dst := some 74, op := Op.move (Operand.tmp 73), type := 4, pos := "law.go:40", after := #[{ on := 2, ground := Ground.data }], guard := none }) (v := .bool false) rfl (by kernel_rfl) (by kernel_rfl) (by kernel_rfl) (fun _ _ _ h => h) (Or.inl ⟨by rfl, fun w' hSw => by clear hSw; go_simp⟩) (by assumption) ?_
    simp only [Act.put, List.setIfInBounds_toArray, List.set_cons_zero, List.set_cons_succ]
    refine wpAnyH_take (i := 4) (oi := { dst := some 75, op := Op.move (Operand.tmp 8), type := 28, pos := "law.go:40", after := #[{ on := 3, ground := Ground.guard }], guard := some (3, false) }) (v := .int .i64 kc) rfl (by kernel_rfl) (by kernel_rfl) (by kernel_rfl) (fun _ _ _ h => h) (Or.inl ⟨by rfl, fun w' hSw => by clear hSw; go_simp⟩) (by assumption) ?_
    simp only [Act.put, List.setIfInBounds_toArray, List.set_cons_zero, List.set_cons_succ]
    refine wpAnyH_take (i := 5) (oi := { dst := some 76, op := Op.move (Operand.tmp 10), type := 28, pos := "law.go:40", after := #[{ on := 3, ground := Ground.guard }], guard := some (3, false) }) (v := .int .i64 kc) rfl (by kernel_rfl) (by kernel_rfl) (by kernel_rfl) (fun _ _ _ h => h) (Or.inl ⟨by rfl, fun w' hSw => by clear hSw; go_simp⟩) (by assumption) ?_
    simp only [Act.put, List.setIfInBounds_toArray, List.set_cons_zero, List.set_cons_succ]
    refine wpAnyH_take (i := 6) (oi := { dst := some 77, op := Op.binOp BinOp.neq 28 (Operand.tmp 75) (Operand.tmp 76) 28, type := 4, pos := "law.go:40", after := #[{ on := 4, ground := Ground.data }, { on := 5, ground := Ground.data }, { on := 3, ground := Ground.guard }], guard := some (3, false) }) (v := .bool false) rfl (by kernel_rfl) (by kernel_rfl) (by kernel_rfl) (fun _ _ _ h => h) (Or.inl ⟨by rfl, fun w' hSw => by clear hSw; go_simp⟩) (by assumption) ?_
    simp only [Act.put, List.setIfInBounds_toArray, List.set_cons_zero, List.set_cons_succ]
    refine wpAnyH_take (i := 7) (oi := { dst := some 78, op := Op.pick (Operand.tmp 74) (Operand.const (Value.bool true)) (Operand.tmp 77), type := 4, pos := "law.go:40", after := #[{ on := 3, ground := Ground.data }, { on := 6, ground := Ground.data }], guard := none }) (v := .bool false) rfl (by kernel_rfl) (by kernel_rfl) (by kernel_rfl) (fun _ _ _ h => h) (Or.inl ⟨by rfl, fun w' hSw => by clear hSw; go_simp⟩) (by assumption) ?_
    simp only [Act.put, List.setIfInBounds_toArray, List.set_cons_zero, List.set_cons_succ]
    refine wpAnyH_take (i := 8) (oi := { dst := some 79, op := Op.move (Operand.tmp 78), type := 4, pos := "law.go:40", after := #[{ on := 7, ground := Ground.data }, { on := 3, ground := Ground.chain }], guard := none }) (v := .bool false) rfl (by kernel_rfl) (by kernel_rfl) (by kernel_rfl) (fun _ _ _ h => h) (Or.inl ⟨by rfl, fun w' hSw => by clear hSw; go_simp⟩) (by assumption) ?_
    simp only [Act.put, List.setIfInBounds_toArray, List.set_cons_zero, List.set_cons_succ]
    refine wpAnyH_take (i := 9) (oi := { dst := some 80, op := Op.move (Operand.tmp 12), type := 28, pos := "law.go:40", after := #[{ on := 8, ground := Ground.guard }], guard := some (8, false) }) (v := .int .i64 kq) rfl (by kernel_rfl) (by kernel_rfl) (by kernel_rfl) (fun _ _ _ h => h) (Or.inl ⟨by rfl, fun w' hSw => by clear hSw; go_simp⟩) (by assumption) ?_
    simp only [Act.put, List.setIfInBounds_toArray, List.set_cons_zero, List.set_cons_succ]
    refine wpAnyH_take (i := 10) (oi := { dst := some 81, op := Op.move (Operand.tmp 14), type := 28, pos := "law.go:40", after := #[{ on := 8, ground := Ground.guard }], guard := some (8, false) }) (v := .int .i64 kq) rfl (by kernel_rfl) (by kernel_rfl) (by kernel_rfl) (fun _ _ _ h => h) (Or.inl ⟨by rfl, fun w' hSw => by clear hSw; go_simp⟩) (by assumption) ?_
    simp only [Act.put, List.setIfInBounds_toArray, List.set_cons_zero, List.set_cons_succ]
    refine wpAnyH_take (i := 11) (oi := { dst := some 82, op := Op.binOp BinOp.neq 28 (Operand.tmp 80) (Operand.tmp 81) 28, type := 4, pos := "law.go:40", after := #[{ on := 9, ground := Ground.data }, { on := 10, ground := Ground.data }, { on := 8, ground := Ground.guard }], guard := some (8, false) }) (v := .bool false) rfl (by kernel_rfl) (by kernel_rfl) (by kernel_rfl) (fun _ _ _ h => h) (Or.inl ⟨by rfl, fun w' hSw => by clear hSw; go_simp⟩) (by assumption) ?_
    simp only [Act.put, List.setIfInBounds_toArray, List.set_cons_zero, List.set_cons_succ]
    refine wpAnyH_take (i := 12) (oi := { dst := some 83, op := Op.pick (Operand.tmp 79) (Operand.const (Value.bool true)) (Operand.tmp 82), type := 4, pos := "law.go:40", after := #[{ on := 8, ground := Ground.data }, { on := 11, ground := Ground.data }], guard := none }) (v := .bool false) rfl (by kernel_rfl) (by kernel_rfl) (by kernel_rfl) (fun _ _ _ h => h) (Or.inl ⟨by rfl, fun w' hSw => by clear hSw; go_simp⟩) (by assumption) ?_
    simp only [Act.put, List.setIfInBounds_toArray, List.set_cons_zero, List.set_cons_succ]
    refine wpAnyH_take (i := 13) (oi := { dst := some 84, op := Op.move (Operand.tmp 83), type := 4, pos := "law.go:40", after := #[{ on := 12, ground := Ground.data }, { on := 8, ground := Ground.chain }], guard := none }) (v := .bool false) rfl (by kernel_rfl) (by kernel_rfl) (by kernel_rfl) (fun _ _ _ h => h) (Or.inl ⟨by rfl, fun w' hSw => by clear hSw; go_simp⟩) (by assumption) ?_
    simp only [Act.put, List.setIfInBounds_toArray, List.set_cons_zero, List.set_cons_succ]
    refine wpAnyH_take (i := 14) (oi := { dst := some 85, op := Op.load 24 (Operand.tmp 11), type := 24, pos := "law.go:40", after := #[{ on := 13, ground := Ground.guard }], guard := some (13, false) }) (v := .agg #[.int .i64 qs.lsn, .int .i64 qs.kind, .int .i64 qs.level, .int .i64 qs.right, .string qs.high, .slice ao3 qs.items.length cp3]) rfl (by kernel_rfl) (by kernel_rfl) (by kernel_rfl) (fun _ _ _ h => h) (yieldsIf_load_page (by rfl) _ rfl _ rfl (fun W hW => (HP_c.out.more hW).pag)) (by assumption) ?_
    simp only [Act.put, List.setIfInBounds_toArray, List.set_cons_zero, List.set_cons_succ]
    refine wpAnyH_take (i := 15) (oi := { dst := some 86, op := Op.load 24 (Operand.tmp 13), type := 24, pos := "law.go:40", after := #[{ on := 13, ground := Ground.guard }], guard := some (13, false) }) (v := .agg #[.int .i64 qs.lsn, .int .i64 qs.kind, .int .i64 qs.level, .int .i64 qs.right, .string qs.high, .slice ao4 qs.items.length cp4]) rfl (by kernel_rfl) (by kernel_rfl) (by kernel_rfl) (fun _ _ _ h => h) (yieldsIf_load_page (by rfl) _ rfl _ rfl (fun W hW => (HP_d.out.more hW).pag)) (by assumption) ?_
    simp only [Act.put, List.setIfInBounds_toArray, List.set_cons_zero, List.set_cons_succ]
    refine wpAnyH_ready (rs := [16]) (by kernel_rfl) (by simp) ?_
    refine AllReadyH.cons (o := { dst := some 87, op := Op.call { callee := Callee.value (Operand.func 14), args := #[Operand.tmp 85, Operand.tmp 86], argTypes := #[24, 24] }, type := 4, pos := "law.go:40", after := #[{ on := 14, ground := Ground.data }, { on := 15, ground := Ground.data }, { on := 13, ground := Ground.chain }, { on := 13, ground := Ground.guard }], guard := some (13, false) }) rfl (fun K hK => ?_) (AllReadyH.nil)
    go_simp
    refine (same_self qs _ _ _ _ _ _ _ (HP_c.out.more (Only.drew _ w6)).strs (HP_d.out.more (Only.drew _ w6)).strs).mono ?_
    rintro e v1 ⟨rfl, ho1⟩
    have HV1 := hide (o2 (Only.drew _ w6) ho1)
    clear ho1
    refine hK.out _ _ (HV1.out) (fun hHeld => ?_)
    clear hK K
    try simp only [Act.put, List.setIfInBounds_toArray, List.set_cons_zero, List.set_cons_succ]
    refine wpAnyH_take (i := 17) (oi := { dst := some 88, op := Op.unOp UnOp.not 4 (Operand.tmp 87), type := 4, pos := "law.go:40", after := #[{ on := 16, ground := Ground.data }, { on := 13, ground := Ground.guard }], guard := some (13, false) }) (v := .bool false) rfl (by kernel_rfl) (by kernel_rfl) (by kernel_rfl) (fun _ _ _ h => h) (Or.inl ⟨by rfl, fun w' hSw => by clear hSw; go_simp⟩) (by assumption) ?_
    simp only [Act.put, List.setIfInBounds_toArray, List.set_cons_zero, List.set_cons_succ]
    refine wpAnyH_take (i := 18) (oi := { dst := some 89, op := Op.pick (Operand.tmp 84) (Operand.const (Value.bool true)) (Operand.tmp 88), type := 4, pos := "law.go:40", after := #[{ on := 13, ground := Ground.data }, { on := 17, ground := Ground.data }], guard := none }) (v := .bool false) rfl (by kernel_rfl) (by kernel_rfl) (by kernel_rfl) (fun _ _ _ h => h) (Or.inl ⟨by rfl, fun w' hSw => by clear hSw; go_simp⟩) (by assumption) ?_
    simp only [Act.put, List.setIfInBounds_toArray, List.set_cons_zero, List.set_cons_succ]
    refine wpAnyH_take (i := 19) (oi := { dst := some 90, op := Op.move (Operand.tmp 89), type := 4, pos := "law.go:40", after := #[{ on := 18, ground := Ground.data }, { on := 16, ground := Ground.chain }], guard := none }) (v := .bool false) rfl (by kernel_rfl) (by kernel_rfl) (by kernel_rfl) (fun _ _ _ h => h) (Or.inl ⟨by rfl, fun w' hSw => by clear hSw; go_simp⟩) (by assumption) ?_
    simp only [Act.put, List.setIfInBounds_toArray, List.set_cons_zero, List.set_cons_succ]
    refine wpAnyH_take (i := 20) (oi := { dst := some 91, op := Op.move (Operand.tmp 15), type := 3, pos := "law.go:40", after := #[{ on := 19, ground := Ground.guard }], guard := some (19, false) }) (v := .int .i64 f) rfl (by kernel_rfl) (by kernel_rfl) (by kernel_rfl) (fun _ _ _ h => h) (Or.inl ⟨by rfl, fun w' hSw => by clear hSw; go_simp⟩) (by assumption) ?_
    simp only [Act.put, List.setIfInBounds_toArray, List.set_cons_zero, List.set_cons_succ]
    refine wpAnyH_take (i := 21) (oi := { dst := some 92, op := Op.move (Operand.tmp 17), type := 3, pos := "law.go:40", after := #[{ on := 19, ground := Ground.guard }], guard := some (19, false) }) (v := .int .i64 f) rfl (by kernel_rfl) (by kernel_rfl) (by kernel_rfl) (fun _ _ _ h => h) (Or.inl ⟨by rfl, fun w' hSw => by clear hSw; go_simp⟩) (by assumption) ?_
    simp only [Act.put, List.setIfInBounds_toArray, List.set_cons_zero, List.set_cons_succ]
    refine wpAnyH_take (i := 22) (oi := { dst := some 93, op := Op.binOp BinOp.neq 3 (Operand.tmp 91) (Operand.tmp 92) 3, type := 4, pos := "law.go:40", after := #[{ on := 20, ground := Ground.data }, { on := 21, ground := Ground.data }, { on := 19, ground := Ground.guard }], guard := some (19, false) }) (v := .bool false) rfl (by kernel_rfl) (by kernel_rfl) (by kernel_rfl) (fun _ _ _ h => h) (Or.inl ⟨by rfl, fun w' hSw => by clear hSw; go_simp⟩) (by assumption) ?_
    simp only [Act.put, List.setIfInBounds_toArray, List.set_cons_zero, List.set_cons_succ]
    refine wpAnyH_take (i := 23) (oi := { dst := some 94, op := Op.pick (Operand.tmp 90) (Operand.const (Value.bool true)) (Operand.tmp 93), type := 4, pos := "law.go:40", after := #[{ on := 19, ground := Ground.data }, { on := 22, ground := Ground.data }], guard := none }) (v := .bool false) rfl (by kernel_rfl) (by kernel_rfl) (by kernel_rfl) (fun _ _ _ h => h) (Or.inl ⟨by rfl, fun w' hSw => by clear hSw; go_simp⟩) (by assumption) ?_
    simp only [Act.put, List.setIfInBounds_toArray, List.set_cons_zero, List.set_cons_succ]
    refine wpAnyH_take (i := 24) (oi := { dst := some 95, op := Op.move (Operand.tmp 94), type := 4, pos := "law.go:40", after := #[{ on := 23, ground := Ground.data }, { on := 19, ground := Ground.chain }], guard := none }) (v := .bool false) rfl (by kernel_rfl) (by kernel_rfl) (by kernel_rfl) (fun _ _ _ h => h) (Or.inl ⟨by rfl, fun w' hSw => by clear hSw; go_simp⟩) (by assumption) ?_
    simp only [Act.put, List.setIfInBounds_toArray, List.set_cons_zero, List.set_cons_succ]
    refine wpAnyH_take (i := 25) (oi := { dst := some 96, op := Op.move (Operand.tmp 16), type := 28, pos := "law.go:40", after := #[{ on := 24, ground := Ground.guard }], guard := some (24, false) }) (v := .int .i64 ck) rfl (by kernel_rfl) (by kernel_rfl) (by kernel_rfl) (fun _ _ _ h => h) (Or.inl ⟨by rfl, fun w' hSw => by clear hSw; go_simp⟩) (by assumption) ?_
    simp only [Act.put, List.setIfInBounds_toArray, List.set_cons_zero, List.set_cons_succ]
    refine wpAnyH_take (i := 26) (oi := { dst := some 97, op := Op.move (Operand.tmp 18), type := 28, pos := "law.go:40", after := #[{ on := 24, ground := Ground.guard }], guard := some (24, false) }) (v := .int .i64 ck) rfl (by kernel_rfl) (by kernel_rfl) (by kernel_rfl) (fun _ _ _ h => h) (Or.inl ⟨by rfl, fun w' hSw => by clear hSw; go_simp⟩) (by assumption) ?_
    simp only [Act.put, List.setIfInBounds_toArray, List.set_cons_zero, List.set_cons_succ]
    refine wpAnyH_take (i := 27) (oi := { dst := some 98, op := Op.binOp BinOp.neq 28 (Operand.tmp 96) (Operand.tmp 97) 28, type := 4, pos := "law.go:40", after := #[{ on := 25, ground := Ground.data }, { on := 26, ground := Ground.data }, { on := 24, ground := Ground.guard }], guard := some (24, false) }) (v := .bool false) rfl (by kernel_rfl) (by kernel_rfl) (by kernel_rfl) (fun _ _ _ h => h) (Or.inl ⟨by rfl, fun w' hSw => by clear hSw; go_simp⟩) (by assumption) ?_
    simp only [Act.put, List.setIfInBounds_toArray, List.set_cons_zero, List.set_cons_succ]
    refine wpAnyH_take (i := 28) (oi := { dst := some 99, op := Op.pick (Operand.tmp 95) (Operand.const (Value.bool true)) (Operand.tmp 98), type := 4, pos := "law.go:40", after := #[{ on := 24, ground := Ground.data }, { on := 27, ground := Ground.data }], guard := none }) (v := .bool false) rfl (by kernel_rfl) (by kernel_rfl) (by kernel_rfl) (fun _ _ _ h => h) (Or.inl ⟨by rfl, fun w' hSw => by clear hSw; go_simp⟩) (by assumption) ?_
    simp only [Act.put, List.setIfInBounds_toArray, List.set_cons_zero, List.set_cons_succ]
    refine wpAnyH_take (i := 29) (oi := { dst := some 100, op := Op.move (Operand.tmp 99), type := 4, pos := "law.go:40", after := #[{ on := 28, ground := Ground.data }, { on := 24, ground := Ground.chain }], guard := none }) (v := .bool false) rfl (by kernel_rfl) (by kernel_rfl) (by kernel_rfl) (fun _ _ _ h => h) (Or.inl ⟨by rfl, fun w' hSw => by clear hSw; go_simp⟩) (by assumption) ?_
    simp only [Act.put, List.setIfInBounds_toArray, List.set_cons_zero, List.set_cons_succ]
    refine wpAnyH_take (i := 30) (oi := { dst := some 101, op := Op.move (Operand.tmp 0), type := 3, pos := "law.go:40", after := #[{ on := 29, ground := Ground.guard }], guard := some (29, false) }) (v := .int .i64 m) rfl (by kernel_rfl) (by kernel_rfl) (by kernel_rfl) (fun _ _ _ h => h) (Or.inl ⟨by rfl, fun w' hSw => by clear hSw; go_simp⟩) (by assumption) ?_
    simp only [Act.put, List.setIfInBounds_toArray, List.set_cons_zero, List.set_cons_succ]
    refine wpAnyH_take (i := 31) (oi := { dst := some 102, op := Op.load 24 (Operand.tmp 4), type := 24, pos := "law.go:40", after := #[{ on := 29, ground := Ground.guard }], guard := some (29, false) }) (v := .agg #[.int .i64 p.lsn, .int .i64 p.kind, .int .i64 p.level, .int .i64 p.right, .string p.high, .slice ao p.items.length cp]) rfl (by kernel_rfl) (by kernel_rfl) (by kernel_rfl) (fun _ _ _ h => h) (yieldsIf_load_page (by rfl) _ rfl _ rfl (fun W hW => (HP_p.out.more hW).pag)) (by assumption) ?_
    simp only [Act.put, List.setIfInBounds_toArray, List.set_cons_zero, List.set_cons_succ]
    refine wpAnyH_take (i := 33) (oi := { dst := some 104, op := Op.move (Operand.tmp 0), type := 3, pos := "law.go:40", after := #[{ on := 29, ground := Ground.guard }], guard := some (29, false) }) (v := .int .i64 m) rfl (by kernel_rfl) (by kernel_rfl) (by kernel_rfl) (fun _ _ _ h => h) (Or.inl ⟨by rfl, fun w' hSw => by clear hSw; go_simp⟩) (by assumption) ?_
    simp only [Act.put, List.setIfInBounds_toArray, List.set_cons_zero, List.set_cons_succ]
    refine wpAnyH_take (i := 34) (oi := { dst := some 105, op := Op.load 24 (Operand.tmp 4), type := 24, pos := "law.go:40", after := #[{ on := 29, ground := Ground.guard }], guard := some (29, false) }) (v := .agg #[.int .i64 p.lsn, .int .i64 p.kind, .int .i64 p.level, .int .i64 p.right, .string p.high, .slice ao p.items.length cp]) rfl (by kernel_rfl) (by kernel_rfl) (by kernel_rfl) (fun _ _ _ h => h) (yieldsIf_load_page (by rfl) _ rfl _ rfl (fun W hW => (HP_p.out.more hW).pag)) (by assumption) ?_
    simp only [Act.put, List.setIfInBounds_toArray, List.set_cons_zero, List.set_cons_succ]
    refine wpAnyH_ready (rs := [32]) (by kernel_rfl) (by simp) ?_
    refine AllReadyH.cons (o := { dst := some 103, op := Op.call { callee := Callee.value (Operand.func 15), args := #[Operand.tmp 101, Operand.tmp 102], argTypes := #[3, 24] }, type := 28, pos := "law.go:40", after := #[{ on := 30, ground := Ground.data }, { on := 31, ground := Ground.data }, { on := 29, ground := Ground.chain }, { on := 29, ground := Ground.guard }], guard := some (29, false) }) rfl (fun K hK => ?_) (AllReadyH.nil)
    go_simp
    refine (C1.out _ (HP_p.out.more HV1.out).strs).mono ?_
    rintro e v2 ⟨rfl, ho1⟩
    have HV2 := hide (o2 HV1.out ho1)
    clear ho1
    refine hK.out _ _ (HV2.out) (fun hHeld => ?_)
    clear hK K
    try simp only [Act.put, List.setIfInBounds_toArray, List.set_cons_zero, List.set_cons_succ]
    refine wpAnyH_ready (rs := [35]) (by kernel_rfl) (by simp) ?_
    refine AllReadyH.cons (o := { dst := some 106, op := Op.call { callee := Callee.value (Operand.func 16), args := #[Operand.tmp 104, Operand.tmp 105], argTypes := #[3, 24] }, type := 28, pos := "law.go:40", after := #[{ on := 33, ground := Ground.data }, { on := 34, ground := Ground.data }, { on := 32, ground := Ground.chain }, { on := 29, ground := Ground.guard }], guard := some (29, false) }) rfl (fun K hK => ?_) (AllReadyH.nil)
    go_simp
    refine (C2.out _ (HP_p.out.more HV2.out).strs).mono ?_
    rintro e v3 ⟨rfl, ho1⟩
    have HV3 := hide (o2 HV2.out ho1)
    clear ho1
    refine hK.out _ _ (HV3.out) (fun hHeld => ?_)
    clear hK K
    try simp only [Act.put, List.setIfInBounds_toArray, List.set_cons_zero, List.set_cons_succ]
    refine wpAnyH_take (i := 36) (oi := { dst := some 107, op := Op.binOp BinOp.neq 28 (Operand.tmp 103) (Operand.tmp 106) 28, type := 4, pos := "law.go:40", after := #[{ on := 32, ground := Ground.data }, { on := 35, ground := Ground.data }, { on := 29, ground := Ground.guard }], guard := some (29, false) }) (v := .bool false) rfl (by kernel_rfl) (by kernel_rfl) (by kernel_rfl) (fun _ _ _ h => h) (Or.inl ⟨by rfl, fun w' hSw => by clear hSw; go_simp⟩) (by assumption) ?_
    simp only [Act.put, List.setIfInBounds_toArray, List.set_cons_zero, List.set_cons_succ]
    refine wpAnyH_take (i := 37) (oi := { dst := some 108, op := Op.pick (Operand.tmp 100) (Operand.const (Value.bool true)) (Operand.tmp 107), type := 4, pos := "law.go:40", after := #[{ on := 29, ground := Ground.data }, { on := 36, ground := Ground.data }], guard := none }) (v := .bool false) rfl (by kernel_rfl) (by kernel_rfl) (by kernel_rfl) (fun _ _ _ h => h) (Or.inl ⟨by rfl, fun w' hSw => by clear hSw; go_simp⟩) (by assumption) ?_
    simp only [Act.put, List.setIfInBounds_toArray, List.set_cons_zero, List.set_cons_succ]
    refine wpAnyH_done (by kernel_rfl) ?_ _
    refine NoPanic.normal ?_
    go_wp2_with fail
    go_meet
    exact ⟨rfl, HV3⟩
  case rest =>
    obtain ⟨rfl, HX7⟩ := hcut
    have HP_p := hide (HP_p.out.more HX7.out)
    have HP_x := hide (HP_x.out.more HX7.out)
    have HP_c := hide (HP_c.out.more HX7.out)
    have HP_d := hide (HP_d.out.more HX7.out)
    have HO := hide (o2 HO.out HX7.out)
    go_upto_region 9 with fail
    obtain ⟨zp0, zp1, zp2, zp3, zp4, zp5, zf0, zf1, zf2, zf3, zf4, zf5, zfl⟩ := HP_p.out.pag
    obtain ⟨yc0, yc1, yc2, ycl⟩ := HP_x.out
    go_wp2_with fail
    refine (T1.out _ HP_p.out.strs).mono ?_
    rintro e w7 ⟨B7, ao7, cp7, rfl, hS7, hF7, ho, hB7⟩
    clear zp0 zf0 zp1 zf1 zp2 zf2 zp3 zf3 zp4 zf4 zp5 zf5 zfl
    clear yc0 yc1 yc2 ycl
    have HP_p := hide (HP_p.out.more ho)
    have HP_x := hide (HP_x.out.more ho)
    have HP_c := hide (HP_c.out.more ho)
    have HP_d := hide (HP_d.out.more ho)
    have HO := hide (o2 HO.out ho)
    have HP_q := hide (PgB.new hS7 hF7)
    have HN := hide (onlyA w7 (.cells #[.int .i64 rs.lsn, .int .i64 rs.kind, .int .i64 rs.level, .int .i64 rs.right, .string rs.high, .slice ao7 rs.items.length cp7] 24))
    have HD7 : Hid (b4 < w7.heap.size) := by unfold Hid; have := HP_d.out.pag.lt; omega
    clear hS7 hF7 hB7 ho
    go_upto_region 10 with fail
    obtain ⟨b7, hb⟩ : ∃ b, w7.heap.size = b := ⟨_, rfl⟩
    obtain ⟨W7, hW⟩ : ∃ W, w7.alloc (.cells #[.int .i64 rs.lsn, .int .i64 rs.kind, .int .i64 rs.level, .int .i64 rs.right, .string rs.high, .slice ao7 rs.items.length cp7] 24) = W := ⟨_, rfl⟩
    rw [hW] at HP_q HN ⊢
    rw [hb] at HP_q HD7 ⊢
    clear hW hb
    have HP_p := hide (HP_p.out.more HN.out)
    have HP_x := hide (HP_x.out.more HN.out)
    have HP_c := hide (HP_c.out.more HN.out)
    have HP_d := hide (HP_d.out.more HN.out)
    have HO := hide (o2 HO.out HN.out)
    obtain ⟨zp0, zp1, zp2, zp3, zp4, zp5, zf0, zf1, zf2, zf3, zf4, zf5, zfl⟩ := HP_p.out.pag
    obtain ⟨yc0, yc1, yc2, ycl⟩ := HP_x.out
    go_wp2_with fail
    refine (T2.out _ HP_p.out.strs).mono ?_
    rintro e w8 ⟨B8, ao8, cp8, rfl, hS8, hF8, ho, hB8⟩
    clear zp0 zf0 zp1 zf1 zp2 zf2 zp3 zf3 zp4 zf4 zp5 zf5 zfl
    clear yc0 yc1 yc2 ycl
    have HP_p := hide (HP_p.out.more ho)
    have HP_x := hide (HP_x.out.more ho)
    have HP_c := hide (HP_c.out.more ho)
    have HP_d := hide (HP_d.out.more ho)
    have HP_q := hide (HP_q.out.more ho)
    have HO := hide (o2 HO.out ho)
    have HP_r := hide (PgB.new hS8 hF8)
    have HN := hide (onlyA w8 (.cells #[.int .i64 rs.lsn, .int .i64 rs.kind, .int .i64 rs.level, .int .i64 rs.right, .string rs.high, .slice ao8 rs.items.length cp8] 24))
    have HD8 : Hid (b7 < w8.heap.size) := by unfold Hid; have := HP_q.out.pag.lt; omega
    clear hS8 hF8 hB8 ho
    go_upto_region 11 with fail
    obtain ⟨b8, hb⟩ : ∃ b, w8.heap.size = b := ⟨_, rfl⟩
    obtain ⟨W8, hW⟩ : ∃ W, w8.alloc (.cells #[.int .i64 rs.lsn, .int .i64 rs.kind, .int .i64 rs.level, .int .i64 rs.right, .string rs.high, .slice ao8 rs.items.length cp8] 24) = W := ⟨_, rfl⟩
    rw [hW] at HP_r HN ⊢
    rw [hb] at HP_r HD8 ⊢
    clear hW hb
    have HP_p := hide (HP_p.out.more HN.out)
    have HP_x := hide (HP_x.out.more HN.out)
    have HP_c := hide (HP_c.out.more HN.out)
    have HP_d := hide (HP_d.out.more HN.out)
    have HP_q := hide (HP_q.out.more HN.out)
    have HO := hide (o2 HO.out HN.out)
    obtain ⟨yp0, yp1, yp2, yp3, yp4, yp5, yf0, yf1, yf2, yf3, yf4, yf5, yfl⟩ := HP_q.out.pag
    obtain ⟨zp0, zp1, zp2, zp3, zp4, zp5, zf0, zf1, zf2, zf3, zf4, zf5, zfl⟩ := HP_r.out.pag
    go_wp2_with fail
    refine (same_self rs _ _ _ _ _ _ _ HP_q.out.strs HP_r.out.strs).mono ?_
    rintro e w9 ⟨rfl, ho⟩
    clear yp0 yf0 yp1 yf1 yp2 yf2 yp3 yf3 yp4 yf4 yp5 yf5 yfl
    clear zp0 zf0 zp1 zf1 zp2 zf2 zp3 zf3 zp4 zf4 zp5 zf5 zfl
    have HP_p := hide (HP_p.out.more ho)
    have HP_x := hide (HP_x.out.more ho)
    have HP_c := hide (HP_c.out.more ho)
    have HP_d := hide (HP_d.out.more ho)
    have HP_q := hide (HP_q.out.more ho)
    have HP_r := hide (HP_r.out.more ho)
    have HO := hide (o2 HO.out ho)
    clear ho
    go_wp2_with fail
    refine (cawake_any _).mono ?_
    rintro e w10 ⟨rfl, ho⟩
    have HO := hide (o2 HO.out ho)
    clear ho
    go_wp2_with fail
    go_ret
    exact ⟨rfl, HO.out⟩
end Go.Proofs.Ytcpgflkjeglgbaa
