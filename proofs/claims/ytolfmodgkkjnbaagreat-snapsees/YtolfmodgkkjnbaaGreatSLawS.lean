/- Walk of SnapSees. -/
import Derived.Test.YtolfmodgkkjnbaaGreatSLawH
import Derived.Test.YtolfmodgkkjnbaaGreatSRefB
namespace Go.Proofs.YtolfmodgkkjnbaaGreat
open Go.RowKit

theorem yieldsIf_load_view {ops : Array Oper} {S : World → Prop} {op : Oper} {a : Act} {v0 v1 v2 v3 v4 v5 v6 v7 v8 v9 v10 : Value} (hw : Region.wanted op (yielded ops a.tmps) = true) (x : Operand) (ho : op.op = .load 32 x)
    {b : Nat} (hx : a.eval x = .pointer (some ⟨b, 0, none⟩)) (hS : ∀ w, S w → VB w b v0 v1 v2 v3 v4 v5 v6 v7 v8 v9 v10) : YieldsIf Tryz.prog ops S op (.agg #[v0, v1, v2, v3, v4, v5, v6, v7, v8, v9, v10]) a :=
  .inl ⟨hw, fun w hw' => by
    unfold execOp
    simp only [ho, hx, Instr.loadAt, Instr.sureAddr, Sem.run_bind, Sem.run_pure, Result.andThen_ok, load_view (hS w hw')]⟩
theorem load_tuple {w : World} {b : Nat} {v0 v1 v2 v3 v4 : Value} (h : TB w b v0 v1 v2 v3 v4) : (loadVar 34 ⟨b, 0, none⟩).run Tryz.prog w = .ok (.agg #[v0, v1, v2, v3, v4]) w := by
  have c0 := h.c0
  have c1 := h.c1
  have c2 := h.c2
  have c3 := h.c3
  have c4 := h.c4
  simp [loadVar, go_sem, c0, c1, c2, c3, c4]
theorem yieldsIf_load_tuple {ops : Array Oper} {S : World → Prop} {op : Oper} {a : Act} {v0 v1 v2 v3 v4 : Value} (hw : Region.wanted op (yielded ops a.tmps) = true) (x : Operand) (ho : op.op = .load 34 x)
    {b : Nat} (hx : a.eval x = .pointer (some ⟨b, 0, none⟩)) (hS : ∀ w, S w → TB w b v0 v1 v2 v3 v4) : YieldsIf Tryz.prog ops S op (.agg #[v0, v1, v2, v3, v4]) a :=
  .inl ⟨hw, fun w hw' => by
    unfold execOp
    simp only [ho, hx, Instr.loadAt, Instr.sureAddr, Sem.run_bind, Sem.run_pure, Result.andThen_ok, load_tuple (hS w hw')]⟩
set_option maxRecDepth 100000 in
set_option maxHeartbeats 3200000 in
theorem sees_law (w : World) (m fr : Int) (BO : Nat) (aO : Option Addr) (n cap : Nat) (X : Nat → Int) (S : Nat → Nat) (V : Vw) (q : Lo) (T : Tp) (hm : I64 m) (hfr : I64 fr) (hS : Sds w BO aO n X S) (h : Sn w V q) (ht : I64 T.xmin ∧ I64 T.xmax) :
    Calls Tryz.prog 3 #[.agg #[.int .i64 m, .int .i64 fr, .slice aO n cap], .agg #[.int .i64 V.m, .int .i64 V.next, .slice q.aA V.act.length q.cA, .int .i64 V.own, .slice q.aR V.run.length q.cR, .int .i64 V.pg.lsn, .int .i64 V.pg.kind, .int .i64 V.pg.level, .int .i64 V.pg.right, .string V.pg.high, .slice q.aP V.pg.items.length q.cP], .agg #[.int .i64 T.xmin, .int .i64 T.xmax, .bool T.fz, .string T.key, .string T.val]] w fun e w' => e = .returned (.bool true) ∧ Only (fun _ => False) w w' := by
  have HT1 := hide ht
  have HNX := hide h.next
  clear ht
  have HPB := hide (PB.new w (.int .i64 m) (.int .i64 fr) (.slice aO n cap))
  have HRB := hide (VB.new (w.alloc (.cells #[.int .i64 m, .int .i64 fr, .slice aO n cap] 24)) (.int .i64 V.m) (.int .i64 V.next) (.slice q.aA V.act.length q.cA) (.int .i64 V.own) (.slice q.aR V.run.length q.cR) (.int .i64 V.pg.lsn) (.int .i64 V.pg.kind) (.int .i64 V.pg.level) (.int .i64 V.pg.right) (.string V.pg.high) (.slice q.aP V.pg.items.length q.cP))
  have HPB := hide (HPB.out.more (onlyA _ (.cells #[.int .i64 V.m, .int .i64 V.next, .slice q.aA V.act.length q.cA, .int .i64 V.own, .slice q.aR V.run.length q.cR, .int .i64 V.pg.lsn, .int .i64 V.pg.kind, .int .i64 V.pg.level, .int .i64 V.pg.right, .string V.pg.high, .slice q.aP V.pg.items.length q.cP] 32)))
  have HTB := hide (TB.new ((w.alloc (.cells #[.int .i64 m, .int .i64 fr, .slice aO n cap] 24)).alloc (.cells #[.int .i64 V.m, .int .i64 V.next, .slice q.aA V.act.length q.cA, .int .i64 V.own, .slice q.aR V.run.length q.cR, .int .i64 V.pg.lsn, .int .i64 V.pg.kind, .int .i64 V.pg.level, .int .i64 V.pg.right, .string V.pg.high, .slice q.aP V.pg.items.length q.cP] 32)) (.int .i64 T.xmin) (.int .i64 T.xmax) (.bool T.fz) (.string T.key) (.string T.val))
  have HPB := hide (HPB.out.more (onlyA _ (.cells #[.int .i64 T.xmin, .int .i64 T.xmax, .bool T.fz, .string T.key, .string T.val] 34)))
  have HRB := hide (HRB.out.more (onlyA _ (.cells #[.int .i64 T.xmin, .int .i64 T.xmax, .bool T.fz, .string T.key, .string T.val] 34)))
  have HO := hide (o2 (o2 (onlyA w (.cells #[.int .i64 m, .int .i64 fr, .slice aO n cap] 24)) (onlyA _ (.cells #[.int .i64 V.m, .int .i64 V.next, .slice q.aA V.act.length q.cA, .int .i64 V.own, .slice q.aR V.run.length q.cR, .int .i64 V.pg.lsn, .int .i64 V.pg.kind, .int .i64 V.pg.level, .int .i64 V.pg.right, .string V.pg.high, .slice q.aP V.pg.items.length q.cP] 32))) (onlyA _ (.cells #[.int .i64 T.xmin, .int .i64 T.xmax, .bool T.fz, .string T.key, .string T.val] 34)))
  simp only [World.size_alloc] at HPB HRB HTB
  have HSD := hide hS
  have HN0 := hide h
  have HM := hide (fun W hs hn => made_any W m fr BO aO n cap X S V q hm hfr hs hn)
  clear hS h hm hfr
  go_enter Tryz.func3, Tryz.ntmps3
  go_upto_region 1 with fail
  obtain ⟨W0, hW0⟩ : ∃ W, ((w.alloc (.cells #[.int .i64 m, .int .i64 fr, .slice aO n cap] 24)).alloc (.cells #[.int .i64 V.m, .int .i64 V.next, .slice q.aA V.act.length q.cA, .int .i64 V.own, .slice q.aR V.run.length q.cR, .int .i64 V.pg.lsn, .int .i64 V.pg.kind, .int .i64 V.pg.level, .int .i64 V.pg.right, .string V.pg.high, .slice q.aP V.pg.items.length q.cP] 32)).alloc (.cells #[.int .i64 T.xmin, .int .i64 T.xmax, .bool T.fz, .string T.key, .string T.val] 34) = W := ⟨_, rfl⟩
  have HLT0 : Hid (w.heap.size + 1 + 1 < W0.heap.size) := by unfold Hid; rw [← hW0]; simp
  rw [hW0] at HPB HRB HTB HO ⊢
  clear hW0
  obtain ⟨pbc0, pbc1, pbc2, pbf0, pbf1, pbf2, pbl⟩ := HPB.out
  clear pbf0 pbf1 pbf2
  obtain ⟨rbc0, rbc1, rbc2, rbc3, rbc4, rbc5, rbc6, rbc7, rbc8, rbc9, rbc10, rbf0, rbf1, rbf2, rbf3, rbf4, rbf5, rbf6, rbf7, rbf8, rbf9, rbf10, rbl⟩ := HRB.out
  clear rbf0 rbf1 rbf2 rbf3 rbf4 rbf5 rbf6 rbf7 rbf8 rbf9 rbf10
  obtain ⟨tbc0, tbc1, tbc2, tbc3, tbc4, tbf0, tbf1, tbf2, tbf3, tbf4, tbl⟩ := HTB.out
  clear tbf0 tbf1 tbf2 tbf3 tbf4
  go_wp2_with fail
  refine (HM.out _ (HSD.out.more HO.out) (HN0.out.more HO.out)).mono ?_
  rintro e w1 ⟨V1, q1, ok, hq⟩
  obtain ⟨rfl, hsn, ho⟩ := hq
  clear pbc0 pbc1 pbc2 pbl
  clear rbc0 rbc1 rbc2 rbc3 rbc4 rbc5 rbc6 rbc7 rbc8 rbc9 rbc10 rbl
  clear tbc0 tbc1 tbc2 tbc3 tbc4 tbl
  have HPB := hide (HPB.out.more ho)
  have HRB := hide (HRB.out.more ho)
  have HTB := hide (HTB.out.more ho)
  have HO := hide (o2 HO.out ho)
  have HN := hide hsn
  have HB := hide (VB.new w1 (.int .i64 V1.m) (.int .i64 V1.next) (.slice q1.aA V1.act.length q1.cA) (.int .i64 V1.own) (.slice q1.aR V1.run.length q1.cR) (.int .i64 V1.pg.lsn) (.int .i64 V1.pg.kind) (.int .i64 V1.pg.level) (.int .i64 V1.pg.right) (.string V1.pg.high) (.slice q1.aP V1.pg.items.length q1.cP))
  have hoA := onlyA w1 (.cells #[.int .i64 V1.m, .int .i64 V1.next, .slice q1.aA V1.act.length q1.cA, .int .i64 V1.own, .slice q1.aR V1.run.length q1.cR, .int .i64 V1.pg.lsn, .int .i64 V1.pg.kind, .int .i64 V1.pg.level, .int .i64 V1.pg.right, .string V1.pg.high, .slice q1.aP V1.pg.items.length q1.cP] 32)
  have HPB := hide (HPB.out.more hoA)
  have HRB := hide (HRB.out.more hoA)
  have HTB := hide (HTB.out.more hoA)
  have HO := hide (o2 HO.out hoA)
  have HN := hide (HN.out.more hoA)
  have HTL : Hid (w.heap.size + 1 + 1 < w1.heap.size) := Nat.lt_of_lt_of_le HLT0.out ho.size
  clear ho hoA hsn HM HSD HN0
  go_upto_region 2 with fail
  obtain ⟨W1, hW1⟩ : ∃ W, w1.alloc (.cells #[.int .i64 V1.m, .int .i64 V1.next, .slice q1.aA V1.act.length q1.cA, .int .i64 V1.own, .slice q1.aR V1.run.length q1.cR, .int .i64 V1.pg.lsn, .int .i64 V1.pg.kind, .int .i64 V1.pg.level, .int .i64 V1.pg.right, .string V1.pg.high, .slice q1.aP V1.pg.items.length q1.cP] 32) = W := ⟨_, rfl⟩
  obtain ⟨bv, hbv⟩ : ∃ b, w1.heap.size = b := ⟨_, rfl⟩
  rw [hW1] at HPB HRB HTB HB HO HN ⊢
  rw [hbv] at HB ⊢
  have HBV : Hid (w.heap.size + 3 ≤ bv) := by unfold Hid; rw [← hbv]; have := HTL.out; omega
  clear hW1 hbv
  clear HPB
  have C0 := hide (fun W (h : Sn W V1 q1) => status_any W V1 q1 T.xmin h HT1.out.1)
  have C1 := hide (fun W (h : Sn W V1 q1) => nstatus_any W V1 q1 T.xmin h HT1.out.1)
  have C2 := hide (fun W (h : Sn W V1 q1) => sees_any W V1 q1 T.xmin h HT1.out.1)
  have C3 := hide (fun W (h : Sn W V1 q1) => nsees_any W V1 q1 T.xmin h HT1.out.1)
  have D0 := hide (fun W (h : Sn W V1 q1) => status_any W V1 q1 T.xmax h HT1.out.2)
  have D1 := hide (fun W (h : Sn W V1 q1) => nstatus_any W V1 q1 T.xmax h HT1.out.2)
  have D2 := hide (fun W (h : Sn W V1 q1) => sees_any W V1 q1 T.xmax h HT1.out.2)
  have D3 := hide (fun W (h : Sn W V1 q1) => nsees_any W V1 q1 T.xmax h HT1.out.2)
  have E0 := hide (fun W (h : Sn W V1 q1) => visible_any W V1 q1 T h HT1.out)
  have E1 := hide (fun W (h : Sn W V1 q1) => nvisible_any W V1 q1 T h HT1.out)
  have E2 := hide (fun W (h : Sn W V1 q1) => newer_any W V1 q1 T h HT1.out)
  have E3 := hide (fun W (h : Sn W V1 q1) => nnewer_any W V1 q1 T h HT1.out)
  have F0 := hide (fun W (h : Sn W V1 q1) => gone_any W V1 q1 T V.next h HT1.out HNX.out)
  have F1 := hide (fun W (h : Sn W V1 q1) => ngone_any W V1 q1 T V.next h HT1.out HNX.out)
  have F2 := hide (fun W (h : Sn W V1 q1) => old_any W V1 q1 T V.next h HT1.out HNX.out)
  have F3 := hide (fun W (h : Sn W V1 q1) => nold_any W V1 q1 T V.next h HT1.out HNX.out)
  have F4 := hide (fun W (h : Sn W V1 q1) => off_any W V1 q1 T h HT1.out)
  have F5 := hide (fun W (h : Sn W V1 q1) => noff_any W V1 q1 T h HT1.out)
  obtain ⟨s0, h_s0⟩ : ∃ y, vsi V1 T.xmin = y := ⟨_, rfl⟩
  simp only [h_s0] at C0 C1
  clear h_s0
  obtain ⟨g0, h_g0⟩ : ∃ y, vsees V1 T.xmin = y := ⟨_, rfl⟩
  simp only [h_g0] at C2 C3
  clear h_g0
  obtain ⟨s1, h_s1⟩ : ∃ y, vsi V1 T.xmax = y := ⟨_, rfl⟩
  simp only [h_s1] at D0 D1
  clear h_s1
  obtain ⟨g1, h_g1⟩ : ∃ y, vsees V1 T.xmax = y := ⟨_, rfl⟩
  simp only [h_g1] at D2 D3
  clear h_g1
  obtain ⟨vi, h_vi⟩ : ∃ y, vvis V1 T = y := ⟨_, rfl⟩
  simp only [h_vi] at E0 E1
  clear h_vi
  obtain ⟨ne, h_ne⟩ : ∃ y, vnewer V1 T = y := ⟨_, rfl⟩
  simp only [h_ne] at E2 E3
  clear h_ne
  obtain ⟨go, h_go⟩ : ∃ y, vgone V1 T V.next = y := ⟨_, rfl⟩
  simp only [h_go] at F0 F1
  clear h_go
  obtain ⟨ol, h_ol⟩ : ∃ y, vold V1 T V.next = y := ⟨_, rfl⟩
  simp only [h_ol] at F2 F3
  clear h_ol
  obtain ⟨of, h_of⟩ : ∃ y, voff V1 T = y := ⟨_, rfl⟩
  simp only [h_of] at F4 F5
  clear h_of
  go_wp2_with fail
  go_loopw [9] (fun y wr => ∃ i : Nat, i ≤ 2 ∧ y = .int .i64 (i : Int) ∧ Hid (Only (fun _ => False) W1 wr)) (fun y _ => 2 - (intOf y).toNat)
  case atStart => exact ⟨0, by omega, rfl, Only.refl _ _⟩
  case round =>
    obtain ⟨i, hi, rfl, HL⟩ := hrel
    have HRB := hide (HRB.out.more HL.out)
    have HTB := hide (HTB.out.more HL.out)
    have HB := hide (HB.out.more HL.out)
    have HN := hide (HN.out.more HL.out)
    have HO := hide (o2 HO.out HL.out)
    by_cases h0 : i = 0
    · subst h0
      obtain ⟨tbc0, tbc1, tbc2, tbc3, tbc4, tbf0, tbf1, tbf2, tbf3, tbf4, tbl⟩ := HTB.out
      clear tbf0 tbf1 tbf2 tbf3 tbf4
      go_upto_region 8 with fail
      clear tbc0 tbc1 tbc2 tbc3 tbc4 tbl
      go_cut [50] (fun t wc => t = .bool false ∧ Hid (Only (fun _ => False) wr wc))
      case first =>
        refine wp_region_noPanic ?_
        refine wp_region_held_drew (S := fun W => Only (fun _ => False) wr W) (by kernel_rfl) (Only.drew _ wr) (fun hHeld => ?_)
        refine wpAnyH_take (i := 0) (oi := { dst := some 35, op := Op.load 32 (Operand.tmp 7), type := 32, pos := "law.go:60", after := #[], guard := none }) (v := .agg #[.int .i64 V1.m, .int .i64 V1.next, .slice q1.aA V1.act.length q1.cA, .int .i64 V1.own, .slice q1.aR V1.run.length q1.cR, .int .i64 V1.pg.lsn, .int .i64 V1.pg.kind, .int .i64 V1.pg.level, .int .i64 V1.pg.right, .string V1.pg.high, .slice q1.aP V1.pg.items.length q1.cP]) rfl (by kernel_rfl) (by kernel_rfl) (by kernel_rfl) (fun _ _ _ h => h) (yieldsIf_load_view (by rfl) _ rfl rfl (fun W hW => HB.out.more hW)) (by assumption) ?_
        simp only [Act.put, List.setIfInBounds_toArray, List.set_cons_zero, List.set_cons_succ]
        refine wpAnyH_take (i := 1) (oi := { dst := some 36, op := Op.move (Operand.tmp 10), type := 3, pos := "law.go:60", after := #[], guard := none }) (v := .int .i64 T.xmin) rfl (by kernel_rfl) (by kernel_rfl) (by kernel_rfl) (fun _ _ _ h => h) (Or.inl ⟨by rfl, fun w' hSw => by clear hSw; go_simp⟩) (by assumption) ?_
        simp only [Act.put, List.setIfInBounds_toArray, List.set_cons_zero, List.set_cons_succ]
        refine wpAnyH_take (i := 3) (oi := { dst := some 38, op := Op.load 32 (Operand.tmp 7), type := 32, pos := "law.go:60", after := #[], guard := none }) (v := .agg #[.int .i64 V1.m, .int .i64 V1.next, .slice q1.aA V1.act.length q1.cA, .int .i64 V1.own, .slice q1.aR V1.run.length q1.cR, .int .i64 V1.pg.lsn, .int .i64 V1.pg.kind, .int .i64 V1.pg.level, .int .i64 V1.pg.right, .string V1.pg.high, .slice q1.aP V1.pg.items.length q1.cP]) rfl (by kernel_rfl) (by kernel_rfl) (by kernel_rfl) (fun _ _ _ h => h) (yieldsIf_load_view (by rfl) _ rfl rfl (fun W hW => HB.out.more hW)) (by assumption) ?_
        simp only [Act.put, List.setIfInBounds_toArray, List.set_cons_zero, List.set_cons_succ]
        refine wpAnyH_take (i := 4) (oi := { dst := some 39, op := Op.move (Operand.tmp 10), type := 3, pos := "law.go:60", after := #[], guard := none }) (v := .int .i64 T.xmin) rfl (by kernel_rfl) (by kernel_rfl) (by kernel_rfl) (fun _ _ _ h => h) (Or.inl ⟨by rfl, fun w' hSw => by clear hSw; go_simp⟩) (by assumption) ?_
        simp only [Act.put, List.setIfInBounds_toArray, List.set_cons_zero, List.set_cons_succ]
        refine wpAnyH_ready (rs := [2]) (by kernel_rfl) (by simp) ?_
        refine AllReadyH.cons (o := { dst := some 37, op := Op.call { callee := Callee.value (Operand.func 9), args := #[Operand.tmp 35, Operand.tmp 36], argTypes := #[32, 3] }, type := 37, pos := "law.go:60", after := #[{ on := 0, ground := Ground.data }, { on := 1, ground := Ground.data }], guard := none }) rfl (fun K hK => ?_) (AllReadyH.nil)
        go_simp
        refine (C0.out _ (HN.out.more (by first | exact Only.drew _ wr))).mono ?_
        rintro e x1 ⟨rfl, ho⟩
        have HS1 : Hid (Only (fun _ => False) wr x1) := o2 (by first | exact Only.drew _ wr) ho
        clear ho
        refine hK.out _ _ (HS1.out) (fun hHeld => ?_)
        clear hK K
        try simp only [Act.put, List.setIfInBounds_toArray, List.set_cons_zero, List.set_cons_succ]
        refine wpAnyH_ready (rs := [5]) (by kernel_rfl) (by simp) ?_
        refine AllReadyH.cons (o := { dst := some 40, op := Op.call { callee := Callee.value (Operand.func 10), args := #[Operand.tmp 38, Operand.tmp 39], argTypes := #[32, 3] }, type := 37, pos := "law.go:60", after := #[{ on := 3, ground := Ground.data }, { on := 4, ground := Ground.data }, { on := 2, ground := Ground.chain }], guard := none }) rfl (fun K hK => ?_) (AllReadyH.nil)
        go_simp
        refine (C1.out _ (HN.out.more (by first | exact o2 HS1.out (Only.drew _ _) | exact HS1.out))).mono ?_
        rintro e x2 ⟨rfl, ho⟩
        have HS2 : Hid (Only (fun _ => False) wr x2) := o2 (by first | exact o2 HS1.out (Only.drew _ _) | exact HS1.out) ho
        clear ho
        refine hK.out _ _ (HS2.out) (fun hHeld => ?_)
        clear hK K
        try simp only [Act.put, List.setIfInBounds_toArray, List.set_cons_zero, List.set_cons_succ]
        refine wpAnyH_take (i := 6) (oi := { dst := some 41, op := Op.binOp BinOp.neq 37 (Operand.tmp 37) (Operand.tmp 40) 37, type := 4, pos := "law.go:60", after := #[{ on := 2, ground := Ground.data }, { on := 5, ground := Ground.data }], guard := none }) (v := .bool false) rfl (by kernel_rfl) (by kernel_rfl) (by kernel_rfl) (fun _ _ _ h => h) (Or.inl ⟨by rfl, fun w' hSw => by clear hSw; go_simp⟩) (by assumption) ?_
        simp only [Act.put, List.setIfInBounds_toArray, List.set_cons_zero, List.set_cons_succ]
        refine wpAnyH_take (i := 7) (oi := { dst := some 42, op := Op.move (Operand.tmp 41), type := 4, pos := "law.go:60", after := #[{ on := 6, ground := Ground.data }, { on := 5, ground := Ground.chain }], guard := none }) (v := .bool false) rfl (by kernel_rfl) (by kernel_rfl) (by kernel_rfl) (fun _ _ _ h => h) (Or.inl ⟨by rfl, fun w' hSw => by clear hSw; go_simp⟩) (by assumption) ?_
        simp only [Act.put, List.setIfInBounds_toArray, List.set_cons_zero, List.set_cons_succ]
        refine wpAnyH_take (i := 8) (oi := { dst := some 43, op := Op.load 32 (Operand.tmp 7), type := 32, pos := "law.go:60", after := #[{ on := 7, ground := Ground.guard }], guard := some (7, false) }) (v := .agg #[.int .i64 V1.m, .int .i64 V1.next, .slice q1.aA V1.act.length q1.cA, .int .i64 V1.own, .slice q1.aR V1.run.length q1.cR, .int .i64 V1.pg.lsn, .int .i64 V1.pg.kind, .int .i64 V1.pg.level, .int .i64 V1.pg.right, .string V1.pg.high, .slice q1.aP V1.pg.items.length q1.cP]) rfl (by kernel_rfl) (by kernel_rfl) (by kernel_rfl) (fun _ _ _ h => h) (yieldsIf_load_view (by rfl) _ rfl rfl (fun W hW => HB.out.more hW)) (by assumption) ?_
        simp only [Act.put, List.setIfInBounds_toArray, List.set_cons_zero, List.set_cons_succ]
        refine wpAnyH_take (i := 9) (oi := { dst := some 44, op := Op.move (Operand.tmp 10), type := 3, pos := "law.go:60", after := #[{ on := 7, ground := Ground.guard }], guard := some (7, false) }) (v := .int .i64 T.xmin) rfl (by kernel_rfl) (by kernel_rfl) (by kernel_rfl) (fun _ _ _ h => h) (Or.inl ⟨by rfl, fun w' hSw => by clear hSw; go_simp⟩) (by assumption) ?_
        simp only [Act.put, List.setIfInBounds_toArray, List.set_cons_zero, List.set_cons_succ]
        refine wpAnyH_take (i := 11) (oi := { dst := some 46, op := Op.load 32 (Operand.tmp 7), type := 32, pos := "law.go:60", after := #[{ on := 7, ground := Ground.guard }], guard := some (7, false) }) (v := .agg #[.int .i64 V1.m, .int .i64 V1.next, .slice q1.aA V1.act.length q1.cA, .int .i64 V1.own, .slice q1.aR V1.run.length q1.cR, .int .i64 V1.pg.lsn, .int .i64 V1.pg.kind, .int .i64 V1.pg.level, .int .i64 V1.pg.right, .string V1.pg.high, .slice q1.aP V1.pg.items.length q1.cP]) rfl (by kernel_rfl) (by kernel_rfl) (by kernel_rfl) (fun _ _ _ h => h) (yieldsIf_load_view (by rfl) _ rfl rfl (fun W hW => HB.out.more hW)) (by assumption) ?_
        simp only [Act.put, List.setIfInBounds_toArray, List.set_cons_zero, List.set_cons_succ]
        refine wpAnyH_take (i := 12) (oi := { dst := some 47, op := Op.move (Operand.tmp 10), type := 3, pos := "law.go:60", after := #[{ on := 7, ground := Ground.guard }], guard := some (7, false) }) (v := .int .i64 T.xmin) rfl (by kernel_rfl) (by kernel_rfl) (by kernel_rfl) (fun _ _ _ h => h) (Or.inl ⟨by rfl, fun w' hSw => by clear hSw; go_simp⟩) (by assumption) ?_
        simp only [Act.put, List.setIfInBounds_toArray, List.set_cons_zero, List.set_cons_succ]
        refine wpAnyH_ready (rs := [10]) (by kernel_rfl) (by simp) ?_
        refine AllReadyH.cons (o := { dst := some 45, op := Op.call { callee := Callee.value (Operand.func 11), args := #[Operand.tmp 43, Operand.tmp 44], argTypes := #[32, 3] }, type := 4, pos := "law.go:60", after := #[{ on := 8, ground := Ground.data }, { on := 9, ground := Ground.data }, { on := 7, ground := Ground.chain }, { on := 7, ground := Ground.guard }], guard := some (7, false) }) rfl (fun K hK => ?_) (AllReadyH.nil)
        go_simp
        refine (C2.out _ (HN.out.more (by first | exact o2 HS2.out (Only.drew _ _) | exact HS2.out))).mono ?_
        rintro e x3 ⟨rfl, ho⟩
        have HS3 : Hid (Only (fun _ => False) wr x3) := o2 (by first | exact o2 HS2.out (Only.drew _ _) | exact HS2.out) ho
        clear ho
        refine hK.out _ _ (HS3.out) (fun hHeld => ?_)
        clear hK K
        try simp only [Act.put, List.setIfInBounds_toArray, List.set_cons_zero, List.set_cons_succ]
        refine wpAnyH_ready (rs := [13]) (by kernel_rfl) (by simp) ?_
        refine AllReadyH.cons (o := { dst := some 48, op := Op.call { callee := Callee.value (Operand.func 12), args := #[Operand.tmp 46, Operand.tmp 47], argTypes := #[32, 3] }, type := 4, pos := "law.go:60", after := #[{ on := 11, ground := Ground.data }, { on := 12, ground := Ground.data }, { on := 10, ground := Ground.chain }, { on := 7, ground := Ground.guard }], guard := some (7, false) }) rfl (fun K hK => ?_) (AllReadyH.nil)
        go_simp
        refine (C3.out _ (HN.out.more (by first | exact o2 HS3.out (Only.drew _ _) | exact HS3.out))).mono ?_
        rintro e x4 ⟨rfl, ho⟩
        have HS4 : Hid (Only (fun _ => False) wr x4) := o2 (by first | exact o2 HS3.out (Only.drew _ _) | exact HS3.out) ho
        clear ho
        refine hK.out _ _ (HS4.out) (fun hHeld => ?_)
        clear hK K
        try simp only [Act.put, List.setIfInBounds_toArray, List.set_cons_zero, List.set_cons_succ]
        refine wpAnyH_take (i := 14) (oi := { dst := some 49, op := Op.binOp BinOp.neq 4 (Operand.tmp 45) (Operand.tmp 48) 4, type := 4, pos := "law.go:60", after := #[{ on := 10, ground := Ground.data }, { on := 13, ground := Ground.data }, { on := 7, ground := Ground.guard }], guard := some (7, false) }) (v := .bool false) rfl (by kernel_rfl) (by kernel_rfl) (by kernel_rfl) (fun _ _ _ h => h) (Or.inl ⟨by rfl, fun w' hSw => by clear hSw; go_simp⟩) (by assumption) ?_
        simp only [Act.put, List.setIfInBounds_toArray, List.set_cons_zero, List.set_cons_succ]
        refine wpAnyH_take (i := 15) (oi := { dst := some 50, op := Op.pick (Operand.tmp 42) (Operand.const (Value.bool true)) (Operand.tmp 49), type := 4, pos := "law.go:60", after := #[{ on := 7, ground := Ground.data }, { on := 14, ground := Ground.data }], guard := none }) (v := .bool false) rfl (by kernel_rfl) (by kernel_rfl) (by kernel_rfl) (fun _ _ _ h => h) (Or.inl ⟨by rfl, fun w' hSw => by clear hSw; go_simp⟩) (by assumption) ?_
        simp only [Act.put, List.setIfInBounds_toArray, List.set_cons_zero, List.set_cons_succ]
        refine wpAnyH_done (by kernel_rfl) ?_ _
        refine NoPanic.normal ?_
        go_wp2_with fail
        go_meet
        exact ⟨rfl, HS4⟩
      case rest =>
        obtain ⟨rfl, HS⟩ := hcut
        have HL2 := hide (o2 HL.out HS.out)
        go_wp2_with fail
        go_roundw
        case rel => exact ⟨1, by omega, rfl, HL2⟩
        case measure => simp [intOf]
    by_cases h1 : i = 1
    · subst h1
      obtain ⟨tbc0, tbc1, tbc2, tbc3, tbc4, tbf0, tbf1, tbf2, tbf3, tbf4, tbl⟩ := HTB.out
      clear tbf0 tbf1 tbf2 tbf3 tbf4
      go_upto_region 8 with fail
      clear tbc0 tbc1 tbc2 tbc3 tbc4 tbl
      go_cut [50] (fun t wc => t = .bool false ∧ Hid (Only (fun _ => False) wr wc))
      case first =>
        refine wp_region_noPanic ?_
        refine wp_region_held_drew (S := fun W => Only (fun _ => False) wr W) (by kernel_rfl) (Only.drew _ wr) (fun hHeld => ?_)
        refine wpAnyH_take (i := 0) (oi := { dst := some 35, op := Op.load 32 (Operand.tmp 7), type := 32, pos := "law.go:60", after := #[], guard := none }) (v := .agg #[.int .i64 V1.m, .int .i64 V1.next, .slice q1.aA V1.act.length q1.cA, .int .i64 V1.own, .slice q1.aR V1.run.length q1.cR, .int .i64 V1.pg.lsn, .int .i64 V1.pg.kind, .int .i64 V1.pg.level, .int .i64 V1.pg.right, .string V1.pg.high, .slice q1.aP V1.pg.items.length q1.cP]) rfl (by kernel_rfl) (by kernel_rfl) (by kernel_rfl) (fun _ _ _ h => h) (yieldsIf_load_view (by rfl) _ rfl rfl (fun W hW => HB.out.more hW)) (by assumption) ?_
        simp only [Act.put, List.setIfInBounds_toArray, List.set_cons_zero, List.set_cons_succ]
        refine wpAnyH_take (i := 1) (oi := { dst := some 36, op := Op.move (Operand.tmp 10), type := 3, pos := "law.go:60", after := #[], guard := none }) (v := .int .i64 T.xmax) rfl (by kernel_rfl) (by kernel_rfl) (by kernel_rfl) (fun _ _ _ h => h) (Or.inl ⟨by rfl, fun w' hSw => by clear hSw; go_simp⟩) (by assumption) ?_
        simp only [Act.put, List.setIfInBounds_toArray, List.set_cons_zero, List.set_cons_succ]
        refine wpAnyH_take (i := 3) (oi := { dst := some 38, op := Op.load 32 (Operand.tmp 7), type := 32, pos := "law.go:60", after := #[], guard := none }) (v := .agg #[.int .i64 V1.m, .int .i64 V1.next, .slice q1.aA V1.act.length q1.cA, .int .i64 V1.own, .slice q1.aR V1.run.length q1.cR, .int .i64 V1.pg.lsn, .int .i64 V1.pg.kind, .int .i64 V1.pg.level, .int .i64 V1.pg.right, .string V1.pg.high, .slice q1.aP V1.pg.items.length q1.cP]) rfl (by kernel_rfl) (by kernel_rfl) (by kernel_rfl) (fun _ _ _ h => h) (yieldsIf_load_view (by rfl) _ rfl rfl (fun W hW => HB.out.more hW)) (by assumption) ?_
        simp only [Act.put, List.setIfInBounds_toArray, List.set_cons_zero, List.set_cons_succ]
        refine wpAnyH_take (i := 4) (oi := { dst := some 39, op := Op.move (Operand.tmp 10), type := 3, pos := "law.go:60", after := #[], guard := none }) (v := .int .i64 T.xmax) rfl (by kernel_rfl) (by kernel_rfl) (by kernel_rfl) (fun _ _ _ h => h) (Or.inl ⟨by rfl, fun w' hSw => by clear hSw; go_simp⟩) (by assumption) ?_
        simp only [Act.put, List.setIfInBounds_toArray, List.set_cons_zero, List.set_cons_succ]
        refine wpAnyH_ready (rs := [2]) (by kernel_rfl) (by simp) ?_
        refine AllReadyH.cons (o := { dst := some 37, op := Op.call { callee := Callee.value (Operand.func 9), args := #[Operand.tmp 35, Operand.tmp 36], argTypes := #[32, 3] }, type := 37, pos := "law.go:60", after := #[{ on := 0, ground := Ground.data }, { on := 1, ground := Ground.data }], guard := none }) rfl (fun K hK => ?_) (AllReadyH.nil)
        go_simp
        refine (D0.out _ (HN.out.more (by first | exact Only.drew _ wr))).mono ?_
        rintro e x1 ⟨rfl, ho⟩
        have HS1 : Hid (Only (fun _ => False) wr x1) := o2 (by first | exact Only.drew _ wr) ho
        clear ho
        refine hK.out _ _ (HS1.out) (fun hHeld => ?_)
        clear hK K
        try simp only [Act.put, List.setIfInBounds_toArray, List.set_cons_zero, List.set_cons_succ]
        refine wpAnyH_ready (rs := [5]) (by kernel_rfl) (by simp) ?_
        refine AllReadyH.cons (o := { dst := some 40, op := Op.call { callee := Callee.value (Operand.func 10), args := #[Operand.tmp 38, Operand.tmp 39], argTypes := #[32, 3] }, type := 37, pos := "law.go:60", after := #[{ on := 3, ground := Ground.data }, { on := 4, ground := Ground.data }, { on := 2, ground := Ground.chain }], guard := none }) rfl (fun K hK => ?_) (AllReadyH.nil)
        go_simp
        refine (D1.out _ (HN.out.more (by first | exact o2 HS1.out (Only.drew _ _) | exact HS1.out))).mono ?_
        rintro e x2 ⟨rfl, ho⟩
        have HS2 : Hid (Only (fun _ => False) wr x2) := o2 (by first | exact o2 HS1.out (Only.drew _ _) | exact HS1.out) ho
        clear ho
        refine hK.out _ _ (HS2.out) (fun hHeld => ?_)
        clear hK K
        try simp only [Act.put, List.setIfInBounds_toArray, List.set_cons_zero, List.set_cons_succ]
        refine wpAnyH_take (i := 6) (oi := { dst := some 41, op := Op.binOp BinOp.neq 37 (Operand.tmp 37) (Operand.tmp 40) 37, type := 4, pos := "law.go:60", after := #[{ on := 2, ground := Ground.data }, { on := 5, ground := Ground.data }], guard := none }) (v := .bool false) rfl (by kernel_rfl) (by kernel_rfl) (by kernel_rfl) (fun _ _ _ h => h) (Or.inl ⟨by rfl, fun w' hSw => by clear hSw; go_simp⟩) (by assumption) ?_
        simp only [Act.put, List.setIfInBounds_toArray, List.set_cons_zero, List.set_cons_succ]
        refine wpAnyH_take (i := 7) (oi := { dst := some 42, op := Op.move (Operand.tmp 41), type := 4, pos := "law.go:60", after := #[{ on := 6, ground := Ground.data }, { on := 5, ground := Ground.chain }], guard := none }) (v := .bool false) rfl (by kernel_rfl) (by kernel_rfl) (by kernel_rfl) (fun _ _ _ h => h) (Or.inl ⟨by rfl, fun w' hSw => by clear hSw; go_simp⟩) (by assumption) ?_
        simp only [Act.put, List.setIfInBounds_toArray, List.set_cons_zero, List.set_cons_succ]
        refine wpAnyH_take (i := 8) (oi := { dst := some 43, op := Op.load 32 (Operand.tmp 7), type := 32, pos := "law.go:60", after := #[{ on := 7, ground := Ground.guard }], guard := some (7, false) }) (v := .agg #[.int .i64 V1.m, .int .i64 V1.next, .slice q1.aA V1.act.length q1.cA, .int .i64 V1.own, .slice q1.aR V1.run.length q1.cR, .int .i64 V1.pg.lsn, .int .i64 V1.pg.kind, .int .i64 V1.pg.level, .int .i64 V1.pg.right, .string V1.pg.high, .slice q1.aP V1.pg.items.length q1.cP]) rfl (by kernel_rfl) (by kernel_rfl) (by kernel_rfl) (fun _ _ _ h => h) (yieldsIf_load_view (by rfl) _ rfl rfl (fun W hW => HB.out.more hW)) (by assumption) ?_
        simp only [Act.put, List.setIfInBounds_toArray, List.set_cons_zero, List.set_cons_succ]
        refine wpAnyH_take (i := 9) (oi := { dst := some 44, op := Op.move (Operand.tmp 10), type := 3, pos := "law.go:60", after := #[{ on := 7, ground := Ground.guard }], guard := some (7, false) }) (v := .int .i64 T.xmax) rfl (by kernel_rfl) (by kernel_rfl) (by kernel_rfl) (fun _ _ _ h => h) (Or.inl ⟨by rfl, fun w' hSw => by clear hSw; go_simp⟩) (by assumption) ?_
        simp only [Act.put, List.setIfInBounds_toArray, List.set_cons_zero, List.set_cons_succ]
        refine wpAnyH_take (i := 11) (oi := { dst := some 46, op := Op.load 32 (Operand.tmp 7), type := 32, pos := "law.go:60", after := #[{ on := 7, ground := Ground.guard }], guard := some (7, false) }) (v := .agg #[.int .i64 V1.m, .int .i64 V1.next, .slice q1.aA V1.act.length q1.cA, .int .i64 V1.own, .slice q1.aR V1.run.length q1.cR, .int .i64 V1.pg.lsn, .int .i64 V1.pg.kind, .int .i64 V1.pg.level, .int .i64 V1.pg.right, .string V1.pg.high, .slice q1.aP V1.pg.items.length q1.cP]) rfl (by kernel_rfl) (by kernel_rfl) (by kernel_rfl) (fun _ _ _ h => h) (yieldsIf_load_view (by rfl) _ rfl rfl (fun W hW => HB.out.more hW)) (by assumption) ?_
        simp only [Act.put, List.setIfInBounds_toArray, List.set_cons_zero, List.set_cons_succ]
        refine wpAnyH_take (i := 12) (oi := { dst := some 47, op := Op.move (Operand.tmp 10), type := 3, pos := "law.go:60", after := #[{ on := 7, ground := Ground.guard }], guard := some (7, false) }) (v := .int .i64 T.xmax) rfl (by kernel_rfl) (by kernel_rfl) (by kernel_rfl) (fun _ _ _ h => h) (Or.inl ⟨by rfl, fun w' hSw => by clear hSw; go_simp⟩) (by assumption) ?_
        simp only [Act.put, List.setIfInBounds_toArray, List.set_cons_zero, List.set_cons_succ]
        refine wpAnyH_ready (rs := [10]) (by kernel_rfl) (by simp) ?_
        refine AllReadyH.cons (o := { dst := some 45, op := Op.call { callee := Callee.value (Operand.func 11), args := #[Operand.tmp 43, Operand.tmp 44], argTypes := #[32, 3] }, type := 4, pos := "law.go:60", after := #[{ on := 8, ground := Ground.data }, { on := 9, ground := Ground.data }, { on := 7, ground := Ground.chain }, { on := 7, ground := Ground.guard }], guard := some (7, false) }) rfl (fun K hK => ?_) (AllReadyH.nil)
        go_simp
        refine (D2.out _ (HN.out.more (by first | exact o2 HS2.out (Only.drew _ _) | exact HS2.out))).mono ?_
        rintro e x3 ⟨rfl, ho⟩
        have HS3 : Hid (Only (fun _ => False) wr x3) := o2 (by first | exact o2 HS2.out (Only.drew _ _) | exact HS2.out) ho
        clear ho
        refine hK.out _ _ (HS3.out) (fun hHeld => ?_)
        clear hK K
        try simp only [Act.put, List.setIfInBounds_toArray, List.set_cons_zero, List.set_cons_succ]
        refine wpAnyH_ready (rs := [13]) (by kernel_rfl) (by simp) ?_
        refine AllReadyH.cons (o := { dst := some 48, op := Op.call { callee := Callee.value (Operand.func 12), args := #[Operand.tmp 46, Operand.tmp 47], argTypes := #[32, 3] }, type := 4, pos := "law.go:60", after := #[{ on := 11, ground := Ground.data }, { on := 12, ground := Ground.data }, { on := 10, ground := Ground.chain }, { on := 7, ground := Ground.guard }], guard := some (7, false) }) rfl (fun K hK => ?_) (AllReadyH.nil)
        go_simp
        refine (D3.out _ (HN.out.more (by first | exact o2 HS3.out (Only.drew _ _) | exact HS3.out))).mono ?_
        rintro e x4 ⟨rfl, ho⟩
        have HS4 : Hid (Only (fun _ => False) wr x4) := o2 (by first | exact o2 HS3.out (Only.drew _ _) | exact HS3.out) ho
        clear ho
        refine hK.out _ _ (HS4.out) (fun hHeld => ?_)
        clear hK K
        try simp only [Act.put, List.setIfInBounds_toArray, List.set_cons_zero, List.set_cons_succ]
        refine wpAnyH_take (i := 14) (oi := { dst := some 49, op := Op.binOp BinOp.neq 4 (Operand.tmp 45) (Operand.tmp 48) 4, type := 4, pos := "law.go:60", after := #[{ on := 10, ground := Ground.data }, { on := 13, ground := Ground.data }, { on := 7, ground := Ground.guard }], guard := some (7, false) }) (v := .bool false) rfl (by kernel_rfl) (by kernel_rfl) (by kernel_rfl) (fun _ _ _ h => h) (Or.inl ⟨by rfl, fun w' hSw => by clear hSw; go_simp⟩) (by assumption) ?_
        simp only [Act.put, List.setIfInBounds_toArray, List.set_cons_zero, List.set_cons_succ]
        refine wpAnyH_take (i := 15) (oi := { dst := some 50, op := Op.pick (Operand.tmp 42) (Operand.const (Value.bool true)) (Operand.tmp 49), type := 4, pos := "law.go:60", after := #[{ on := 7, ground := Ground.data }, { on := 14, ground := Ground.data }], guard := none }) (v := .bool false) rfl (by kernel_rfl) (by kernel_rfl) (by kernel_rfl) (fun _ _ _ h => h) (Or.inl ⟨by rfl, fun w' hSw => by clear hSw; go_simp⟩) (by assumption) ?_
        simp only [Act.put, List.setIfInBounds_toArray, List.set_cons_zero, List.set_cons_succ]
        refine wpAnyH_done (by kernel_rfl) ?_ _
        refine NoPanic.normal ?_
        go_wp2_with fail
        go_meet
        exact ⟨rfl, HS4⟩
      case rest =>
        obtain ⟨rfl, HS⟩ := hcut
        have HL2 := hide (o2 HL.out HS.out)
        go_wp2_with fail
        go_roundw
        case rel => exact ⟨2, by omega, rfl, HL2⟩
        case measure => simp [intOf]
    have e : i = 2 := by omega
    subst e
    clear h0 h1
    obtain ⟨rbc0, rbc1, rbc2, rbc3, rbc4, rbc5, rbc6, rbc7, rbc8, rbc9, rbc10, rbf0, rbf1, rbf2, rbf3, rbf4, rbf5, rbf6, rbf7, rbf8, rbf9, rbf10, rbl⟩ := HRB.out
    clear rbf0 rbf1 rbf2 rbf3 rbf4 rbf5 rbf6 rbf7 rbf8 rbf9 rbf10
    go_upto_region 11 with fail
    clear rbc0 rbc1 rbc2 rbc3 rbc4 rbc5 rbc6 rbc7 rbc8 rbc9 rbc10 rbl
    go_cut [12] (fun t wc => t = .bool true ∧ Hid (Only (fun _ => False) wr wc))
    case first =>
      refine wp_region_noPanic ?_
      refine wp_region_held_drew (S := fun W => Only (fun _ => False) wr W) (by kernel_rfl) (Only.drew _ wr) (fun hHeld => ?_)
      refine wpAnyH_take (i := 0) (oi := { dst := some 54, op := Op.load 32 (Operand.tmp 7), type := 32, pos := "law.go:65", after := #[], guard := none }) (v := .agg #[.int .i64 V1.m, .int .i64 V1.next, .slice q1.aA V1.act.length q1.cA, .int .i64 V1.own, .slice q1.aR V1.run.length q1.cR, .int .i64 V1.pg.lsn, .int .i64 V1.pg.kind, .int .i64 V1.pg.level, .int .i64 V1.pg.right, .string V1.pg.high, .slice q1.aP V1.pg.items.length q1.cP]) rfl (by kernel_rfl) (by kernel_rfl) (by kernel_rfl) (fun _ _ _ h => h) (yieldsIf_load_view (by rfl) _ rfl rfl (fun W hW => HB.out.more hW)) (by assumption) ?_
      simp only [Act.put, List.setIfInBounds_toArray, List.set_cons_zero, List.set_cons_succ]
      refine wpAnyH_take (i := 1) (oi := { dst := some 55, op := Op.load 34 (Operand.tmp 5), type := 34, pos := "law.go:65", after := #[], guard := none }) (v := .agg #[.int .i64 T.xmin, .int .i64 T.xmax, .bool T.fz, .string T.key, .string T.val]) rfl (by kernel_rfl) (by kernel_rfl) (by kernel_rfl) (fun _ _ _ h => h) (yieldsIf_load_tuple (by rfl) _ rfl rfl (fun W hW => HTB.out.more hW)) (by assumption) ?_
      simp only [Act.put, List.setIfInBounds_toArray, List.set_cons_zero, List.set_cons_succ]
      refine wpAnyH_take (i := 3) (oi := { dst := some 57, op := Op.load 32 (Operand.tmp 7), type := 32, pos := "law.go:65", after := #[], guard := none }) (v := .agg #[.int .i64 V1.m, .int .i64 V1.next, .slice q1.aA V1.act.length q1.cA, .int .i64 V1.own, .slice q1.aR V1.run.length q1.cR, .int .i64 V1.pg.lsn, .int .i64 V1.pg.kind, .int .i64 V1.pg.level, .int .i64 V1.pg.right, .string V1.pg.high, .slice q1.aP V1.pg.items.length q1.cP]) rfl (by kernel_rfl) (by kernel_rfl) (by kernel_rfl) (fun _ _ _ h => h) (yieldsIf_load_view (by rfl) _ rfl rfl (fun W hW => HB.out.more hW)) (by assumption) ?_
      simp only [Act.put, List.setIfInBounds_toArray, List.set_cons_zero, List.set_cons_succ]
      refine wpAnyH_take (i := 4) (oi := { dst := some 58, op := Op.load 34 (Operand.tmp 5), type := 34, pos := "law.go:65", after := #[], guard := none }) (v := .agg #[.int .i64 T.xmin, .int .i64 T.xmax, .bool T.fz, .string T.key, .string T.val]) rfl (by kernel_rfl) (by kernel_rfl) (by kernel_rfl) (fun _ _ _ h => h) (yieldsIf_load_tuple (by rfl) _ rfl rfl (fun W hW => HTB.out.more hW)) (by assumption) ?_
      simp only [Act.put, List.setIfInBounds_toArray, List.set_cons_zero, List.set_cons_succ]
      refine wpAnyH_ready (rs := [2]) (by kernel_rfl) (by simp) ?_
      refine AllReadyH.cons (o := { dst := some 56, op := Op.call { callee := Callee.value (Operand.func 13), args := #[Operand.tmp 54, Operand.tmp 55], argTypes := #[32, 34] }, type := 4, pos := "law.go:65", after := #[{ on := 0, ground := Ground.data }, { on := 1, ground := Ground.data }], guard := none }) rfl (fun K hK => ?_) (AllReadyH.nil)
      go_simp
      refine (E0.out _ (HN.out.more (by first | exact Only.drew _ wr))).mono ?_
      rintro e x1 ⟨rfl, ho⟩
      have HS1 : Hid (Only (fun _ => False) wr x1) := o2 (by first | exact Only.drew _ wr) ho
      clear ho
      refine hK.out _ _ (HS1.out) (fun hHeld => ?_)
      clear hK K
      try simp only [Act.put, List.setIfInBounds_toArray, List.set_cons_zero, List.set_cons_succ]
      refine wpAnyH_ready (rs := [5]) (by kernel_rfl) (by simp) ?_
      refine AllReadyH.cons (o := { dst := some 59, op := Op.call { callee := Callee.value (Operand.func 14), args := #[Operand.tmp 57, Operand.tmp 58], argTypes := #[32, 34] }, type := 4, pos := "law.go:65", after := #[{ on := 3, ground := Ground.data }, { on := 4, ground := Ground.data }, { on := 2, ground := Ground.chain }], guard := none }) rfl (fun K hK => ?_) (AllReadyH.nil)
      go_simp
      refine (E1.out _ (HN.out.more (by first | exact o2 HS1.out (Only.drew _ _) | exact HS1.out))).mono ?_
      rintro e x2 ⟨rfl, ho⟩
      have HS2 : Hid (Only (fun _ => False) wr x2) := o2 (by first | exact o2 HS1.out (Only.drew _ _) | exact HS1.out) ho
      clear ho
      refine hK.out _ _ (HS2.out) (fun hHeld => ?_)
      clear hK K
      try simp only [Act.put, List.setIfInBounds_toArray, List.set_cons_zero, List.set_cons_succ]
      refine wpAnyH_take (i := 6) (oi := { dst := some 60, op := Op.binOp BinOp.eql 4 (Operand.tmp 56) (Operand.tmp 59) 4, type := 4, pos := "law.go:65", after := #[{ on := 2, ground := Ground.data }, { on := 5, ground := Ground.data }], guard := none }) (v := .bool true) rfl (by kernel_rfl) (by kernel_rfl) (by kernel_rfl) (fun _ _ _ h => h) (Or.inl ⟨by rfl, fun w' hSw => by clear hSw; go_simp⟩) (by assumption) ?_
      simp only [Act.put, List.setIfInBounds_toArray, List.set_cons_zero, List.set_cons_succ]
      refine wpAnyH_take (i := 7) (oi := { dst := some 61, op := Op.move (Operand.tmp 60), type := 4, pos := "law.go:65", after := #[{ on := 6, ground := Ground.data }, { on := 5, ground := Ground.chain }], guard := none }) (v := .bool true) rfl (by kernel_rfl) (by kernel_rfl) (by kernel_rfl) (fun _ _ _ h => h) (Or.inl ⟨by rfl, fun w' hSw => by clear hSw; go_simp⟩) (by assumption) ?_
      simp only [Act.put, List.setIfInBounds_toArray, List.set_cons_zero, List.set_cons_succ]
      refine wpAnyH_take (i := 8) (oi := { dst := some 62, op := Op.load 32 (Operand.tmp 7), type := 32, pos := "law.go:65", after := #[{ on := 7, ground := Ground.guard }], guard := some (7, true) }) (v := .agg #[.int .i64 V1.m, .int .i64 V1.next, .slice q1.aA V1.act.length q1.cA, .int .i64 V1.own, .slice q1.aR V1.run.length q1.cR, .int .i64 V1.pg.lsn, .int .i64 V1.pg.kind, .int .i64 V1.pg.level, .int .i64 V1.pg.right, .string V1.pg.high, .slice q1.aP V1.pg.items.length q1.cP]) rfl (by kernel_rfl) (by kernel_rfl) (by kernel_rfl) (fun _ _ _ h => h) (yieldsIf_load_view (by rfl) _ rfl rfl (fun W hW => HB.out.more hW)) (by assumption) ?_
      simp only [Act.put, List.setIfInBounds_toArray, List.set_cons_zero, List.set_cons_succ]
      refine wpAnyH_take (i := 9) (oi := { dst := some 63, op := Op.load 34 (Operand.tmp 5), type := 34, pos := "law.go:65", after := #[{ on := 7, ground := Ground.guard }], guard := some (7, true) }) (v := .agg #[.int .i64 T.xmin, .int .i64 T.xmax, .bool T.fz, .string T.key, .string T.val]) rfl (by kernel_rfl) (by kernel_rfl) (by kernel_rfl) (fun _ _ _ h => h) (yieldsIf_load_tuple (by rfl) _ rfl rfl (fun W hW => HTB.out.more hW)) (by assumption) ?_
      simp only [Act.put, List.setIfInBounds_toArray, List.set_cons_zero, List.set_cons_succ]
      refine wpAnyH_take (i := 11) (oi := { dst := some 65, op := Op.load 32 (Operand.tmp 7), type := 32, pos := "law.go:65", after := #[{ on := 7, ground := Ground.guard }], guard := some (7, true) }) (v := .agg #[.int .i64 V1.m, .int .i64 V1.next, .slice q1.aA V1.act.length q1.cA, .int .i64 V1.own, .slice q1.aR V1.run.length q1.cR, .int .i64 V1.pg.lsn, .int .i64 V1.pg.kind, .int .i64 V1.pg.level, .int .i64 V1.pg.right, .string V1.pg.high, .slice q1.aP V1.pg.items.length q1.cP]) rfl (by kernel_rfl) (by kernel_rfl) (by kernel_rfl) (fun _ _ _ h => h) (yieldsIf_load_view (by rfl) _ rfl rfl (fun W hW => HB.out.more hW)) (by assumption) ?_
      simp only [Act.put, List.setIfInBounds_toArray, List.set_cons_zero, List.set_cons_succ]
      refine wpAnyH_take (i := 12) (oi := { dst := some 66, op := Op.load 34 (Operand.tmp 5), type := 34, pos := "law.go:65", after := #[{ on := 7, ground := Ground.guard }], guard := some (7, true) }) (v := .agg #[.int .i64 T.xmin, .int .i64 T.xmax, .bool T.fz, .string T.key, .string T.val]) rfl (by kernel_rfl) (by kernel_rfl) (by kernel_rfl) (fun _ _ _ h => h) (yieldsIf_load_tuple (by rfl) _ rfl rfl (fun W hW => HTB.out.more hW)) (by assumption) ?_
      simp only [Act.put, List.setIfInBounds_toArray, List.set_cons_zero, List.set_cons_succ]
      refine wpAnyH_ready (rs := [10]) (by kernel_rfl) (by simp) ?_
      refine AllReadyH.cons (o := { dst := some 64, op := Op.call { callee := Callee.value (Operand.func 15), args := #[Operand.tmp 62, Operand.tmp 63], argTypes := #[32, 34] }, type := 4, pos := "law.go:65", after := #[{ on := 8, ground := Ground.data }, { on := 9, ground := Ground.data }, { on := 7, ground := Ground.chain }, { on := 7, ground := Ground.guard }], guard := some (7, true) }) rfl (fun K hK => ?_) (AllReadyH.nil)
      go_simp
      refine (E2.out _ (HN.out.more (by first | exact o2 HS2.out (Only.drew _ _) | exact HS2.out))).mono ?_
      rintro e x3 ⟨rfl, ho⟩
      have HS3 : Hid (Only (fun _ => False) wr x3) := o2 (by first | exact o2 HS2.out (Only.drew _ _) | exact HS2.out) ho
      clear ho
      refine hK.out _ _ (HS3.out) (fun hHeld => ?_)
      clear hK K
      try simp only [Act.put, List.setIfInBounds_toArray, List.set_cons_zero, List.set_cons_succ]
      refine wpAnyH_ready (rs := [13]) (by kernel_rfl) (by simp) ?_
      refine AllReadyH.cons (o := { dst := some 67, op := Op.call { callee := Callee.value (Operand.func 16), args := #[Operand.tmp 65, Operand.tmp 66], argTypes := #[32, 34] }, type := 4, pos := "law.go:65", after := #[{ on := 11, ground := Ground.data }, { on := 12, ground := Ground.data }, { on := 10, ground := Ground.chain }, { on := 7, ground := Ground.guard }], guard := some (7, true) }) rfl (fun K hK => ?_) (AllReadyH.nil)
      go_simp
      refine (E3.out _ (HN.out.more (by first | exact o2 HS3.out (Only.drew _ _) | exact HS3.out))).mono ?_
      rintro e x4 ⟨rfl, ho⟩
      have HS4 : Hid (Only (fun _ => False) wr x4) := o2 (by first | exact o2 HS3.out (Only.drew _ _) | exact HS3.out) ho
      clear ho
      refine hK.out _ _ (HS4.out) (fun hHeld => ?_)
      clear hK K
      try simp only [Act.put, List.setIfInBounds_toArray, List.set_cons_zero, List.set_cons_succ]
      refine wpAnyH_take (i := 14) (oi := { dst := some 68, op := Op.binOp BinOp.eql 4 (Operand.tmp 64) (Operand.tmp 67) 4, type := 4, pos := "law.go:65", after := #[{ on := 10, ground := Ground.data }, { on := 13, ground := Ground.data }, { on := 7, ground := Ground.guard }], guard := some (7, true) }) (v := .bool true) rfl (by kernel_rfl) (by kernel_rfl) (by kernel_rfl) (fun _ _ _ h => h) (Or.inl ⟨by rfl, fun w' hSw => by clear hSw; go_simp⟩) (by assumption) ?_
      simp only [Act.put, List.setIfInBounds_toArray, List.set_cons_zero, List.set_cons_succ]
      refine wpAnyH_take (i := 15) (oi := { dst := some 69, op := Op.pick (Operand.tmp 61) (Operand.tmp 68) (Operand.const (Value.bool false)), type := 4, pos := "law.go:65", after := #[{ on := 7, ground := Ground.data }, { on := 14, ground := Ground.data }], guard := none }) (v := .bool true) rfl (by kernel_rfl) (by kernel_rfl) (by kernel_rfl) (fun _ _ _ h => h) (Or.inl ⟨by rfl, fun w' hSw => by clear hSw; go_simp⟩) (by assumption) ?_
      simp only [Act.put, List.setIfInBounds_toArray, List.set_cons_zero, List.set_cons_succ]
      refine wpAnyH_take (i := 16) (oi := { dst := some 12, op := Op.assign (Operand.tmp 69), type := 4, pos := "law.go:65", after := #[{ on := 15, ground := Ground.data }, { on := 13, ground := Ground.chain }, { on := 0, ground := Ground.phase }, { on := 1, ground := Ground.phase }, { on := 2, ground := Ground.phase }, { on := 3, ground := Ground.phase }, { on := 4, ground := Ground.phase }, { on := 5, ground := Ground.phase }, { on := 6, ground := Ground.phase }, { on := 7, ground := Ground.phase }, { on := 8, ground := Ground.phase }, { on := 9, ground := Ground.phase }, { on := 10, ground := Ground.phase }, { on := 11, ground := Ground.phase }, { on := 12, ground := Ground.phase }, { on := 13, ground := Ground.phase }, { on := 14, ground := Ground.phase }, { on := 15, ground := Ground.phase }], guard := none }) (v := .bool true) rfl (by kernel_rfl) (by kernel_rfl) (by kernel_rfl) (fun _ _ _ h => h) (Or.inl ⟨by rfl, fun w' hSw => by clear hSw; go_simp⟩) (by assumption) ?_
      simp only [Act.put, List.setIfInBounds_toArray, List.set_cons_zero, List.set_cons_succ]
      refine wpAnyH_done (by kernel_rfl) ?_ _
      refine NoPanic.normal ?_
      go_wp2_with fail
      go_meet
      exact ⟨rfl, HS4⟩
    case rest =>
      obtain ⟨rfl, HS⟩ := hcut
      have HTB := hide (HTB.out.more HS.out)
      have HB := hide (HB.out.more HS.out)
      have HN := hide (HN.out.more HS.out)
      have HO := hide (o2 HO.out HS.out)
      clear HS HRB
      go_upto_region 12 with fail
      go_cut [13] (fun t wd => t = .bool true ∧ Hid (Only (fun _ => False) wc wd))
      case first =>
        refine wp_region_noPanic ?_
        refine wp_region_held_drew (S := fun W => Only (fun _ => False) wc W) (by kernel_rfl) (Only.drew _ wc) (fun hHeld => ?_)
        refine wpAnyH_take (i := 0) (oi := { dst := some 70, op := Op.load 32 (Operand.tmp 7), type := 32, pos := "law.go:66", after := #[], guard := none }) (v := .agg #[.int .i64 V1.m, .int .i64 V1.next, .slice q1.aA V1.act.length q1.cA, .int .i64 V1.own, .slice q1.aR V1.run.length q1.cR, .int .i64 V1.pg.lsn, .int .i64 V1.pg.kind, .int .i64 V1.pg.level, .int .i64 V1.pg.right, .string V1.pg.high, .slice q1.aP V1.pg.items.length q1.cP]) rfl (by kernel_rfl) (by kernel_rfl) (by kernel_rfl) (fun _ _ _ h => h) (yieldsIf_load_view (by rfl) _ rfl rfl (fun W hW => HB.out.more hW)) (by assumption) ?_
        simp only [Act.put, List.setIfInBounds_toArray, List.set_cons_zero, List.set_cons_succ]
        refine wpAnyH_take (i := 1) (oi := { dst := some 71, op := Op.load 34 (Operand.tmp 5), type := 34, pos := "law.go:66", after := #[], guard := none }) (v := .agg #[.int .i64 T.xmin, .int .i64 T.xmax, .bool T.fz, .string T.key, .string T.val]) rfl (by kernel_rfl) (by kernel_rfl) (by kernel_rfl) (fun _ _ _ h => h) (yieldsIf_load_tuple (by rfl) _ rfl rfl (fun W hW => HTB.out.more hW)) (by assumption) ?_
        simp only [Act.put, List.setIfInBounds_toArray, List.set_cons_zero, List.set_cons_succ]
        refine wpAnyH_take (i := 2) (oi := { dst := some 72, op := Op.move (Operand.tmp 11), type := 3, pos := "law.go:66", after := #[], guard := none }) (v := .int .i64 V.next) rfl (by kernel_rfl) (by kernel_rfl) (by kernel_rfl) (fun _ _ _ h => h) (Or.inl ⟨by rfl, fun w' hSw => by clear hSw; go_simp⟩) (by assumption) ?_
        simp only [Act.put, List.setIfInBounds_toArray, List.set_cons_zero, List.set_cons_succ]
        refine wpAnyH_take (i := 4) (oi := { dst := some 74, op := Op.load 32 (Operand.tmp 7), type := 32, pos := "law.go:66", after := #[], guard := none }) (v := .agg #[.int .i64 V1.m, .int .i64 V1.next, .slice q1.aA V1.act.length q1.cA, .int .i64 V1.own, .slice q1.aR V1.run.length q1.cR, .int .i64 V1.pg.lsn, .int .i64 V1.pg.kind, .int .i64 V1.pg.level, .int .i64 V1.pg.right, .string V1.pg.high, .slice q1.aP V1.pg.items.length q1.cP]) rfl (by kernel_rfl) (by kernel_rfl) (by kernel_rfl) (fun _ _ _ h => h) (yieldsIf_load_view (by rfl) _ rfl rfl (fun W hW => HB.out.more hW)) (by assumption) ?_
        simp only [Act.put, List.setIfInBounds_toArray, List.set_cons_zero, List.set_cons_succ]
        refine wpAnyH_take (i := 5) (oi := { dst := some 75, op := Op.load 34 (Operand.tmp 5), type := 34, pos := "law.go:66", after := #[], guard := none }) (v := .agg #[.int .i64 T.xmin, .int .i64 T.xmax, .bool T.fz, .string T.key, .string T.val]) rfl (by kernel_rfl) (by kernel_rfl) (by kernel_rfl) (fun _ _ _ h => h) (yieldsIf_load_tuple (by rfl) _ rfl rfl (fun W hW => HTB.out.more hW)) (by assumption) ?_
        simp only [Act.put, List.setIfInBounds_toArray, List.set_cons_zero, List.set_cons_succ]
        refine wpAnyH_take (i := 6) (oi := { dst := some 76, op := Op.move (Operand.tmp 11), type := 3, pos := "law.go:66", after := #[], guard := none }) (v := .int .i64 V.next) rfl (by kernel_rfl) (by kernel_rfl) (by kernel_rfl) (fun _ _ _ h => h) (Or.inl ⟨by rfl, fun w' hSw => by clear hSw; go_simp⟩) (by assumption) ?_
        simp only [Act.put, List.setIfInBounds_toArray, List.set_cons_zero, List.set_cons_succ]
        refine wpAnyH_ready (rs := [3]) (by kernel_rfl) (by simp) ?_
        refine AllReadyH.cons (o := { dst := some 73, op := Op.call { callee := Callee.value (Operand.func 17), args := #[Operand.tmp 70, Operand.tmp 71, Operand.tmp 72], argTypes := #[32, 34, 3] }, type := 4, pos := "law.go:66", after := #[{ on := 0, ground := Ground.data }, { on := 1, ground := Ground.data }, { on := 2, ground := Ground.data }], guard := none }) rfl (fun K hK => ?_) (AllReadyH.nil)
        go_simp
        refine (F0.out _ (HN.out.more (by first | exact Only.drew _ wc))).mono ?_
        rintro e x1 ⟨rfl, ho⟩
        have HS1 : Hid (Only (fun _ => False) wc x1) := o2 (by first | exact Only.drew _ wc) ho
        clear ho
        refine hK.out _ _ (HS1.out) (fun hHeld => ?_)
        clear hK K
        try simp only [Act.put, List.setIfInBounds_toArray, List.set_cons_zero, List.set_cons_succ]
        refine wpAnyH_ready (rs := [7]) (by kernel_rfl) (by simp) ?_
        refine AllReadyH.cons (o := { dst := some 77, op := Op.call { callee := Callee.value (Operand.func 18), args := #[Operand.tmp 74, Operand.tmp 75, Operand.tmp 76], argTypes := #[32, 34, 3] }, type := 4, pos := "law.go:66", after := #[{ on := 4, ground := Ground.data }, { on := 5, ground := Ground.data }, { on := 6, ground := Ground.data }, { on := 3, ground := Ground.chain }], guard := none }) rfl (fun K hK => ?_) (AllReadyH.nil)
        go_simp
        refine (F1.out _ (HN.out.more (by first | exact o2 HS1.out (Only.drew _ _) | exact HS1.out))).mono ?_
        rintro e x2 ⟨rfl, ho⟩
        have HS2 : Hid (Only (fun _ => False) wc x2) := o2 (by first | exact o2 HS1.out (Only.drew _ _) | exact HS1.out) ho
        clear ho
        refine hK.out _ _ (HS2.out) (fun hHeld => ?_)
        clear hK K
        try simp only [Act.put, List.setIfInBounds_toArray, List.set_cons_zero, List.set_cons_succ]
        refine wpAnyH_take (i := 8) (oi := { dst := some 78, op := Op.binOp BinOp.eql 4 (Operand.tmp 73) (Operand.tmp 77) 4, type := 4, pos := "law.go:66", after := #[{ on := 3, ground := Ground.data }, { on := 7, ground := Ground.data }], guard := none }) (v := .bool true) rfl (by kernel_rfl) (by kernel_rfl) (by kernel_rfl) (fun _ _ _ h => h) (Or.inl ⟨by rfl, fun w' hSw => by clear hSw; go_simp⟩) (by assumption) ?_
        simp only [Act.put, List.setIfInBounds_toArray, List.set_cons_zero, List.set_cons_succ]
        refine wpAnyH_take (i := 9) (oi := { dst := some 79, op := Op.move (Operand.tmp 78), type := 4, pos := "law.go:66", after := #[{ on := 8, ground := Ground.data }, { on := 7, ground := Ground.chain }], guard := none }) (v := .bool true) rfl (by kernel_rfl) (by kernel_rfl) (by kernel_rfl) (fun _ _ _ h => h) (Or.inl ⟨by rfl, fun w' hSw => by clear hSw; go_simp⟩) (by assumption) ?_
        simp only [Act.put, List.setIfInBounds_toArray, List.set_cons_zero, List.set_cons_succ]
        refine wpAnyH_take (i := 10) (oi := { dst := some 80, op := Op.load 32 (Operand.tmp 7), type := 32, pos := "law.go:66", after := #[{ on := 9, ground := Ground.guard }], guard := some (9, true) }) (v := .agg #[.int .i64 V1.m, .int .i64 V1.next, .slice q1.aA V1.act.length q1.cA, .int .i64 V1.own, .slice q1.aR V1.run.length q1.cR, .int .i64 V1.pg.lsn, .int .i64 V1.pg.kind, .int .i64 V1.pg.level, .int .i64 V1.pg.right, .string V1.pg.high, .slice q1.aP V1.pg.items.length q1.cP]) rfl (by kernel_rfl) (by kernel_rfl) (by kernel_rfl) (fun _ _ _ h => h) (yieldsIf_load_view (by rfl) _ rfl rfl (fun W hW => HB.out.more hW)) (by assumption) ?_
        simp only [Act.put, List.setIfInBounds_toArray, List.set_cons_zero, List.set_cons_succ]
        refine wpAnyH_take (i := 11) (oi := { dst := some 81, op := Op.load 34 (Operand.tmp 5), type := 34, pos := "law.go:66", after := #[{ on := 9, ground := Ground.guard }], guard := some (9, true) }) (v := .agg #[.int .i64 T.xmin, .int .i64 T.xmax, .bool T.fz, .string T.key, .string T.val]) rfl (by kernel_rfl) (by kernel_rfl) (by kernel_rfl) (fun _ _ _ h => h) (yieldsIf_load_tuple (by rfl) _ rfl rfl (fun W hW => HTB.out.more hW)) (by assumption) ?_
        simp only [Act.put, List.setIfInBounds_toArray, List.set_cons_zero, List.set_cons_succ]
        refine wpAnyH_take (i := 12) (oi := { dst := some 82, op := Op.move (Operand.tmp 11), type := 3, pos := "law.go:66", after := #[{ on := 9, ground := Ground.guard }], guard := some (9, true) }) (v := .int .i64 V.next) rfl (by kernel_rfl) (by kernel_rfl) (by kernel_rfl) (fun _ _ _ h => h) (Or.inl ⟨by rfl, fun w' hSw => by clear hSw; go_simp⟩) (by assumption) ?_
        simp only [Act.put, List.setIfInBounds_toArray, List.set_cons_zero, List.set_cons_succ]
        refine wpAnyH_take (i := 14) (oi := { dst := some 84, op := Op.load 32 (Operand.tmp 7), type := 32, pos := "law.go:66", after := #[{ on := 9, ground := Ground.guard }], guard := some (9, true) }) (v := .agg #[.int .i64 V1.m, .int .i64 V1.next, .slice q1.aA V1.act.length q1.cA, .int .i64 V1.own, .slice q1.aR V1.run.length q1.cR, .int .i64 V1.pg.lsn, .int .i64 V1.pg.kind, .int .i64 V1.pg.level, .int .i64 V1.pg.right, .string V1.pg.high, .slice q1.aP V1.pg.items.length q1.cP]) rfl (by kernel_rfl) (by kernel_rfl) (by kernel_rfl) (fun _ _ _ h => h) (yieldsIf_load_view (by rfl) _ rfl rfl (fun W hW => HB.out.more hW)) (by assumption) ?_
        simp only [Act.put, List.setIfInBounds_toArray, List.set_cons_zero, List.set_cons_succ]
        refine wpAnyH_take (i := 15) (oi := { dst := some 85, op := Op.load 34 (Operand.tmp 5), type := 34, pos := "law.go:66", after := #[{ on := 9, ground := Ground.guard }], guard := some (9, true) }) (v := .agg #[.int .i64 T.xmin, .int .i64 T.xmax, .bool T.fz, .string T.key, .string T.val]) rfl (by kernel_rfl) (by kernel_rfl) (by kernel_rfl) (fun _ _ _ h => h) (yieldsIf_load_tuple (by rfl) _ rfl rfl (fun W hW => HTB.out.more hW)) (by assumption) ?_
        simp only [Act.put, List.setIfInBounds_toArray, List.set_cons_zero, List.set_cons_succ]
        refine wpAnyH_take (i := 16) (oi := { dst := some 86, op := Op.move (Operand.tmp 11), type := 3, pos := "law.go:66", after := #[{ on := 9, ground := Ground.guard }], guard := some (9, true) }) (v := .int .i64 V.next) rfl (by kernel_rfl) (by kernel_rfl) (by kernel_rfl) (fun _ _ _ h => h) (Or.inl ⟨by rfl, fun w' hSw => by clear hSw; go_simp⟩) (by assumption) ?_
        simp only [Act.put, List.setIfInBounds_toArray, List.set_cons_zero, List.set_cons_succ]
        refine wpAnyH_ready (rs := [13]) (by kernel_rfl) (by simp) ?_
        refine AllReadyH.cons (o := { dst := some 83, op := Op.call { callee := Callee.value (Operand.func 19), args := #[Operand.tmp 80, Operand.tmp 81, Operand.tmp 82], argTypes := #[32, 34, 3] }, type := 4, pos := "law.go:66", after := #[{ on := 10, ground := Ground.data }, { on := 11, ground := Ground.data }, { on := 12, ground := Ground.data }, { on := 9, ground := Ground.chain }, { on := 9, ground := Ground.guard }], guard := some (9, true) }) rfl (fun K hK => ?_) (AllReadyH.nil)
        go_simp
        refine (F2.out _ (HN.out.more (by first | exact o2 HS2.out (Only.drew _ _) | exact HS2.out))).mono ?_
        rintro e x3 ⟨rfl, ho⟩
        have HS3 : Hid (Only (fun _ => False) wc x3) := o2 (by first | exact o2 HS2.out (Only.drew _ _) | exact HS2.out) ho
        clear ho
        refine hK.out _ _ (HS3.out) (fun hHeld => ?_)
        clear hK K
        try simp only [Act.put, List.setIfInBounds_toArray, List.set_cons_zero, List.set_cons_succ]
        refine wpAnyH_ready (rs := [17]) (by kernel_rfl) (by simp) ?_
        refine AllReadyH.cons (o := { dst := some 87, op := Op.call { callee := Callee.value (Operand.func 20), args := #[Operand.tmp 84, Operand.tmp 85, Operand.tmp 86], argTypes := #[32, 34, 3] }, type := 4, pos := "law.go:66", after := #[{ on := 14, ground := Ground.data }, { on := 15, ground := Ground.data }, { on := 16, ground := Ground.data }, { on := 13, ground := Ground.chain }, { on := 9, ground := Ground.guard }], guard := some (9, true) }) rfl (fun K hK => ?_) (AllReadyH.nil)
        go_simp
        refine (F3.out _ (HN.out.more (by first | exact o2 HS3.out (Only.drew _ _) | exact HS3.out))).mono ?_
        rintro e x4 ⟨rfl, ho⟩
        have HS4 : Hid (Only (fun _ => False) wc x4) := o2 (by first | exact o2 HS3.out (Only.drew _ _) | exact HS3.out) ho
        clear ho
        refine hK.out _ _ (HS4.out) (fun hHeld => ?_)
        clear hK K
        try simp only [Act.put, List.setIfInBounds_toArray, List.set_cons_zero, List.set_cons_succ]
        refine wpAnyH_take (i := 18) (oi := { dst := some 88, op := Op.binOp BinOp.eql 4 (Operand.tmp 83) (Operand.tmp 87) 4, type := 4, pos := "law.go:66", after := #[{ on := 13, ground := Ground.data }, { on := 17, ground := Ground.data }, { on := 9, ground := Ground.guard }], guard := some (9, true) }) (v := .bool true) rfl (by kernel_rfl) (by kernel_rfl) (by kernel_rfl) (fun _ _ _ h => h) (Or.inl ⟨by rfl, fun w' hSw => by clear hSw; go_simp⟩) (by assumption) ?_
        simp only [Act.put, List.setIfInBounds_toArray, List.set_cons_zero, List.set_cons_succ]
        refine wpAnyH_take (i := 19) (oi := { dst := some 89, op := Op.pick (Operand.tmp 79) (Operand.tmp 88) (Operand.const (Value.bool false)), type := 4, pos := "law.go:66", after := #[{ on := 9, ground := Ground.data }, { on := 18, ground := Ground.data }], guard := none }) (v := .bool true) rfl (by kernel_rfl) (by kernel_rfl) (by kernel_rfl) (fun _ _ _ h => h) (Or.inl ⟨by rfl, fun w' hSw => by clear hSw; go_simp⟩) (by assumption) ?_
        simp only [Act.put, List.setIfInBounds_toArray, List.set_cons_zero, List.set_cons_succ]
        refine wpAnyH_take (i := 20) (oi := { dst := some 90, op := Op.move (Operand.tmp 89), type := 4, pos := "law.go:66", after := #[{ on := 19, ground := Ground.data }, { on := 17, ground := Ground.chain }], guard := none }) (v := .bool true) rfl (by kernel_rfl) (by kernel_rfl) (by kernel_rfl) (fun _ _ _ h => h) (Or.inl ⟨by rfl, fun w' hSw => by clear hSw; go_simp⟩) (by assumption) ?_
        simp only [Act.put, List.setIfInBounds_toArray, List.set_cons_zero, List.set_cons_succ]
        refine wpAnyH_take (i := 21) (oi := { dst := some 91, op := Op.load 32 (Operand.tmp 7), type := 32, pos := "law.go:66", after := #[{ on := 20, ground := Ground.guard }], guard := some (20, true) }) (v := .agg #[.int .i64 V1.m, .int .i64 V1.next, .slice q1.aA V1.act.length q1.cA, .int .i64 V1.own, .slice q1.aR V1.run.length q1.cR, .int .i64 V1.pg.lsn, .int .i64 V1.pg.kind, .int .i64 V1.pg.level, .int .i64 V1.pg.right, .string V1.pg.high, .slice q1.aP V1.pg.items.length q1.cP]) rfl (by kernel_rfl) (by kernel_rfl) (by kernel_rfl) (fun _ _ _ h => h) (yieldsIf_load_view (by rfl) _ rfl rfl (fun W hW => HB.out.more hW)) (by assumption) ?_
        simp only [Act.put, List.setIfInBounds_toArray, List.set_cons_zero, List.set_cons_succ]
        refine wpAnyH_take (i := 22) (oi := { dst := some 92, op := Op.load 34 (Operand.tmp 5), type := 34, pos := "law.go:66", after := #[{ on := 20, ground := Ground.guard }], guard := some (20, true) }) (v := .agg #[.int .i64 T.xmin, .int .i64 T.xmax, .bool T.fz, .string T.key, .string T.val]) rfl (by kernel_rfl) (by kernel_rfl) (by kernel_rfl) (fun _ _ _ h => h) (yieldsIf_load_tuple (by rfl) _ rfl rfl (fun W hW => HTB.out.more hW)) (by assumption) ?_
        simp only [Act.put, List.setIfInBounds_toArray, List.set_cons_zero, List.set_cons_succ]
        refine wpAnyH_take (i := 24) (oi := { dst := some 94, op := Op.load 32 (Operand.tmp 7), type := 32, pos := "law.go:66", after := #[{ on := 20, ground := Ground.guard }], guard := some (20, true) }) (v := .agg #[.int .i64 V1.m, .int .i64 V1.next, .slice q1.aA V1.act.length q1.cA, .int .i64 V1.own, .slice q1.aR V1.run.length q1.cR, .int .i64 V1.pg.lsn, .int .i64 V1.pg.kind, .int .i64 V1.pg.level, .int .i64 V1.pg.right, .string V1.pg.high, .slice q1.aP V1.pg.items.length q1.cP]) rfl (by kernel_rfl) (by kernel_rfl) (by kernel_rfl) (fun _ _ _ h => h) (yieldsIf_load_view (by rfl) _ rfl rfl (fun W hW => HB.out.more hW)) (by assumption) ?_
        simp only [Act.put, List.setIfInBounds_toArray, List.set_cons_zero, List.set_cons_succ]
        refine wpAnyH_take (i := 25) (oi := { dst := some 95, op := Op.load 34 (Operand.tmp 5), type := 34, pos := "law.go:66", after := #[{ on := 20, ground := Ground.guard }], guard := some (20, true) }) (v := .agg #[.int .i64 T.xmin, .int .i64 T.xmax, .bool T.fz, .string T.key, .string T.val]) rfl (by kernel_rfl) (by kernel_rfl) (by kernel_rfl) (fun _ _ _ h => h) (yieldsIf_load_tuple (by rfl) _ rfl rfl (fun W hW => HTB.out.more hW)) (by assumption) ?_
        simp only [Act.put, List.setIfInBounds_toArray, List.set_cons_zero, List.set_cons_succ]
        refine wpAnyH_ready (rs := [23]) (by kernel_rfl) (by simp) ?_
        refine AllReadyH.cons (o := { dst := some 93, op := Op.call { callee := Callee.value (Operand.func 21), args := #[Operand.tmp 91, Operand.tmp 92], argTypes := #[32, 34] }, type := 4, pos := "law.go:66", after := #[{ on := 21, ground := Ground.data }, { on := 22, ground := Ground.data }, { on := 20, ground := Ground.chain }, { on := 20, ground := Ground.guard }], guard := some (20, true) }) rfl (fun K hK => ?_) (AllReadyH.nil)
        go_simp
        refine (F4.out _ (HN.out.more (by first | exact o2 HS4.out (Only.drew _ _) | exact HS4.out))).mono ?_
        rintro e x5 ⟨rfl, ho⟩
        have HS5 : Hid (Only (fun _ => False) wc x5) := o2 (by first | exact o2 HS4.out (Only.drew _ _) | exact HS4.out) ho
        clear ho
        refine hK.out _ _ (HS5.out) (fun hHeld => ?_)
        clear hK K
        try simp only [Act.put, List.setIfInBounds_toArray, List.set_cons_zero, List.set_cons_succ]
        refine wpAnyH_ready (rs := [26]) (by kernel_rfl) (by simp) ?_
        refine AllReadyH.cons (o := { dst := some 96, op := Op.call { callee := Callee.value (Operand.func 22), args := #[Operand.tmp 94, Operand.tmp 95], argTypes := #[32, 34] }, type := 4, pos := "law.go:66", after := #[{ on := 24, ground := Ground.data }, { on := 25, ground := Ground.data }, { on := 23, ground := Ground.chain }, { on := 20, ground := Ground.guard }], guard := some (20, true) }) rfl (fun K hK => ?_) (AllReadyH.nil)
        go_simp
        refine (F5.out _ (HN.out.more (by first | exact o2 HS5.out (Only.drew _ _) | exact HS5.out))).mono ?_
        rintro e x6 ⟨rfl, ho⟩
        have HS6 : Hid (Only (fun _ => False) wc x6) := o2 (by first | exact o2 HS5.out (Only.drew _ _) | exact HS5.out) ho
        clear ho
        refine hK.out _ _ (HS6.out) (fun hHeld => ?_)
        clear hK K
        try simp only [Act.put, List.setIfInBounds_toArray, List.set_cons_zero, List.set_cons_succ]
        refine wpAnyH_take (i := 27) (oi := { dst := some 97, op := Op.binOp BinOp.eql 4 (Operand.tmp 93) (Operand.tmp 96) 4, type := 4, pos := "law.go:66", after := #[{ on := 23, ground := Ground.data }, { on := 26, ground := Ground.data }, { on := 20, ground := Ground.guard }], guard := some (20, true) }) (v := .bool true) rfl (by kernel_rfl) (by kernel_rfl) (by kernel_rfl) (fun _ _ _ h => h) (Or.inl ⟨by rfl, fun w' hSw => by clear hSw; go_simp⟩) (by assumption) ?_
        simp only [Act.put, List.setIfInBounds_toArray, List.set_cons_zero, List.set_cons_succ]
        refine wpAnyH_take (i := 28) (oi := { dst := some 98, op := Op.pick (Operand.tmp 90) (Operand.tmp 97) (Operand.const (Value.bool false)), type := 4, pos := "law.go:66", after := #[{ on := 20, ground := Ground.data }, { on := 27, ground := Ground.data }], guard := none }) (v := .bool true) rfl (by kernel_rfl) (by kernel_rfl) (by kernel_rfl) (fun _ _ _ h => h) (Or.inl ⟨by rfl, fun w' hSw => by clear hSw; go_simp⟩) (by assumption) ?_
        simp only [Act.put, List.setIfInBounds_toArray, List.set_cons_zero, List.set_cons_succ]
        refine wpAnyH_take (i := 29) (oi := { dst := some 13, op := Op.assign (Operand.tmp 98), type := 4, pos := "law.go:66", after := #[{ on := 28, ground := Ground.data }, { on := 26, ground := Ground.chain }, { on := 0, ground := Ground.phase }, { on := 1, ground := Ground.phase }, { on := 2, ground := Ground.phase }, { on := 3, ground := Ground.phase }, { on := 4, ground := Ground.phase }, { on := 5, ground := Ground.phase }, { on := 6, ground := Ground.phase }, { on := 7, ground := Ground.phase }, { on := 8, ground := Ground.phase }, { on := 9, ground := Ground.phase }, { on := 10, ground := Ground.phase }, { on := 11, ground := Ground.phase }, { on := 12, ground := Ground.phase }, { on := 13, ground := Ground.phase }, { on := 14, ground := Ground.phase }, { on := 15, ground := Ground.phase }, { on := 16, ground := Ground.phase }, { on := 17, ground := Ground.phase }, { on := 18, ground := Ground.phase }, { on := 19, ground := Ground.phase }, { on := 20, ground := Ground.phase }, { on := 21, ground := Ground.phase }, { on := 22, ground := Ground.phase }, { on := 23, ground := Ground.phase }, { on := 24, ground := Ground.phase }, { on := 25, ground := Ground.phase }, { on := 26, ground := Ground.phase }, { on := 27, ground := Ground.phase }, { on := 28, ground := Ground.phase }], guard := none }) (v := .bool true) rfl (by kernel_rfl) (by kernel_rfl) (by kernel_rfl) (fun _ _ _ h => h) (Or.inl ⟨by rfl, fun w' hSw => by clear hSw; go_simp⟩) (by assumption) ?_
        simp only [Act.put, List.setIfInBounds_toArray, List.set_cons_zero, List.set_cons_succ]
        refine wpAnyH_done (by kernel_rfl) ?_ _
        refine NoPanic.normal ?_
        go_wp2_with fail
        go_meet
        exact ⟨rfl, HS6⟩
      case rest =>
        obtain ⟨rfl, HS⟩ := hcut
        have HO := hide (o2 HO.out HS.out)
        go_wp2_with fail
        refine (sawake_any _).mono ?_
        rintro e w9 ⟨rfl, ho⟩
        have HO := hide (o2 HO.out ho)
        clear ho
        go_wp2_with fail
        go_ret
        exact ⟨rfl, HO.out⟩
end Go.Proofs.YtolfmodgkkjnbaaGreat
