/- Parts. -/
import Derived.Test.YtajjakljheafjaaGreatK22
set_option maxRecDepth 100000
namespace Go.Proofs.YtajjakljheafjaaGreat
open Go.RowKit
theorem Tryz.sizePlan : (Tryz.prog.info? 96).map (·.size) = some 28 := by kernel_rfl
theorem run_build_over (w : World) (e : Int) (f : Bool) (v : ByteArray) (ra : Option Addr) (n rc : Nat) (p : Nat) (L : List (ByteArray × ByteArray)) (hn : L.length = n) :
    (Instr.build 96 #[(2, .agg #[.int .i64 4, .string ⟨#[]⟩, .int .i64 0, .int .i64 0]), (8, .agg #[.int .i64 e, .bool f, .string v, .slice ra n rc])]).run Tryz.prog w = .ok (.agg ((Pn.over e f v ra L rc).cl p).toArray) w := by
  subst hn
  exact run_build w 96 _ _ (by kernel_rfl)
section
variable {ops : Array Oper} {rest : List Oper} {o : Oper} {a : Act} {w : World} {Q : Exit → Act → World → Prop}
theorem wpList_build_over (hg : o.guard = none) (a2 a8 : Operand) (hop : o.op = .build 96 #[(2, a2), (8, a8)]) (e : Int) (f : Bool) (v : ByteArray) (ra : Option Addr) (n rc : Nat) (p : Nat) (L : List (ByteArray × ByteArray)) (hn : L.length = n) (h2 : a.eval a2 = .agg #[.int .i64 4, .string ⟨#[]⟩, .int .i64 0, .int .i64 0]) (h8 : a.eval a8 = .agg #[.int .i64 e, .bool f, .string v, .slice ra n rc])
    (h : wpList Tryz.prog ops Q rest (a.put o.dst (.agg ((Pn.over e f v ra L rc).cl p).toArray)) w) : wpList Tryz.prog ops Q (o :: rest) a w := by
  refine wpList_plain hg fun K hK => ?_
  unfold Oper.wp execOp
  have e : (#[(2, a2), (8, a8)] : Array (Nat × Operand)).map (fun x => (x.1, a.eval x.2)) = #[(2, .agg #[.int .i64 4, .string ⟨#[]⟩, .int .i64 0, .int .i64 0]), (8, .agg #[.int .i64 e, .bool f, .string v, .slice ra n rc])] := by
    simp only [List.map_toArray, List.map_cons, List.map_nil, h2, h8]
  simp only [hop, e, Sem.run_bind, Sem.run_pure, Result.andThen_ok, run_build_over w _ f v ra n rc p L hn]
  exact hK _ _ h
theorem wpList_put_plan (hg : o.guard = none) (x y : Operand) (hop : o.op = .store 96 x y) (b : Nat) (hx : a.eval x = .pointer (some ⟨b, 0, none⟩)) (cs : List Value) (hl : cs.length = 28) (ds : List Value) (hd : ds.length = 28) (ho : ds.all Value.oneCell' = true) (hy : a.eval y = .agg ds.toArray) (hc : Cb w b cs)
    (h : ∀ W, Hid (Cb W b ds ∧ Only (fun k => k = b) w W) → wpList Tryz.prog ops Q rest (a.put o.dst undef) W) : wpList Tryz.prog ops Q (o :: rest) a w :=
  wpList_store_mid hg 96 x y hop b 0 ds.toArray hx hy (by have := hc.rg.there; rw [hl] at this; simpa [hd] using this) (by simpa [hd] using Tryz.sizePlan) (by simpa using ho) (h _ ⟨by
    have q := Cb.sets (c1 := []) (c2 := cs) (c3 := []) (by simpa using hc) ds (by rw [hl, hd])
    simpa using q, only_setCells _ _ _ _⟩)
end
theorem wants_any (w : World) (Z : Nat → Prop) (p : Nat) (P : Pn) (h : Pm w Z p P) (k : Int) :
    Calls Tryz.prog 30 #[.pointer (some ⟨p, 0, none⟩), .int .i64 k] w fun e w' => e = .returned (.bool (P.wk == k)) ∧ w' = w := by
  have c6 := h.cb.c 6 _ rfl
  clear h
  go_enter Tryz.func30, Tryz.ntmps30
  go_wp2_with fail
  go_ret
  exact ⟨rfl, rfl⟩
theorem wants_nil (w : World) (k : Int) :
    Calls Tryz.prog 30 #[.pointer none, .int .i64 k] w fun e w' => e = .returned (.bool false) ∧ w' = w := by
  go_enter Tryz.func30, Tryz.ntmps30
  go_wp2_with fail
  go_ret
  exact ⟨rfl, rfl⟩
theorem Op.none {p : Nat} {w w1 w2 : World} (h : Only (fun _ => False) w w1) (k : Only (fun k => k = p) w1 w2) : Only (fun k => k = p) w w2 := (h.mono (fun _ _ e => e.elim)).trans k (fun _ _ h => h)
theorem Op.two {p : Nat} {w w1 w2 : World} (h : Only (fun k => k = p) w w1) (k : Only (fun k => k = p) w1 w2) : Only (fun k => k = p) w w2 := h.trans k (fun _ _ h => h)
theorem Op.fst {p : Nat} {w w1 w2 : World} (h : Only (fun k => k = p) w w1) (k : Only (fun _ => False) w1 w2) : Only (fun k => k = p) w w2 := h.trans k (fun _ _ h => h.elim)
/-- A block of one's own, behind what was there, is written. -/
theorem Op.own {p b : Nat} {w w1 w2 : World} (h : Only (fun k => k = p) w w1) (k : Only (fun k => k = b) w1 w2) (hb : w.heap.size ≤ b) : Only (fun k => k = p) w w2 := h.trans k (fun i hi e => by omega)
/-- Whether the call is one that changes its key. -/
def Pn.chg (P : Pn) : Bool := P.call == 3 || P.call == 4
theorem changes_any (w : World) (Z : Nat → Prop) (p : Nat) (P : Pn) (h : Pm w Z p P) :
    Calls Tryz.prog 26 #[.pointer (some ⟨p, 0, none⟩)] w fun e w' => e = .returned (.bool P.chg) ∧ w' = w := by
  have c0 := h.cb.c 0 _ rfl
  clear h
  unfold Pn.chg
  cases hb : (P.call == 3)
  · go_enter Tryz.func26, Tryz.ntmps26
    go_wp2_with fail
    go_ret
    exact ⟨rfl, rfl⟩
  · go_enter Tryz.func26, Tryz.ntmps26
    go_wp2_with fail
    go_ret
    exact ⟨rfl, rfl⟩
/-- No record. -/
def noRec : Value := .tuple #[.agg Hr.none.cells, .bool false]
theorem nothing_any (w : World) : Calls Tryz.prog 31 #[] w fun e w' => e = .returned noRec ∧ Only (fun _ => False) w w' := by
  have HN := hide (Hb.new w Hr.none)
  go_enter Tryz.func31, Tryz.ntmps31
  go_wp2_with (first | (refine wpList_build_hnone rfl rfl ?_; go_frame) | (refine wpList_put_hr rfl (.tmp 0) (.tmp 2) rfl w.heap.size rfl Hr.none Hr.none rfl HN.out ?_; intro W9 HW9; go_frame))
  refine bodyPost_ret (results_hr rfl rfl HW9.out.at_) rfl ?_
  exact ⟨rfl, (onlyA w _).trans HW9.out.only (fun i hi e => by omega)⟩
set_option maxRecDepth 100000 in
set_option maxHeartbeats 800000 in
theorem end_any (w : World) (Z : Nat → Prop) (p : Nat) (P : Pn) (h : Pm w Z p P) (er : Int) (f : Bool) (v : ByteArray) (ra : Option Addr) (L : List (ByteArray × ByteArray)) (rc : Nat) (hr : RowsAt w 0 (.slice ra L.length rc) L) (hz : ∀ k, (Value.slice ra L.length rc).ownBlock = some k → Z k ∧ k ≠ p) :
    Calls Tryz.prog 33 #[.pointer (some ⟨p, 0, none⟩), .agg #[.int .i64 er, .bool f, .string v, .slice ra L.length rc]] w fun e w' => e = .returned (.tuple #[]) ∧ Pm w' Z p (Pn.over er f v ra L rc) ∧ Only (fun k => k = p) w w' := by
  have HH := hide h
  have HR := hide hr
  have HZ := hide hz
  have HC := hide ((h.more (onlyA w (.cells #[.int .i64 er, .bool f, .string v, .slice ra L.length rc] 55))).cb)
  have HO := hide (onlyA w (.cells #[.int .i64 er, .bool f, .string v, .slice ra L.length rc] 55))
  clear h hr hz
  go_enter Tryz.func33, Tryz.ntmps33
  go_wp2_with (first | (refine wpList_build_over rfl (.tmp 5) (.tmp 6) rfl er f v ra L.length rc p L rfl rfl rfl ?_; go_frame) | (refine wpList_put_plan rfl (.tmp 8) (.tmp 7) rfl p rfl (P.cl p) rfl ((Pn.over er f v ra L rc).cl p) rfl rfl rfl HC.out ?_; intro W9 HW9; go_frame))
  refine bodyPost_end (results_none rfl _ _ _) rfl ?_
  have hz : Only (fun k => k = p) w W9 := Op.none HO.out HW9.out.2
  have hr9 : RowsAt W9 0 (.slice ra L.length rc) L := (HR.out.more HO.out).kept HW9.out.2 (fun k hk e => (HZ.out k hk).2 e)
  exact ⟨rfl, ⟨HW9.out.1, HH.out.zp, fun b hb => Nat.lt_of_lt_of_le (HH.out.zlt b hb) hz.size, hr9, HZ.out, 0, Els.nil _ _ _, fun q => absurd q (by simp [Pn.over])⟩, hz⟩
theorem follows_nil (w : World) (a1 a2 : Option Addr) (c1 n2 c2 : Nat) (h e : En) :
    Calls Tryz.prog 140 #[cvv (.slice a1 0 c1) (.slice a2 n2 c2) h, e.agg] w fun x w' => x = .returned (.bool (decide (e = noE))) ∧ Only (fun _ => False) w w' := by
  have HL : Hid (∀ W, Calls Tryz.prog 127 #[.agg #[.string e.key, .int .i64 e.page, .int .i64 e.slot]] W fun x w' => x = .returned (.bool (decide (e = noE))) ∧ Only (fun _ => False) W w') := fun W => isLeast_any e W
  have HX := hide (ce_new w (.slice a1 0 c1) (.slice a2 n2 c2) h e)
  obtain ⟨bb, hbb⟩ : ∃ b, decide (e = noE) = b := ⟨_, rfl⟩
  rw [hbb] at HL ⊢
  clear hbb
  unfold cvv En.agg
  go_enter Tryz.func140, Tryz.ntmps140
  go_upto_region 1 with fail
  obtain ⟨W0, hW0⟩ : ∃ x, (w.alloc (.cells #[.slice a1 0 c1, .slice a2 n2 c2, .string h.key, .int .i64 h.page, .int .i64 h.slot] 164)).alloc (.cells #[.string e.key, .int .i64 e.page, .int .i64 e.slot] 89) = x := ⟨_, rfl⟩
  rw [hW0] at HX ⊢
  clear hW0
  have q0 := HX.out.1.c0
  obtain ⟨d0, d1, d2, _⟩ := HX.out.2.1
  go_wp2_with fail
  refine (HL.out _).mono ?_
  rintro x w1 ⟨rfl, ho⟩
  have HO1 := hide (o2 HX.out.2.2 ho)
  clear ho
  go_wp2_with fail
  go_ret
  exact ⟨rfl, HO1.out⟩
set_option maxRecDepth 100000 in
set_option maxHeartbeats 3200000 in
theorem follows_one (w : World) (B o n c1 n2 c2 : Nat) (a2 : Option Addr) (h e la : En) (hE : Eb w B (o + n * 3) la) (hn : n ≤ 8796093021952) :
    Calls Tryz.prog 140 #[cvv (.slice (some ⟨B, o, none⟩) (n + 1) c1) (.slice a2 n2 c2) h, e.agg] w fun x w' => x = .returned (.bool (decide (la.lt e) && blw h e)) ∧ Only (fun _ => False) w w' := by
  have HM : Hid (∀ W, Calls Tryz.prog 125 #[.agg #[.string e.key, .int .i64 e.page, .int .i64 e.slot], .agg #[.string la.key, .int .i64 la.page, .int .i64 la.slot]] W fun x w' => x = .returned (.int .i64 (cmpE e la)) ∧ Only (fun _ => False) W w') := fun W => compare_any e la W
  have HB : Hid (∀ W, Calls Tryz.prog 148 #[.agg #[.slice (some ⟨B, o, none⟩) (n + 1) c1, .slice a2 n2 c2, .string h.key, .int .i64 h.page, .int .i64 h.slot], .agg #[.string e.key, .int .i64 e.page, .int .i64 e.slot]] W fun x w' => x = .returned (.bool (blw h e)) ∧ Only (fun _ => False) W w') := fun W => isBelow_any W (some ⟨B, o, none⟩) a2 (n + 1) n2 c1 c2 h e
  have hzp : 0 < cmpE e la ↔ la.lt e := cmpE_pos
  obtain ⟨z, hz⟩ : ∃ z, cmpE e la = z := ⟨_, rfl⟩
  obtain ⟨bw, hbw⟩ : ∃ b, blw h e = b := ⟨_, rfl⟩
  rw [hz] at HM hzp
  rw [hbw] at HB ⊢
  obtain ⟨rb, hrb⟩ : ∃ b, (decide (la.lt e) && bw) = b := ⟨_, rfl⟩
  rw [hrb]
  have HX := hide (ce_new w (.slice (some ⟨B, o, none⟩) (n + 1) c1) (.slice a2 n2 c2) h e)
  have HEB := hide (hE.more HX.out.2.2)
  clear hz hE hbw
  unfold cvv En.agg
  go_enter Tryz.func140, Tryz.ntmps140
  go_upto_region 1 with fail
  obtain ⟨W0, hW0⟩ : ∃ x, (w.alloc (.cells #[.slice (some ⟨B, o, none⟩) (n + 1) c1, .slice a2 n2 c2, .string h.key, .int .i64 h.page, .int .i64 h.slot] 164)).alloc (.cells #[.string e.key, .int .i64 e.page, .int .i64 e.slot] 89) = x := ⟨_, rfl⟩
  rw [hW0] at HX HEB ⊢
  clear hW0
  have q0 := HX.out.1.c0
  have hn0 : ((n : Int) + 1 == 0) = false := by simp; omega
  go_upto_region 3 with fail
  clear q0 hn0
  have hwn : IntKind.i64.wrap (n : Int) = (n : Int) := by rw [IntKind.wrap_i64]; omega
  have hle : ¬ (n : Int) + 1 ≤ (n : Int) := by omega
  by_cases hlt : la.lt e
  · have hz0 : 0 < z := hzp.2 hlt
    have HR : Hid (bw = rb) := by rw [decide_eq_true hlt, Bool.true_and] at hrb; exact hrb
    clear hzp hlt hrb
    -- {r3a
    refine wp_region_noPanic ?_
    refine wp_region_held_drew (S := fun W => Only (fun _ => False) W0 W) (by kernel_rfl) (Only.drew _ _) (fun hHeld => ?_)
    refine wpAnyH_take (i := 0) (oi := { dst := some 11, op := Op.load 89 (Operand.tmp 3), type := 89, pos := "read.go:78", after := #[], guard := none }) (v := .agg #[.string e.key, .int .i64 e.page, .int .i64 e.slot]) rfl (by kernel_rfl) (by kernel_rfl) (by kernel_rfl) (fun _ _ _ h => h) (yieldsIf_load_ev (by rfl) _ rfl rfl (fun W hW => HX.out.2.1.more hW)) (by assumption) ?_
    simp only [Act.put, List.setIfInBounds_toArray, List.set_cons_zero, List.set_cons_succ]
    refine wpAnyH_take (i := 1) (oi := { dst := some 12, op := Op.fieldAddr 164 (Operand.tmp 2) 0, type := 0, pos := "read.go:78", after := #[], guard := none }) (v := .pointer (some ⟨w.heap.size, 0, none⟩)) rfl (by kernel_rfl) (by kernel_rfl) (by kernel_rfl) (fun _ _ _ h => h) (Or.inl ⟨by rfl, fun w' hSw => by clear hSw; go_simp⟩) (by assumption) ?_
    simp only [Act.put, List.setIfInBounds_toArray, List.set_cons_zero, List.set_cons_succ]
    refine wpAnyH_take (i := 3) (oi := { dst := some 14, op := Op.fieldAddr 164 (Operand.tmp 2) 0, type := 0, pos := "read.go:78", after := #[], guard := none }) (v := .pointer (some ⟨w.heap.size, 0, none⟩)) rfl (by kernel_rfl) (by kernel_rfl) (by kernel_rfl) (fun _ _ _ h => h) (Or.inl ⟨by rfl, fun w' hSw => by clear hSw; go_simp⟩) (by assumption) ?_
    simp only [Act.put, List.setIfInBounds_toArray, List.set_cons_zero, List.set_cons_succ]
    refine wpAnyH_take (i := 2) (oi := { dst := some 13, op := Op.load 92 (Operand.tmp 12), type := 92, pos := "read.go:78", after := #[{ on := 1, ground := Ground.data }], guard := none }) (v := .slice (some ⟨B, o, none⟩) (n + 1) c1) rfl (by kernel_rfl) (by kernel_rfl) (by kernel_rfl) (fun _ _ _ h => h) (yieldsIf_load_cell (by rfl) 92 _ rfl _ rfl (fun W hW => (HX.out.1.more hW).c0) (fun W hc => ld_entries hc)) (by assumption) ?_
    simp only [Act.put, List.setIfInBounds_toArray, List.set_cons_zero, List.set_cons_succ]
    refine wpAnyH_take (i := 4) (oi := { dst := some 15, op := Op.load 92 (Operand.tmp 14), type := 92, pos := "read.go:78", after := #[{ on := 3, ground := Ground.data }], guard := none }) (v := .slice (some ⟨B, o, none⟩) (n + 1) c1) rfl (by kernel_rfl) (by kernel_rfl) (by kernel_rfl) (fun _ _ _ h => h) (yieldsIf_load_cell (by rfl) 92 _ rfl _ rfl (fun W hW => (HX.out.1.more hW).c0) (fun W hc => ld_entries hc)) (by assumption) ?_
    simp only [Act.put, List.setIfInBounds_toArray, List.set_cons_zero, List.set_cons_succ]
    refine wpAnyH_take (i := 5) (oi := { dst := some 16, op := Op.call { callee := Callee.builtin Builtin.len, args := #[Operand.tmp 15], argTypes := #[92] }, type := 3, pos := "read.go:78", after := #[{ on := 4, ground := Ground.data }], guard := none }) (v := .int .i64 ((n : Int) + 1)) rfl (by kernel_rfl) (by kernel_rfl) (by kernel_rfl) (fun _ _ _ h => h) (Or.inl ⟨by rfl, fun w' hSw => by clear hSw; go_simp⟩) (by assumption) ?_
    simp only [Act.put, List.setIfInBounds_toArray, List.set_cons_zero, List.set_cons_succ]
    refine wpAnyH_take (i := 6) (oi := { dst := some 17, op := Op.binOp BinOp.sub 3 (Operand.tmp 16) (Operand.const (Value.int IntKind.i64 1)) 3, type := 3, pos := "read.go:78", after := #[{ on := 5, ground := Ground.data }], guard := none }) (v := .int .i64 (n : Int)) rfl (by kernel_rfl) (by kernel_rfl) (by kernel_rfl) (fun _ _ _ h => h) (Or.inl ⟨by rfl, fun w' hSw => by clear hSw; go_simp⟩) (by assumption) ?_
    simp only [Act.put, List.setIfInBounds_toArray, List.set_cons_zero, List.set_cons_succ]
    refine wpAnyH_take (i := 7) (oi := { dst := some 18, op := Op.indexAddr 92 (Operand.tmp 13) (Operand.tmp 17), type := 0, pos := "read.go:78", after := #[{ on := 2, ground := Ground.data }, { on := 6, ground := Ground.data }], guard := none }) (v := .pointer (some ⟨B, o + n * 3, none⟩)) rfl (by kernel_rfl) (by kernel_rfl) (by kernel_rfl) (fun _ _ _ h => h) (Or.inl ⟨by rfl, fun w' hSw => by clear hSw; go_simp⟩) (by assumption) ?_
    simp only [Act.put, List.setIfInBounds_toArray, List.set_cons_zero, List.set_cons_succ]
    refine wpAnyH_take (i := 8) (oi := { dst := some 19, op := Op.load 89 (Operand.tmp 18), type := 89, pos := "read.go:78", after := #[{ on := 7, ground := Ground.data }], guard := none }) (v := .agg #[.string la.key, .int .i64 la.page, .int .i64 la.slot]) rfl (by kernel_rfl) (by kernel_rfl) (by kernel_rfl) (fun _ _ _ h => h) (yieldsIf_load_eb (by rfl) _ rfl rfl (fun W hW => HEB.out.more hW)) (by assumption) ?_
    simp only [Act.put, List.setIfInBounds_toArray, List.set_cons_zero, List.set_cons_succ]
    refine wpAnyH_ready (rs := [9]) (by kernel_rfl) (by simp) ?_
    refine AllReadyH.cons (o := { dst := some 20, op := Op.call { callee := Callee.value (Operand.func 125), args := #[Operand.tmp 11, Operand.tmp 19], argTypes := #[89, 89] }, type := 3, pos := "read.go:78", after := #[{ on := 0, ground := Ground.data }, { on := 8, ground := Ground.data }], guard := none }) rfl (fun K hK => ?_) (AllReadyH.nil)
    go_simp
    refine (HM.out _).mono ?_
    rintro x x1 ⟨rfl, hx1⟩
    have HX1 := hide (o2 hHeld hx1)
    clear hx1
    refine hK.out _ _ (HX1.out) (fun hHeld => ?_)
    clear hK K
    try simp only [Act.put, List.setIfInBounds_toArray, List.set_cons_zero, List.set_cons_succ]
    refine wpAnyH_take (i := 10) (oi := { dst := some 21, op := Op.binOp BinOp.gtr 3 (Operand.tmp 20) (Operand.const (Value.int IntKind.i64 0)) 3, type := 4, pos := "read.go:78", after := #[{ on := 9, ground := Ground.data }], guard := none }) (v := .bool true) rfl (by kernel_rfl) (by kernel_rfl) (by kernel_rfl) (fun _ _ _ h => h) (Or.inl ⟨by rfl, fun w' hSw => by clear hSw; go_simp⟩) (by assumption) ?_
    simp only [Act.put, List.setIfInBounds_toArray, List.set_cons_zero, List.set_cons_succ]
    refine wpAnyH_take (i := 11) (oi := { dst := some 22, op := Op.move (Operand.tmp 21), type := 4, pos := "read.go:78", after := #[{ on := 10, ground := Ground.data }, { on := 9, ground := Ground.chain }], guard := none }) (v := .bool true) rfl (by kernel_rfl) (by kernel_rfl) (by kernel_rfl) (fun _ _ _ h => h) (Or.inl ⟨by rfl, fun w' hSw => by clear hSw; go_simp⟩) (by assumption) ?_
    simp only [Act.put, List.setIfInBounds_toArray, List.set_cons_zero, List.set_cons_succ]
    refine wpAnyH_take (i := 12) (oi := { dst := some 23, op := Op.load 164 (Operand.tmp 2), type := 164, pos := "read.go:78", after := #[{ on := 11, ground := Ground.guard }], guard := some (11, true) }) (v := .agg #[.slice (some ⟨B, o, none⟩) (n + 1) c1, .slice a2 n2 c2, .string h.key, .int .i64 h.page, .int .i64 h.slot]) rfl (by kernel_rfl) (by kernel_rfl) (by kernel_rfl) (fun _ _ _ h => h) (yieldsIf_load_cv (by rfl) _ rfl rfl (fun W hW => HX.out.1.more hW)) (by assumption) ?_
    simp only [Act.put, List.setIfInBounds_toArray, List.set_cons_zero, List.set_cons_succ]
    refine wpAnyH_take (i := 13) (oi := { dst := some 24, op := Op.load 89 (Operand.tmp 3), type := 89, pos := "read.go:78", after := #[{ on := 11, ground := Ground.guard }], guard := some (11, true) }) (v := .agg #[.string e.key, .int .i64 e.page, .int .i64 e.slot]) rfl (by kernel_rfl) (by kernel_rfl) (by kernel_rfl) (fun _ _ _ h => h) (yieldsIf_load_ev (by rfl) _ rfl rfl (fun W hW => HX.out.2.1.more hW)) (by assumption) ?_
    simp only [Act.put, List.setIfInBounds_toArray, List.set_cons_zero, List.set_cons_succ]
    refine wpAnyH_ready (rs := [14]) (by kernel_rfl) (by simp) ?_
    refine AllReadyH.cons (o := { dst := some 25, op := Op.call { callee := Callee.value (Operand.func 148), args := #[Operand.tmp 23, Operand.tmp 24], argTypes := #[164, 89] }, type := 4, pos := "read.go:78", after := #[{ on := 12, ground := Ground.data }, { on := 13, ground := Ground.data }, { on := 11, ground := Ground.chain }, { on := 11, ground := Ground.guard }], guard := some (11, true) }) rfl (fun K hK => ?_) (AllReadyH.nil)
    go_simp
    refine (HB.out _).mono ?_
    rintro x x2 ⟨rfl, hx2⟩
    have HX2 := hide (o2 HX1.out hx2)
    clear hx2
    refine hK.out _ _ (HX2.out) (fun hHeld => ?_)
    clear hK K
    try simp only [Act.put, List.setIfInBounds_toArray, List.set_cons_zero, List.set_cons_succ]
    refine wpAnyH_take (i := 15) (oi := { dst := some 26, op := Op.pick (Operand.tmp 22) (Operand.tmp 25) (Operand.const (Value.bool false)), type := 4, pos := "read.go:78", after := #[{ on := 11, ground := Ground.data }, { on := 14, ground := Ground.data }], guard := none }) (v := .bool bw) rfl (by kernel_rfl) (by kernel_rfl) (by kernel_rfl) (fun _ _ _ h => h) (Or.inl ⟨by rfl, fun w' hSw => by clear hSw; go_simp⟩) (by assumption) ?_
    simp only [Act.put, List.setIfInBounds_toArray, List.set_cons_zero, List.set_cons_succ]
    refine wpAnyH_take (i := 16) (oi := { dst := some 4, op := Op.assign (Operand.tmp 26), type := 4, pos := "read.go:78", after := #[{ on := 15, ground := Ground.data }, { on := 14, ground := Ground.chain }, { on := 0, ground := Ground.phase }, { on := 1, ground := Ground.phase }, { on := 2, ground := Ground.phase }, { on := 3, ground := Ground.phase }, { on := 4, ground := Ground.phase }, { on := 5, ground := Ground.phase }, { on := 6, ground := Ground.phase }, { on := 7, ground := Ground.phase }, { on := 8, ground := Ground.phase }, { on := 9, ground := Ground.phase }, { on := 10, ground := Ground.phase }, { on := 11, ground := Ground.phase }, { on := 12, ground := Ground.phase }, { on := 13, ground := Ground.phase }, { on := 14, ground := Ground.phase }, { on := 15, ground := Ground.phase }], guard := none }) (v := .bool bw) rfl (by kernel_rfl) (by kernel_rfl) (by kernel_rfl) (fun _ _ _ h => h) (Or.inl ⟨by rfl, fun w' hSw => by clear hSw; go_simp⟩) (by assumption) ?_
    simp only [Act.put, List.setIfInBounds_toArray, List.set_cons_zero, List.set_cons_succ]
    refine wpAnyH_done (by kernel_rfl) ?_ _
    refine NoPanic.normal ?_
    go_wp2_with fail
    go_ret
    obtain rfl := HR.out
    exact ⟨rfl, o2 HX.out.2.2 HX2.out⟩
    -- r3a}
  · have hz0 : ¬ 0 < z := fun k => hlt (hzp.1 k)
    have HR : Hid (false = rb) := by rw [decide_eq_false hlt, Bool.false_and] at hrb; exact hrb
    clear hzp hlt hrb
    -- {r3b
    refine wp_region_noPanic ?_
    refine wp_region_held_drew (S := fun W => Only (fun _ => False) W0 W) (by kernel_rfl) (Only.drew _ _) (fun hHeld => ?_)
    refine wpAnyH_take (i := 0) (oi := { dst := some 11, op := Op.load 89 (Operand.tmp 3), type := 89, pos := "read.go:78", after := #[], guard := none }) (v := .agg #[.string e.key, .int .i64 e.page, .int .i64 e.slot]) rfl (by kernel_rfl) (by kernel_rfl) (by kernel_rfl) (fun _ _ _ h => h) (yieldsIf_load_ev (by rfl) _ rfl rfl (fun W hW => HX.out.2.1.more hW)) (by assumption) ?_
    simp only [Act.put, List.setIfInBounds_toArray, List.set_cons_zero, List.set_cons_succ]
    refine wpAnyH_take (i := 1) (oi := { dst := some 12, op := Op.fieldAddr 164 (Operand.tmp 2) 0, type := 0, pos := "read.go:78", after := #[], guard := none }) (v := .pointer (some ⟨w.heap.size, 0, none⟩)) rfl (by kernel_rfl) (by kernel_rfl) (by kernel_rfl) (fun _ _ _ h => h) (Or.inl ⟨by rfl, fun w' hSw => by clear hSw; go_simp⟩) (by assumption) ?_
    simp only [Act.put, List.setIfInBounds_toArray, List.set_cons_zero, List.set_cons_succ]
    refine wpAnyH_take (i := 3) (oi := { dst := some 14, op := Op.fieldAddr 164 (Operand.tmp 2) 0, type := 0, pos := "read.go:78", after := #[], guard := none }) (v := .pointer (some ⟨w.heap.size, 0, none⟩)) rfl (by kernel_rfl) (by kernel_rfl) (by kernel_rfl) (fun _ _ _ h => h) (Or.inl ⟨by rfl, fun w' hSw => by clear hSw; go_simp⟩) (by assumption) ?_
    simp only [Act.put, List.setIfInBounds_toArray, List.set_cons_zero, List.set_cons_succ]
    refine wpAnyH_take (i := 2) (oi := { dst := some 13, op := Op.load 92 (Operand.tmp 12), type := 92, pos := "read.go:78", after := #[{ on := 1, ground := Ground.data }], guard := none }) (v := .slice (some ⟨B, o, none⟩) (n + 1) c1) rfl (by kernel_rfl) (by kernel_rfl) (by kernel_rfl) (fun _ _ _ h => h) (yieldsIf_load_cell (by rfl) 92 _ rfl _ rfl (fun W hW => (HX.out.1.more hW).c0) (fun W hc => ld_entries hc)) (by assumption) ?_
    simp only [Act.put, List.setIfInBounds_toArray, List.set_cons_zero, List.set_cons_succ]
    refine wpAnyH_take (i := 4) (oi := { dst := some 15, op := Op.load 92 (Operand.tmp 14), type := 92, pos := "read.go:78", after := #[{ on := 3, ground := Ground.data }], guard := none }) (v := .slice (some ⟨B, o, none⟩) (n + 1) c1) rfl (by kernel_rfl) (by kernel_rfl) (by kernel_rfl) (fun _ _ _ h => h) (yieldsIf_load_cell (by rfl) 92 _ rfl _ rfl (fun W hW => (HX.out.1.more hW).c0) (fun W hc => ld_entries hc)) (by assumption) ?_
    simp only [Act.put, List.setIfInBounds_toArray, List.set_cons_zero, List.set_cons_succ]
    refine wpAnyH_take (i := 5) (oi := { dst := some 16, op := Op.call { callee := Callee.builtin Builtin.len, args := #[Operand.tmp 15], argTypes := #[92] }, type := 3, pos := "read.go:78", after := #[{ on := 4, ground := Ground.data }], guard := none }) (v := .int .i64 ((n : Int) + 1)) rfl (by kernel_rfl) (by kernel_rfl) (by kernel_rfl) (fun _ _ _ h => h) (Or.inl ⟨by rfl, fun w' hSw => by clear hSw; go_simp⟩) (by assumption) ?_
    simp only [Act.put, List.setIfInBounds_toArray, List.set_cons_zero, List.set_cons_succ]
    refine wpAnyH_take (i := 6) (oi := { dst := some 17, op := Op.binOp BinOp.sub 3 (Operand.tmp 16) (Operand.const (Value.int IntKind.i64 1)) 3, type := 3, pos := "read.go:78", after := #[{ on := 5, ground := Ground.data }], guard := none }) (v := .int .i64 (n : Int)) rfl (by kernel_rfl) (by kernel_rfl) (by kernel_rfl) (fun _ _ _ h => h) (Or.inl ⟨by rfl, fun w' hSw => by clear hSw; go_simp⟩) (by assumption) ?_
    simp only [Act.put, List.setIfInBounds_toArray, List.set_cons_zero, List.set_cons_succ]
    refine wpAnyH_take (i := 7) (oi := { dst := some 18, op := Op.indexAddr 92 (Operand.tmp 13) (Operand.tmp 17), type := 0, pos := "read.go:78", after := #[{ on := 2, ground := Ground.data }, { on := 6, ground := Ground.data }], guard := none }) (v := .pointer (some ⟨B, o + n * 3, none⟩)) rfl (by kernel_rfl) (by kernel_rfl) (by kernel_rfl) (fun _ _ _ h => h) (Or.inl ⟨by rfl, fun w' hSw => by clear hSw; go_simp⟩) (by assumption) ?_
    simp only [Act.put, List.setIfInBounds_toArray, List.set_cons_zero, List.set_cons_succ]
    refine wpAnyH_take (i := 8) (oi := { dst := some 19, op := Op.load 89 (Operand.tmp 18), type := 89, pos := "read.go:78", after := #[{ on := 7, ground := Ground.data }], guard := none }) (v := .agg #[.string la.key, .int .i64 la.page, .int .i64 la.slot]) rfl (by kernel_rfl) (by kernel_rfl) (by kernel_rfl) (fun _ _ _ h => h) (yieldsIf_load_eb (by rfl) _ rfl rfl (fun W hW => HEB.out.more hW)) (by assumption) ?_
    simp only [Act.put, List.setIfInBounds_toArray, List.set_cons_zero, List.set_cons_succ]
    refine wpAnyH_ready (rs := [9]) (by kernel_rfl) (by simp) ?_
    refine AllReadyH.cons (o := { dst := some 20, op := Op.call { callee := Callee.value (Operand.func 125), args := #[Operand.tmp 11, Operand.tmp 19], argTypes := #[89, 89] }, type := 3, pos := "read.go:78", after := #[{ on := 0, ground := Ground.data }, { on := 8, ground := Ground.data }], guard := none }) rfl (fun K hK => ?_) (AllReadyH.nil)
    go_simp
    refine (HM.out _).mono ?_
    rintro x x1 ⟨rfl, hx1⟩
    have HX1 := hide (o2 hHeld hx1)
    clear hx1
    refine hK.out _ _ (HX1.out) (fun hHeld => ?_)
    clear hK K
    try simp only [Act.put, List.setIfInBounds_toArray, List.set_cons_zero, List.set_cons_succ]
    refine wpAnyH_take (i := 10) (oi := { dst := some 21, op := Op.binOp BinOp.gtr 3 (Operand.tmp 20) (Operand.const (Value.int IntKind.i64 0)) 3, type := 4, pos := "read.go:78", after := #[{ on := 9, ground := Ground.data }], guard := none }) (v := .bool false) rfl (by kernel_rfl) (by kernel_rfl) (by kernel_rfl) (fun _ _ _ h => h) (Or.inl ⟨by rfl, fun w' hSw => by clear hSw; go_simp⟩) (by assumption) ?_
    simp only [Act.put, List.setIfInBounds_toArray, List.set_cons_zero, List.set_cons_succ]
    refine wpAnyH_take (i := 11) (oi := { dst := some 22, op := Op.move (Operand.tmp 21), type := 4, pos := "read.go:78", after := #[{ on := 10, ground := Ground.data }, { on := 9, ground := Ground.chain }], guard := none }) (v := .bool false) rfl (by kernel_rfl) (by kernel_rfl) (by kernel_rfl) (fun _ _ _ h => h) (Or.inl ⟨by rfl, fun w' hSw => by clear hSw; go_simp⟩) (by assumption) ?_
    simp only [Act.put, List.setIfInBounds_toArray, List.set_cons_zero, List.set_cons_succ]
    refine wpAnyH_take (i := 12) (oi := { dst := some 23, op := Op.load 164 (Operand.tmp 2), type := 164, pos := "read.go:78", after := #[{ on := 11, ground := Ground.guard }], guard := some (11, true) }) (v := undef) rfl (by kernel_rfl) (by kernel_rfl) (by kernel_rfl) (fun _ _ _ h => h) (Or.inr ⟨by rfl, rfl⟩) (by assumption) ?_
    simp only [Act.put, List.setIfInBounds_toArray, List.set_cons_zero, List.set_cons_succ]
    refine wpAnyH_take (i := 13) (oi := { dst := some 24, op := Op.load 89 (Operand.tmp 3), type := 89, pos := "read.go:78", after := #[{ on := 11, ground := Ground.guard }], guard := some (11, true) }) (v := undef) rfl (by kernel_rfl) (by kernel_rfl) (by kernel_rfl) (fun _ _ _ h => h) (Or.inr ⟨by rfl, rfl⟩) (by assumption) ?_
    simp only [Act.put, List.setIfInBounds_toArray, List.set_cons_zero, List.set_cons_succ]
    refine wpAnyH_take (i := 14) (oi := { dst := some 25, op := Op.call { callee := Callee.value (Operand.func 148), args := #[Operand.tmp 23, Operand.tmp 24], argTypes := #[164, 89] }, type := 4, pos := "read.go:78", after := #[{ on := 12, ground := Ground.data }, { on := 13, ground := Ground.data }, { on := 11, ground := Ground.chain }, { on := 11, ground := Ground.guard }], guard := some (11, true) }) (v := undef) rfl (by kernel_rfl) (by kernel_rfl) (by kernel_rfl) (fun _ _ _ h => h) (Or.inr ⟨by rfl, rfl⟩) (by assumption) ?_
    simp only [Act.put, List.setIfInBounds_toArray, List.set_cons_zero, List.set_cons_succ]
    refine wpAnyH_take (i := 15) (oi := { dst := some 26, op := Op.pick (Operand.tmp 22) (Operand.tmp 25) (Operand.const (Value.bool false)), type := 4, pos := "read.go:78", after := #[{ on := 11, ground := Ground.data }, { on := 14, ground := Ground.data }], guard := none }) (v := .bool false) rfl (by kernel_rfl) (by kernel_rfl) (by kernel_rfl) (fun _ _ _ h => h) (Or.inl ⟨by rfl, fun w' hSw => by clear hSw; go_simp⟩) (by assumption) ?_
    simp only [Act.put, List.setIfInBounds_toArray, List.set_cons_zero, List.set_cons_succ]
    refine wpAnyH_take (i := 16) (oi := { dst := some 4, op := Op.assign (Operand.tmp 26), type := 4, pos := "read.go:78", after := #[{ on := 15, ground := Ground.data }, { on := 14, ground := Ground.chain }, { on := 0, ground := Ground.phase }, { on := 1, ground := Ground.phase }, { on := 2, ground := Ground.phase }, { on := 3, ground := Ground.phase }, { on := 4, ground := Ground.phase }, { on := 5, ground := Ground.phase }, { on := 6, ground := Ground.phase }, { on := 7, ground := Ground.phase }, { on := 8, ground := Ground.phase }, { on := 9, ground := Ground.phase }, { on := 10, ground := Ground.phase }, { on := 11, ground := Ground.phase }, { on := 12, ground := Ground.phase }, { on := 13, ground := Ground.phase }, { on := 14, ground := Ground.phase }, { on := 15, ground := Ground.phase }], guard := none }) (v := .bool false) rfl (by kernel_rfl) (by kernel_rfl) (by kernel_rfl) (fun _ _ _ h => h) (Or.inl ⟨by rfl, fun w' hSw => by clear hSw; go_simp⟩) (by assumption) ?_
    simp only [Act.put, List.setIfInBounds_toArray, List.set_cons_zero, List.set_cons_succ]
    refine wpAnyH_done (by kernel_rfl) ?_ _
    refine NoPanic.normal ?_
    go_wp2_with fail
    go_ret
    obtain rfl := HR.out
    exact ⟨rfl, o2 HX.out.2.2 HX1.out⟩
    -- r3b}
/-- follows of any. -/
theorem follows_any (W : World) (base C n2 C2 : Nat) (A A2 : Option Addr) (hi e : En) (es : List En) (n : Nat) (hn : es.length = n) (hl : n ≤ 8796093021952) (hE : Ets W base (.slice A n C) es) :
    Calls Tryz.prog 140 #[.agg #[.slice A n C, .slice A2 n2 C2, .string hi.key, .int .i64 hi.page, .int .i64 hi.slot], .agg #[.string e.key, .int .i64 e.page, .int .i64 e.slot]] W fun x w' => x = .returned (.bool (okI hi es.getLast? e)) ∧ Only (fun _ => False) W w' := by
  subst hn
  cases hx : es.getLast? with
  | none =>
    have e0 : es = [] := List.getLast?_eq_none_iff.1 hx
    subst e0
    exact follows_nil W A A2 C n2 C2 hi e
  | some la =>
    obtain ⟨ini, rfl⟩ := List.getLast?_eq_some_iff.1 hx
    obtain ⟨B, ao, cp, hv, hels, _, _⟩ := hE.els
    have hlen : (ini ++ [la]).length = ini.length + 1 := by simp
    obtain ⟨o, hao, hat⟩ := hels.at_ (by omega)
    have hv' : A = ao := by injection hv
    subst hao
    subst hv'
    have hb := hat ini.length (by omega)
    have e1 : (ini ++ [la])[ini.length]'(by omega) = la := by simp
    rw [e1] at hb
    have q := follows_one W B o ini.length C n2 C2 A2 hi e la hb (by omega)
    rw [hlen]
    exact q
end Go.Proofs.YtajjakljheafjaaGreat
