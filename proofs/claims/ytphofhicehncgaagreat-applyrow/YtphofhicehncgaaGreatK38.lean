/- What apply's undo and freeze do. -/
import Derived.Test.YtphofhicehncgaaGreatK16
import Derived.Test.YtphofhicehncgaaGreatK19
namespace Go.Proofs.YtphofhicehncgaaGreat
open Go.RowKit

set_option maxRecDepth 100000 in
set_option maxHeartbeats 3200000 in
theorem mark_any (w : World) (a k v r : Int) (h : ByteArray) (base : Nat) (sl : Value) (l : List ByteArray) (hL : Ls w base sl l) (hsz : ∀ s ∈ l, s.size ≤ 140737488355328) (hln : l.length ≤ 8796093022207) (R : Rc) (L : Loc) (hn : -9223372036854775808 ≤ R.new ∧ R.new < 9223372036854775808) :
    Calls Tryz.prog 19 #[.agg #[.int .i64 a, .int .i64 k, .int .i64 v, .int .i64 r, .string h, sl], .agg (R.cells L)] w fun e w' => DeR w w' sl e (Pg.chg ⟨a, k, v, r, h, l⟩ (chgL (cgE R.old R.new) [R.slot] l)) (chgL (cgE R.old R.new) [R.slot] l).2 := by
  have HB := hide (boxR_new w a k v r h sl R L)
  have HOW : Hid (∀ j, sl.ownBlock = some j → j < w.heap.size) := fun j hj => (World.ownsRow.lt hL j hj).2
  obtain ⟨P, hP⟩ : ∃ P, Pg.chg ⟨a, k, v, r, h, l⟩ (chgL (cgE R.old R.new) [R.slot] l) = P := ⟨_, rfl⟩
  obtain ⟨C, hC⟩ : ∃ C, (chgL (cgE R.old R.new) [R.slot] l).2 = C := ⟨_, rfl⟩
  have HCH : Hid (∀ W zb b1 b2, Only (fun _ => False) w W → Zs W zb (some ⟨zb, 0, none⟩) [R.slot] → Two W b1 b2 R.old R.new → w.heap.size ≤ zb → w.heap.size ≤ b1 → w.heap.size ≤ b2 → Calls Tryz.prog 39 #[.agg #[.int .i64 a, .int .i64 k, .int .i64 v, .int .i64 r, .string h, sl], .func (.func 72) #[] #[.pointer (some ⟨b1, 0, none⟩), .pointer (some ⟨b2, 0, none⟩)], .slice (some ⟨zb, 0, none⟩) 1 1] W fun e w' => DeR W w' sl e P C) := fun W zb b1 b2 ho hz h2 g0 g1 g2 => by
    refine (changed_E W a k v r h base sl l (hL.more ho) hsz [R.slot] zb 1 (some ⟨zb, 0, none⟩) hz (fun _ q => by have := HOW.out _ q; omega) b1 b2 R.old R.new h2 (fun q => by have := HOW.out _ q; omega) (fun q => by have := HOW.out _ q; omega) hn).mono ?_
    intro e w' hq
    rw [← hP, ← hC]
    exact hq.der (Nat.le_trans (chgL_len _ _ _) hln)
  rw [hP, hC]
  clear hP hC hL hsz hln hn
  go_enter Tryz.func19, Tryz.ntmps19
  go_upto_region 1 with fail
  obtain ⟨W0, hW0⟩ : ∃ x, boxR w a k v r h sl R L = x := ⟨_, rfl⟩
  rw [hW0] at HB
  unfold boxR at hW0
  rw [hW0]
  clear hW0
  have HPG : Hid (∀ W, Only (fun j => sl.ownBlock = some j ∨ j = w.heap.size + 1 + 1) W0 W → Pag W w.heap.size (.int .i64 a) (.int .i64 k) (.int .i64 v) (.int .i64 r) (.string h) sl) := fun W ho => HB.out.pag.kept ho (fun q => q.elim (fun q => by have := HOW.out _ q; omega) (fun q => by omega))
  have HRC : Hid (∀ W, Only (fun j => sl.ownBlock = some j ∨ j = w.heap.size + 1 + 1) W0 W → Bx W (w.heap.size + 1) R L) := fun W ho => HB.out.rc.kept ho (fun q => q.elim (fun q => by have := HOW.out _ q; omega) (fun q => by omega))
  have HRB : Hid (w.heap.size + 1 + 1 < W0.heap.size) := HB.out.res.lt
  refine wp_region_noPanic ?_
  refine wp_region_held_drew (S := fun W => Only (fun j => sl.ownBlock = some j ∨ j = w.heap.size + 1 + 1) W0 W) (by kernel_rfl) ((Only.drew _ W0)) (fun hHeld => ?_)
  refine wpAnyH_take (i := 0) (oi := { dst := some 6, op := Op.load 25 (Operand.tmp 2), type := 25, pos := "deeds.go:53", after := #[], guard := none }) (v := .agg #[.int .i64 a, .int .i64 k, .int .i64 v, .int .i64 r, .string h, sl]) rfl (by kernel_rfl) (by kernel_rfl) (by kernel_rfl) (fun _ _ _ h => h) (yieldsIf_load_page (by rfl) _ rfl _ rfl (fun W hW => HPG.out W hW)) (by assumption) ?_
  simp only [Act.put, List.setIfInBounds_toArray, List.set_cons_zero, List.set_cons_succ]
  refine wpAnyH_take (i := 1) (oi := { dst := some 7, op := Op.fieldAddr 34 (Operand.tmp 3) 7, type := 0, pos := "deeds.go:53", after := #[], guard := none }) (v := .pointer (some ⟨(w.heap.size + 1), 7, none⟩)) rfl (by kernel_rfl) (by kernel_rfl) (by kernel_rfl) (fun _ _ _ h => h) (Or.inl ⟨by rfl, fun w' hSw => by clear hSw; go_simp⟩) (by assumption) ?_
  simp only [Act.put, List.setIfInBounds_toArray, List.set_cons_zero, List.set_cons_succ]
  refine wpAnyH_take (i := 3) (oi := { dst := some 9, op := Op.fieldAddr 34 (Operand.tmp 3) 8, type := 0, pos := "deeds.go:53", after := #[], guard := none }) (v := .pointer (some ⟨(w.heap.size + 1), 8, none⟩)) rfl (by kernel_rfl) (by kernel_rfl) (by kernel_rfl) (fun _ _ _ h => h) (Or.inl ⟨by rfl, fun w' hSw => by clear hSw; go_simp⟩) (by assumption) ?_
  simp only [Act.put, List.setIfInBounds_toArray, List.set_cons_zero, List.set_cons_succ]
  refine wpAnyH_take (i := 6) (oi := { dst := some 12, op := Op.fieldAddr 34 (Operand.tmp 3) 6, type := 0, pos := "deeds.go:53", after := #[], guard := none }) (v := .pointer (some ⟨(w.heap.size + 1), 6, none⟩)) rfl (by kernel_rfl) (by kernel_rfl) (by kernel_rfl) (fun _ _ _ h => h) (Or.inl ⟨by rfl, fun w' hSw => by clear hSw; go_simp⟩) (by assumption) ?_
  simp only [Act.put, List.setIfInBounds_toArray, List.set_cons_zero, List.set_cons_succ]
  refine wpAnyH_take (i := 2) (oi := { dst := some 8, op := Op.load 3 (Operand.tmp 7), type := 3, pos := "deeds.go:53", after := #[{ on := 1, ground := Ground.data }], guard := none }) (v := .int .i64 R.old) rfl (by kernel_rfl) (by kernel_rfl) (by kernel_rfl) (fun _ _ _ h => h) (yieldsIf_load_cell (by rfl) 3 _ rfl _ rfl (fun W hW => (HRC.out W hW).c7) (fun W hc => ld_int hc)) (by assumption) ?_
  simp only [Act.put, List.setIfInBounds_toArray, List.set_cons_zero, List.set_cons_succ]
  refine wpAnyH_take (i := 4) (oi := { dst := some 10, op := Op.load 3 (Operand.tmp 9), type := 3, pos := "deeds.go:53", after := #[{ on := 3, ground := Ground.data }], guard := none }) (v := .int .i64 R.new) rfl (by kernel_rfl) (by kernel_rfl) (by kernel_rfl) (fun _ _ _ h => h) (yieldsIf_load_cell (by rfl) 3 _ rfl _ rfl (fun W hW => (HRC.out W hW).c8) (fun W hc => ld_int hc)) (by assumption) ?_
  simp only [Act.put, List.setIfInBounds_toArray, List.set_cons_zero, List.set_cons_succ]
  refine wpAnyH_take (i := 7) (oi := { dst := some 13, op := Op.load 3 (Operand.tmp 12), type := 3, pos := "deeds.go:53", after := #[{ on := 6, ground := Ground.data }], guard := none }) (v := .int .i64 R.slot) rfl (by kernel_rfl) (by kernel_rfl) (by kernel_rfl) (fun _ _ _ h => h) (yieldsIf_load_cell (by rfl) 3 _ rfl _ rfl (fun W hW => (HRC.out W hW).c6) (fun W hc => ld_int hc)) (by assumption) ?_
  simp only [Act.put, List.setIfInBounds_toArray, List.set_cons_zero, List.set_cons_succ]
  refine wpAnyH_ready (rs := [5, 8]) (by kernel_rfl) (by simp) ?_
  refine AllReadyH.cons (o := { dst := some 11, op := Op.call { callee := Callee.value (Operand.func 40), args := #[Operand.tmp 8, Operand.tmp 10], argTypes := #[3, 3] }, type := 80, pos := "deeds.go:53", after := #[{ on := 2, ground := Ground.data }, { on := 4, ground := Ground.data }], guard := none }) rfl (fun K hK => ?_) (AllReadyH.cons (o := { dst := some 14, op := Op.buildSlice 29 1 #[(0, Operand.tmp 13)], type := 29, pos := "deeds.go:53", after := #[{ on := 7, ground := Ground.data }], guard := none }) rfl (fun K hK => ?_) (AllReadyH.nil))
  · go_simp
    refine (ending_any _ R.old R.new).mono ?_
    rintro e x1 ⟨b1, b2, rfl, h2, hx1, hb1, hb2⟩
    have HX1 := hide (o2 (Only.drew _ W0) hx1)
    have HT1 := hide h2
    have HBB : Hid (w.heap.size ≤ b1 ∧ w.heap.size ≤ b2) := ⟨Nat.le_trans HB.out.only.size hb1, Nat.le_trans HB.out.only.size hb2⟩
    clear hx1 h2 hb1 hb2
    refine hK.out _ _ (HX1.out.mono (fun _ _ h => h.elim)) (fun hHeld => ?_)
    clear hK K
    try simp only [Act.put, List.setIfInBounds_toArray, List.set_cons_zero, List.set_cons_succ]
    refine wpAnyH_ready (rs := [8]) (by kernel_rfl) (by simp) ?_
    refine AllReadyH.cons (o := { dst := some 14, op := Op.buildSlice 29 1 #[(0, Operand.tmp 13)], type := 29, pos := "deeds.go:53", after := #[{ on := 7, ground := Ground.data }], guard := none }) rfl (fun K hK => ?_) (AllReadyH.nil)
    go_simp
    have HZS := hide (zs_one x1 R.slot)
    have HZO := hide (o2 HX1.out (onlyA x1 (.cells #[.int .i64 R.slot] 3)))
    have HT2 := hide (HT1.out.kept (onlyA x1 (.cells #[.int .i64 R.slot] 3)) (fun h => h) (fun h => h))
    have HZB : Hid (w.heap.size ≤ x1.heap.size) := Nat.le_trans HB.out.only.size HX1.out.size
    refine hK.out _ _ (HZO.out.mono (fun _ _ h => h.elim)) (fun hHeld => ?_)
    clear hK K
    try simp only [Act.put, List.setIfInBounds_toArray, List.set_cons_zero, List.set_cons_succ]
    refine wpAnyH_ready (rs := [9]) (by kernel_rfl) (by simp) ?_
    refine AllReadyH.cons (o := { dst := some 15, op := Op.call { callee := Callee.value (Operand.func 39), args := #[Operand.tmp 6, Operand.tmp 11, Operand.tmp 14], argTypes := #[25, 80, 29] }, type := 36, pos := "deeds.go:53", after := #[{ on := 0, ground := Ground.data }, { on := 5, ground := Ground.data }, { on := 8, ground := Ground.data }, { on := 5, ground := Ground.chain }], guard := none }) rfl (fun K hK => ?_) (AllReadyH.nil)
    go_simp
    refine (HCH.out _ _ _ _ (o2 HB.out.only HZO.out) HZS.out HT2.out HZB.out HBB.out.1 HBB.out.2).mono ?_
    rintro e x3 hd
    have HD := hide hd
    obtain ⟨B3, ao3, cp3, rfl, _, _, ho3, _⟩ := hd
    have HX3 : Hid (Only (fun j => sl.ownBlock = some j ∨ j = w.heap.size + 1 + 1) W0 x3) := (HZO.out.mono (fun _ _ h => h.elim)).trans (ho3.mono (fun _ _ h => .inl h)) (fun _ _ h => h)
    have HQ3 := hide ((HB.out.res.more HZO.out).kept ho3 (fun q => by have := HOW.out _ q; omega))
    have HLT : Hid (Only (fun _ => False) w _ ∧ w.heap.size + 1 + 1 < _) := ⟨o2 HB.out.only HZO.out, Nat.lt_of_lt_of_le HRB.out HZO.out.size⟩
    obtain ⟨q0, q1, q2, q3, q4, q5, g0, g1, g2, g3, g4, g5, ql⟩ := HQ3.out
    clear ho3
    refine hK.out _ _ (HX3.out) (fun hHeld => ?_)
    clear hK K
    try simp only [Act.put, List.setIfInBounds_toArray, List.set_cons_zero, List.set_cons_succ]
    refine wpAnyH_take (i := 10) (oi := { dst := some 16, op := Op.extract (Operand.tmp 15) 0, type := 25, pos := "deeds.go:53", after := #[{ on := 9, ground := Ground.data }], guard := none }) (v := .agg #[.int .i64 P.lsn, .int .i64 P.kind, .int .i64 P.level, .int .i64 P.right, .string P.high, .slice ao3 P.items.length cp3]) rfl (by kernel_rfl) (by kernel_rfl) (by kernel_rfl) (fun _ _ _ h => h) (Or.inl ⟨by rfl, fun w' hSw => by clear hSw; go_simp⟩) (by assumption) ?_
    simp only [Act.put, List.setIfInBounds_toArray, List.set_cons_zero, List.set_cons_succ]
    refine wpAnyH_take (i := 11) (oi := { dst := some 17, op := Op.extract (Operand.tmp 15) 1, type := 35, pos := "deeds.go:53", after := #[{ on := 9, ground := Ground.data }], guard := none }) (v := .int .i64 C) rfl (by kernel_rfl) (by kernel_rfl) (by kernel_rfl) (fun _ _ _ h => h) (Or.inl ⟨by rfl, fun w' hSw => by clear hSw; go_simp⟩) (by assumption) ?_
    simp only [Act.put, List.setIfInBounds_toArray, List.set_cons_zero, List.set_cons_succ]
    refine wpAnyH_ready (rs := [12]) (by kernel_rfl) (by simp) ?_
    refine AllReadyH.cons (o := { dst := none, op := Op.store 25 (Operand.tmp 4) (Operand.tmp 16), type := 0, pos := "deeds.go:53", after := #[{ on := 10, ground := Ground.data }, { on := 9, ground := Ground.chain }, { on := 0, ground := Ground.phase }, { on := 1, ground := Ground.phase }, { on := 2, ground := Ground.phase }, { on := 3, ground := Ground.phase }, { on := 4, ground := Ground.phase }, { on := 5, ground := Ground.phase }, { on := 6, ground := Ground.phase }, { on := 7, ground := Ground.phase }, { on := 8, ground := Ground.phase }, { on := 9, ground := Ground.phase }, { on := 10, ground := Ground.phase }, { on := 11, ground := Ground.phase }], guard := none }) rfl (fun K hK => ?_) (AllReadyH.nil)
    go_simp
    refine hK.out _ _ (HX3.out.trans ((Only.six x3 (w.heap.size + 1 + 1) _ _ _ _ _ _).mono (fun _ _ h => .inr h)) (fun _ _ h => h)) (fun hHeld => ?_)
    clear hK K
    try simp only [Act.put, List.setIfInBounds_toArray, List.set_cons_zero, List.set_cons_succ]
    refine wpAnyH_take (i := 13) (oi := { dst := some 5, op := Op.assign (Operand.tmp 17), type := 35, pos := "deeds.go:53", after := #[{ on := 11, ground := Ground.data }, { on := 12, ground := Ground.chain }, { on := 0, ground := Ground.phase }, { on := 1, ground := Ground.phase }, { on := 2, ground := Ground.phase }, { on := 3, ground := Ground.phase }, { on := 4, ground := Ground.phase }, { on := 5, ground := Ground.phase }, { on := 6, ground := Ground.phase }, { on := 7, ground := Ground.phase }, { on := 8, ground := Ground.phase }, { on := 9, ground := Ground.phase }, { on := 10, ground := Ground.phase }, { on := 11, ground := Ground.phase }, { on := 12, ground := Ground.phase }], guard := none }) (v := .int .i64 C) rfl (by kernel_rfl) (by kernel_rfl) (by kernel_rfl) (fun _ _ _ h => h) (Or.inl ⟨by rfl, fun w' hSw => by clear hSw; go_simp⟩) (by assumption) ?_
    simp only [Act.put, List.setIfInBounds_toArray, List.set_cons_zero, List.set_cons_succ]
    refine wpAnyH_done (by kernel_rfl) ?_ _
    refine NoPanic.normal ?_
    go_wp2_with fail
    refine bodyPost_ret (results_page rfl rfl (Pag.six HQ3.out _ _ _ _ _ _)) rfl ?_
    exact deR_six HLT.out.1 HD.out HOW.out _ (by omega) HLT.out.2 _ _ _ _ _ _
  · go_simp
    have HZS := hide (zs_one W0.drew R.slot)
    have HZO := hide (o2 (Only.drew _ W0) (onlyA W0.drew (.cells #[.int .i64 R.slot] 3)))
    have HZB : Hid (w.heap.size ≤ W0.drew.heap.size) := HB.out.only.size
    refine hK.out _ _ (HZO.out.mono (fun _ _ h => h.elim)) (fun hHeld => ?_)
    clear hK K
    try simp only [Act.put, List.setIfInBounds_toArray, List.set_cons_zero, List.set_cons_succ]
    refine wpAnyH_ready (rs := [5]) (by kernel_rfl) (by simp) ?_
    refine AllReadyH.cons (o := { dst := some 11, op := Op.call { callee := Callee.value (Operand.func 40), args := #[Operand.tmp 8, Operand.tmp 10], argTypes := #[3, 3] }, type := 80, pos := "deeds.go:53", after := #[{ on := 2, ground := Ground.data }, { on := 4, ground := Ground.data }], guard := none }) rfl (fun K hK => ?_) (AllReadyH.nil)
    go_simp
    refine (ending_any _ R.old R.new).mono ?_
    rintro e x1 ⟨b1, b2, rfl, h2, hx1, hb1, hb2⟩
    have HX1 := hide (o2 HZO.out hx1)
    have HZ1 := hide (HZS.out.more hx1)
    have HT1 := hide h2
    have HBB : Hid (w.heap.size ≤ b1 ∧ w.heap.size ≤ b2) := ⟨Nat.le_trans (Nat.le_trans HB.out.only.size HZO.out.size) hb1, Nat.le_trans (Nat.le_trans HB.out.only.size HZO.out.size) hb2⟩
    clear hx1 h2 hb1 hb2
    refine hK.out _ _ (HX1.out.mono (fun _ _ h => h.elim)) (fun hHeld => ?_)
    clear hK K
    try simp only [Act.put, List.setIfInBounds_toArray, List.set_cons_zero, List.set_cons_succ]
    refine wpAnyH_ready (rs := [9]) (by kernel_rfl) (by simp) ?_
    refine AllReadyH.cons (o := { dst := some 15, op := Op.call { callee := Callee.value (Operand.func 39), args := #[Operand.tmp 6, Operand.tmp 11, Operand.tmp 14], argTypes := #[25, 80, 29] }, type := 36, pos := "deeds.go:53", after := #[{ on := 0, ground := Ground.data }, { on := 5, ground := Ground.data }, { on := 8, ground := Ground.data }, { on := 5, ground := Ground.chain }], guard := none }) rfl (fun K hK => ?_) (AllReadyH.nil)
    go_simp
    refine (HCH.out _ _ _ _ (o2 HB.out.only HX1.out) HZ1.out HT1.out HZB.out HBB.out.1 HBB.out.2).mono ?_
    rintro e x3 hd
    have HD := hide hd
    obtain ⟨B3, ao3, cp3, rfl, _, _, ho3, _⟩ := hd
    have HX3 : Hid (Only (fun j => sl.ownBlock = some j ∨ j = w.heap.size + 1 + 1) W0 x3) := (HX1.out.mono (fun _ _ h => h.elim)).trans (ho3.mono (fun _ _ h => .inl h)) (fun _ _ h => h)
    have HQ3 := hide ((HB.out.res.more HX1.out).kept ho3 (fun q => by have := HOW.out _ q; omega))
    have HLT : Hid (Only (fun _ => False) w _ ∧ w.heap.size + 1 + 1 < _) := ⟨o2 HB.out.only HX1.out, Nat.lt_of_lt_of_le HRB.out HX1.out.size⟩
    obtain ⟨q0, q1, q2, q3, q4, q5, g0, g1, g2, g3, g4, g5, ql⟩ := HQ3.out
    clear ho3
    refine hK.out _ _ (HX3.out) (fun hHeld => ?_)
    clear hK K
    try simp only [Act.put, List.setIfInBounds_toArray, List.set_cons_zero, List.set_cons_succ]
    refine wpAnyH_take (i := 10) (oi := { dst := some 16, op := Op.extract (Operand.tmp 15) 0, type := 25, pos := "deeds.go:53", after := #[{ on := 9, ground := Ground.data }], guard := none }) (v := .agg #[.int .i64 P.lsn, .int .i64 P.kind, .int .i64 P.level, .int .i64 P.right, .string P.high, .slice ao3 P.items.length cp3]) rfl (by kernel_rfl) (by kernel_rfl) (by kernel_rfl) (fun _ _ _ h => h) (Or.inl ⟨by rfl, fun w' hSw => by clear hSw; go_simp⟩) (by assumption) ?_
    simp only [Act.put, List.setIfInBounds_toArray, List.set_cons_zero, List.set_cons_succ]
    refine wpAnyH_take (i := 11) (oi := { dst := some 17, op := Op.extract (Operand.tmp 15) 1, type := 35, pos := "deeds.go:53", after := #[{ on := 9, ground := Ground.data }], guard := none }) (v := .int .i64 C) rfl (by kernel_rfl) (by kernel_rfl) (by kernel_rfl) (fun _ _ _ h => h) (Or.inl ⟨by rfl, fun w' hSw => by clear hSw; go_simp⟩) (by assumption) ?_
    simp only [Act.put, List.setIfInBounds_toArray, List.set_cons_zero, List.set_cons_succ]
    refine wpAnyH_ready (rs := [12]) (by kernel_rfl) (by simp) ?_
    refine AllReadyH.cons (o := { dst := none, op := Op.store 25 (Operand.tmp 4) (Operand.tmp 16), type := 0, pos := "deeds.go:53", after := #[{ on := 10, ground := Ground.data }, { on := 9, ground := Ground.chain }, { on := 0, ground := Ground.phase }, { on := 1, ground := Ground.phase }, { on := 2, ground := Ground.phase }, { on := 3, ground := Ground.phase }, { on := 4, ground := Ground.phase }, { on := 5, ground := Ground.phase }, { on := 6, ground := Ground.phase }, { on := 7, ground := Ground.phase }, { on := 8, ground := Ground.phase }, { on := 9, ground := Ground.phase }, { on := 10, ground := Ground.phase }, { on := 11, ground := Ground.phase }], guard := none }) rfl (fun K hK => ?_) (AllReadyH.nil)
    go_simp
    refine hK.out _ _ (HX3.out.trans ((Only.six x3 (w.heap.size + 1 + 1) _ _ _ _ _ _).mono (fun _ _ h => .inr h)) (fun _ _ h => h)) (fun hHeld => ?_)
    clear hK K
    try simp only [Act.put, List.setIfInBounds_toArray, List.set_cons_zero, List.set_cons_succ]
    refine wpAnyH_take (i := 13) (oi := { dst := some 5, op := Op.assign (Operand.tmp 17), type := 35, pos := "deeds.go:53", after := #[{ on := 11, ground := Ground.data }, { on := 12, ground := Ground.chain }, { on := 0, ground := Ground.phase }, { on := 1, ground := Ground.phase }, { on := 2, ground := Ground.phase }, { on := 3, ground := Ground.phase }, { on := 4, ground := Ground.phase }, { on := 5, ground := Ground.phase }, { on := 6, ground := Ground.phase }, { on := 7, ground := Ground.phase }, { on := 8, ground := Ground.phase }, { on := 9, ground := Ground.phase }, { on := 10, ground := Ground.phase }, { on := 11, ground := Ground.phase }, { on := 12, ground := Ground.phase }], guard := none }) (v := .int .i64 C) rfl (by kernel_rfl) (by kernel_rfl) (by kernel_rfl) (fun _ _ _ h => h) (Or.inl ⟨by rfl, fun w' hSw => by clear hSw; go_simp⟩) (by assumption) ?_
    simp only [Act.put, List.setIfInBounds_toArray, List.set_cons_zero, List.set_cons_succ]
    refine wpAnyH_done (by kernel_rfl) ?_ _
    refine NoPanic.normal ?_
    go_wp2_with fail
    refine bodyPost_ret (results_page rfl rfl (Pag.six HQ3.out _ _ _ _ _ _)) rfl ?_
    exact deR_six HLT.out.1 HD.out HOW.out _ (by omega) HLT.out.2 _ _ _ _ _ _
end Go.Proofs.YtphofhicehncgaaGreat

namespace Go.Proofs.YtphofhicehncgaaGreat
open Go.RowKit

/-- What an Undo makes of the items. -/
def undL (R : Rc) (l : List ByteArray) : List ByteArray × Int := if R.old = 0 ∧ R.new = 0 then chgL cgD [R.slot] l else chgL (cgE R.old R.new) [R.slot] l
theorem undL_len (R : Rc) (l : List ByteArray) : (undL R l).1.length ≤ l.length := by
  unfold undL
  split <;> exact chgL_len _ _ _
set_option maxRecDepth 100000 in
set_option maxHeartbeats 3200000 in
theorem undo_any (w : World) (a k v r : Int) (h : ByteArray) (base : Nat) (sl : Value) (l : List ByteArray) (hL : Ls w base sl l) (hsz : ∀ s ∈ l, s.size ≤ 140737488355328) (hln : l.length ≤ 8796093022207) (R : Rc) (L : Loc) (hn : -9223372036854775808 ≤ R.new ∧ R.new < 9223372036854775808) :
    Calls Tryz.prog 20 #[.agg #[.int .i64 a, .int .i64 k, .int .i64 v, .int .i64 r, .string h, sl], .agg (R.cells L)] w fun e w' => DeR w w' sl e (Pg.chg ⟨a, k, v, r, h, l⟩ (undL R l)) (undL R l).2 := by
  have HB := hide (boxR_new w a k v r h sl R L)
  have HOW : Hid (∀ j, sl.ownBlock = some j → j < w.heap.size) := fun j hj => (World.ownsRow.lt hL j hj).2
  by_cases hz : R.old = 0 ∧ R.new = 0
  · unfold undL
    rw [if_pos hz]
    obtain ⟨P, hP⟩ : ∃ P, Pg.chg ⟨a, k, v, r, h, l⟩ (chgL cgD [R.slot] l) = P := ⟨_, rfl⟩
    obtain ⟨C, hC⟩ : ∃ C, (chgL cgD [R.slot] l).2 = C := ⟨_, rfl⟩
    have HCH : Hid (∀ W zb, Only (fun _ => False) w W → Zs W zb (some ⟨zb, 0, none⟩) [R.slot] → w.heap.size ≤ zb → Calls Tryz.prog 39 #[.agg #[.int .i64 a, .int .i64 k, .int .i64 v, .int .i64 r, .string h, sl], .func (.func 41) #[] #[], .slice (some ⟨zb, 0, none⟩) 1 1] W fun e w' => DeR W w' sl e P C) := fun W zb ho hzs g0 => by
      refine (changed_D W a k v r h base sl l (hL.more ho) hsz [R.slot] zb 1 (some ⟨zb, 0, none⟩) hzs (fun _ q => by have := HOW.out _ q; omega)).mono ?_
      intro e w' hq
      rw [← hP, ← hC]
      exact hq.der (Nat.le_trans (chgL_len _ _ _) hln)
    rw [hP, hC]
    obtain ⟨z1, z2⟩ := hz
    clear hP hC hL hsz hln hn
    go_enter Tryz.func20, Tryz.ntmps20
    go_upto_region 1 with fail
    obtain ⟨W0, hW0⟩ : ∃ x, boxR w a k v r h sl R L = x := ⟨_, rfl⟩
    rw [hW0] at HB
    unfold boxR at hW0
    rw [hW0]
    clear hW0
    obtain ⟨p0, p1, p2, p3, p4, p5, _⟩ := HB.out.pag
    have r6 := HB.out.rc.c6
    have r7 := HB.out.rc.c7
    have r8 := HB.out.rc.c8
    rw [z1] at r7
    rw [z2] at r8
    have HZS := hide (zs_one W0 R.slot)
    have HBA := hide (HB.out.more (onlyA W0 (.cells #[.int .i64 R.slot] 3)))
    have hb0 := HB.out.only.size
    go_wp2_with fail
    refine (HCH.out _ _ HBA.out.only HZS.out hb0).mono ?_
    clear p0 p1 p2 p3 p4 p5 r6 r7 r8 HB hb0
    rintro e w9 hd
    have HD := hide hd
    obtain ⟨B3, ao3, cp3, rfl, _, _, ho3, _⟩ := hd
    have HQ := hide (HBA.out.res.kept ho3 (fun q => by have := HOW.out _ q; omega))
    obtain ⟨q0, q1, q2, q3, q4, q5, g0, g1, g2, g3, g4, g5, ql⟩ := HQ.out
    have hlt := HBA.out.res.lt
    clear ho3
    go_wp2_with fail
    refine bodyPost_ret (results_page rfl rfl (Pag.six HQ.out _ _ _ _ _ _)) rfl ?_
    exact deR_six HBA.out.only HD.out HOW.out _ (by omega) hlt _ _ _ _ _ _
  · unfold undL
    rw [if_neg hz]
    obtain ⟨P, hP⟩ : ∃ P, Pg.chg ⟨a, k, v, r, h, l⟩ (chgL (cgE R.old R.new) [R.slot] l) = P := ⟨_, rfl⟩
    obtain ⟨C, hC⟩ : ∃ C, (chgL (cgE R.old R.new) [R.slot] l).2 = C := ⟨_, rfl⟩
    have HCH : Hid (∀ W, Only (fun _ => False) w W → Calls Tryz.prog 19 #[.agg #[.int .i64 a, .int .i64 k, .int .i64 v, .int .i64 r, .string h, sl], .agg (R.cells L)] W fun e w' => DeR W w' sl e P C) := fun W ho => by
      rw [← hP, ← hC]
      exact mark_any W a k v r h base sl l (hL.more ho) hsz hln R L hn
    rw [hP, hC]
    clear hP hC hL hsz hln hn
    go_enter Tryz.func20, Tryz.ntmps20
    go_upto_region 1 with fail
    obtain ⟨W0, hW0⟩ : ∃ x, boxR w a k v r h sl R L = x := ⟨_, rfl⟩
    rw [hW0] at HB
    unfold boxR at hW0
    rw [hW0]
    clear hW0
    obtain ⟨p0, p1, p2, p3, p4, p5, _⟩ := HB.out.pag
    have r7 := HB.out.rc.c7
    have r8 := HB.out.rc.c8
    by_cases hz1 : R.old = 0
    · have hz2 : (R.new == 0) = false := by simpa using fun e => hz ⟨hz1, e⟩
      have hz3 : (R.old == 0) = true := by simpa using hz1
      go_wp2_with (refine wpList_load_rc rfl (.tmp 3) rfl (w.heap.size + 1) rfl R L HB.out.rc.range ?_; go_frame)
      refine (HCH.out _ HB.out.only).mono ?_
      clear p0 p1 p2 p3 p4 p5 r7 r8
      rintro e w9 hd
      have HD := hide hd
      obtain ⟨B3, ao3, cp3, rfl, _, _, ho3, _⟩ := hd
      have HQ := hide (HB.out.res.kept ho3 (fun q => by have := HOW.out _ q; omega))
      obtain ⟨q0, q1, q2, q3, q4, q5, g0, g1, g2, g3, g4, g5, ql⟩ := HQ.out
      have hlt := HB.out.res.lt
      clear ho3
      go_wp2_with fail
      refine bodyPost_ret (results_page rfl rfl (Pag.six HQ.out _ _ _ _ _ _)) rfl ?_
      exact deR_six HB.out.only HD.out HOW.out _ (by omega) hlt _ _ _ _ _ _
    · have hz3 : (R.old == 0) = false := by simpa using hz1
      go_wp2_with (refine wpList_load_rc rfl (.tmp 3) rfl (w.heap.size + 1) rfl R L HB.out.rc.range ?_; go_frame)
      refine (HCH.out _ HB.out.only).mono ?_
      clear p0 p1 p2 p3 p4 p5 r7 r8
      rintro e w9 hd
      have HD := hide hd
      obtain ⟨B3, ao3, cp3, rfl, _, _, ho3, _⟩ := hd
      have HQ := hide (HB.out.res.kept ho3 (fun q => by have := HOW.out _ q; omega))
      obtain ⟨q0, q1, q2, q3, q4, q5, g0, g1, g2, g3, g4, g5, ql⟩ := HQ.out
      have hlt := HB.out.res.lt
      clear ho3
      go_wp2_with fail
      refine bodyPost_ret (results_page rfl rfl (Pag.six HQ.out _ _ _ _ _ _)) rfl ?_
      exact deR_six HB.out.only HD.out HOW.out _ (by omega) hlt _ _ _ _ _ _
theorem deR_six2 {w W5 W6 : World} {sl : Value} {e : Ending} {p : Pg} {c : Int} (hw : Only (fun j => sl.ownBlock = some j) w W5) (h : DeR W5 W6 sl e p c) (own : ∀ j, sl.ownBlock = some j → j < w.heap.size) (rb : Nat) (h1 : w.heap.size ≤ rb) (h2 : rb < W5.heap.size) (v0 v1 v2 v3 v4 v5 : Value) :
    DeR w ((((((W6.setCell ⟨rb, 0, none⟩ v0).setCell ⟨rb, 1, none⟩ v1).setCell ⟨rb, 2, none⟩ v2).setCell ⟨rb, 3, none⟩ v3).setCell ⟨rb, 4, none⟩ v4).setCell ⟨rb, 5, none⟩ v5) sl e p c := by
  obtain ⟨B, ao, cp, he, hS, hF, ho, hB⟩ := h
  have h6 := Only.six W6 rb v0 v1 v2 v3 v4 v5
  refine ⟨B, ao, cp, he, hS.kept h6 (fun h0 e => ?_), hF, (hw.trans ho (fun _ _ h => h)).trans h6 (fun i hi e => by omega), fun h0 => (hB h0).imp id (fun h => Nat.le_trans hw.size h)⟩
  rcases hB h0 with h | h
  · have := own _ h
    omega
  · omega
/-- What a Freeze makes of the items. -/
def frzL (R : Rc) (l : List ByteArray) : List ByteArray × Int := if (chgL cgF R.slots l).2 = 0 then chgL cgX R.more (chgL cgF R.slots l).1 else chgL cgF R.slots l
theorem frzL_len (R : Rc) (l : List ByteArray) : (frzL R l).1.length ≤ l.length := by
  unfold frzL
  split
  · exact Nat.le_trans (chgL_len _ _ _) (chgL_len _ _ _)
  · exact chgL_len _ _ _
set_option maxRecDepth 100000 in
set_option maxHeartbeats 3200000 in
theorem freeze_go (w : World) (a k v r : Int) (h : ByteArray) (base : Nat) (ao : Option Addr) (n cp : Nat) (l : List ByteArray) (hL : Ls w base (.slice ao n cp) l) (hsz : ∀ s ∈ l, s.size ≤ 140737488355328) (hln : l.length ≤ 8796093022207) (R : Rc) (L : Loc) (hz1 : Zs w L.b1 L.a1 R.slots) (hn1 : 0 < R.slots.length → ¬ (Value.slice ao n cp).ownBlock = some L.b1) (hz2 : Zs w L.b2 L.a2 R.more) (hn2 : 0 < R.more.length → ¬ (Value.slice ao n cp).ownBlock = some L.b2) :
    Calls Tryz.prog 24 #[.agg #[.int .i64 a, .int .i64 k, .int .i64 v, .int .i64 r, .string h, (.slice ao n cp)], .agg (R.cells L)] w fun e w' => DeR w w' (.slice ao n cp) e (Pg.chg ⟨a, k, v, r, h, l⟩ (frzL R l)) (frzL R l).2 := by
  have HB := hide (boxR_new w a k v r h (.slice ao n cp) R L)
  have HOW : Hid (∀ j, (Value.slice ao n cp).ownBlock = some j → j < w.heap.size) := fun j hj => (World.ownsRow.lt hL j hj).2
  have HCF : Hid (∀ W, Only (fun _ => False) w W → Calls Tryz.prog 39 #[.agg #[.int .i64 a, .int .i64 k, .int .i64 v, .int .i64 r, .string h, (.slice ao n cp)], .func (.func 48) #[] #[], .slice L.a1 R.slots.length L.c1] W fun e w' => ChQ W w' base (.slice ao n cp) e ⟨a, k, v, r, h, [⟨#[]⟩]⟩ (chgL cgF R.slots l)) := fun W ho => changed_F W a k v r h base (.slice ao n cp) l (hL.more ho) hsz R.slots L.b1 L.c1 L.a1 (hz1.more ho) hn1
  have HCX : Hid (∀ W m, Only (fun j => (Value.slice ao n cp).ownBlock = some j) w W → Ls W base (.slice ao n cp) m → (∀ s ∈ m, s.size ≤ 140737488355328) → Calls Tryz.prog 39 #[.agg #[.int .i64 a, .int .i64 k, .int .i64 v, .int .i64 r, .string h, (.slice ao n cp)], .func (.func 49) #[] #[], .slice L.a2 R.more.length L.c2] W fun e w' => ChQ W w' base (.slice ao n cp) e ⟨a, k, v, r, h, [⟨#[]⟩]⟩ (chgL cgX R.more m)) := fun W m ho hm hs => changed_X W a k v r h base (.slice ao n cp) m hm hs R.more L.b2 L.c2 L.a2 (hz2.kept ho hn2) hn2
  have HLN : Hid ((chgL cgF R.slots l).1.length ≤ 8796093022207) := Nat.le_trans (chgL_len _ _ _) hln
  unfold frzL
  obtain ⟨X, hX⟩ : ∃ X, chgL cgF R.slots l = X := ⟨_, rfl⟩
  rw [hX] at HCF HLN
  rw [hX]
  clear hX hL hsz hln hz1 hz2 hn1 hn2
  by_cases hx : X.2 = 0
  · rw [if_pos hx]
    obtain ⟨P, hP⟩ : ∃ P, Pg.chg ⟨a, k, v, r, h, l⟩ (chgL cgX R.more X.1) = P := ⟨_, rfl⟩
    obtain ⟨C, hC⟩ : ∃ C, (chgL cgX R.more X.1).2 = C := ⟨_, rfl⟩
    have HCY : Hid (∀ W, Only (fun j => (Value.slice ao n cp).ownBlock = some j) w W → Ls W base (.slice ao n cp) X.1 → (∀ s ∈ X.1, s.size ≤ 140737488355328) → Calls Tryz.prog 39 #[.agg #[.int .i64 a, .int .i64 k, .int .i64 v, .int .i64 r, .string h, (.slice ao n cp)], .func (.func 49) #[] #[], .slice L.a2 R.more.length L.c2] W fun e w' => DeR W w' (.slice ao n cp) e P C) := fun W ho hm hs => (HCX.out W X.1 ho hm hs).mono (fun e w' hq => by
      rw [← hP, ← hC]
      exact hq.der (Nat.le_trans (chgL_len _ _ _) HLN.out))
    rw [hP, hC]
    clear hP hC HCX HLN
    go_enter Tryz.func24, Tryz.ntmps24
    go_upto_region 1 with fail
    obtain ⟨W0, hW0⟩ : ∃ x, boxR w a k v r h (.slice ao n cp) R L = x := ⟨_, rfl⟩
    rw [hW0] at HB
    unfold boxR at hW0
    rw [hW0]
    clear hW0
    obtain ⟨p0, p1, p2, p3, p4, p5, _⟩ := HB.out.pag
    have r11 := HB.out.rc.c11
    go_wp2_with fail
    refine (HCF.out _ HB.out.only).mono ?_
    rintro e w1 hq
    obtain ⟨rfl, hl1, hs1⟩ := hq.good hx
    have ho1 := hq.only
    have hnp : ¬ (Value.slice ao n cp).ownBlock = some w.heap.size := fun q => by have := HOW.out _ q; omega
    have hnr : ¬ (Value.slice ao n cp).ownBlock = some (w.heap.size + 1) := fun q => by have := HOW.out _ q; omega
    have hnq : ¬ (Value.slice ao n cp).ownBlock = some (w.heap.size + 1 + 1) := fun q => by have := HOW.out _ q; omega
    have HP1 := hide (HB.out.pag.kept ho1 hnp)
    have HR1 := hide (HB.out.rc.kept ho1 hnr)
    have HQ1 := hide (HB.out.res.kept ho1 hnq)
    have HL1 := hide hl1
    have HS1 := hide hs1
    have HO1 : Hid (Only (fun j => (Value.slice ao n cp).ownBlock = some j) w w1) := (HB.out.only.mono (fun _ _ h => h.elim)).trans ho1 (fun _ _ h => h)
    clear p0 p1 p2 p3 p4 p5 r11 hq hl1 hs1 ho1 hnp hnr hnq HB HCF
    obtain ⟨p0, p1, p2, p3, p4, p5, t0, t1, t2, t3, t4, t5, pl⟩ := HP1.out
    go_upto_region 2 with fail
    have h6 := Only.six w1 w.heap.size (.int .i64 a) (.int .i64 k) (.int .i64 v) (.int .i64 r) (.string h) (.slice ao n cp)
    have HP2 := hide (HP1.out.six (.int .i64 a) (.int .i64 k) (.int .i64 v) (.int .i64 r) (.string h) (.slice ao n cp))
    have HR2 := hide (HR1.out.kept h6 (by omega))
    have HQ2 := hide (HQ1.out.kept h6 (by omega))
    have HL2 := hide (HL1.out.kept h6 (fun j hj e => by have := HOW.out j hj; omega))
    have HO2 := hide (HO1.out.trans h6 (fun i hi e => by omega))
    obtain ⟨w2, hw2⟩ : ∃ x, ((((((w1.setCell ⟨w.heap.size, 0, none⟩ (.int .i64 a)).setCell ⟨w.heap.size, 1, none⟩ (.int .i64 k)).setCell ⟨w.heap.size, 2, none⟩ (.int .i64 v)).setCell ⟨w.heap.size, 3, none⟩ (.int .i64 r)).setCell ⟨w.heap.size, 4, none⟩ (.string h)).setCell ⟨w.heap.size, 5, none⟩ (.slice ao n cp)) = x := ⟨_, rfl⟩
    rw [hw2] at HP2 HR2 HQ2 HL2 HO2 ⊢
    clear hw2 h6 HP1 HR1 HQ1 HL1 HO1 p0 p1 p2 p3 p4 p5 t0 t1 t2 t3 t4 t5 pl
    obtain ⟨p0, p1, p2, p3, p4, p5, _⟩ := HP2.out
    have r12 := HR2.out.c12
    go_wp2_with fail
    refine (HCY.out _ HO2.out HL2.out HS1.out).mono ?_
    clear p0 p1 p2 p3 p4 p5 r12 HCY HP2 HR2
    rintro e w9 hd
    have HD := hide hd
    obtain ⟨B3, ao3, cp3, rfl, _, _, ho3, _⟩ := hd
    have HQ := hide (HQ2.out.kept ho3 (fun q => by have := HOW.out _ q; omega))
    obtain ⟨q0, q1, q2, q3, q4, q5, g0, g1, g2, g3, g4, g5, ql⟩ := HQ.out
    have hlt := HQ2.out.lt
    clear ho3
    go_wp2_with fail
    refine bodyPost_ret (results_page rfl rfl (Pag.six HQ.out _ _ _ _ _ _)) rfl ?_
    exact deR_six2 HO2.out HD.out HOW.out _ (by omega) hlt _ _ _ _ _ _
  · rw [if_neg hx]
    have hxb : (X.2 == 0) = false := by simpa using hx
    have e9 : Pg.chg ⟨a, k, v, r, h, l⟩ X = .none := by unfold Pg.chg; rw [if_neg hx]
    rw [e9]
    clear e9 HCX HLN
    obtain ⟨z, hz⟩ : ∃ z, X.2 = z := ⟨_, rfl⟩
    rw [hz] at hxb ⊢
    go_enter Tryz.func24, Tryz.ntmps24
    go_upto_region 1 with fail
    obtain ⟨W0, hW0⟩ : ∃ x, boxR w a k v r h (.slice ao n cp) R L = x := ⟨_, rfl⟩
    rw [hW0] at HB
    unfold boxR at hW0
    rw [hW0]
    clear hW0
    obtain ⟨p0, p1, p2, p3, p4, p5, _⟩ := HB.out.pag
    have r11 := HB.out.rc.c11
    go_wp2_with fail
    refine (HCF.out _ HB.out.only).mono ?_
    rintro e w1 hq
    have he := hq.bad hx
    rw [hz] at he
    subst he
    have ho1 := hq.only
    have hnp : ¬ (Value.slice ao n cp).ownBlock = some w.heap.size := fun q => by have := HOW.out _ q; omega
    have hnq : ¬ (Value.slice ao n cp).ownBlock = some (w.heap.size + 1 + 1) := fun q => by have := HOW.out _ q; omega
    have HP1 := hide (HB.out.pag.kept ho1 hnp)
    have HQ1 := hide (HB.out.res.kept ho1 hnq)
    have HO1 : Hid (Only (fun j => (Value.slice ao n cp).ownBlock = some j) w w1) := (HB.out.only.mono (fun _ _ h => h.elim)).trans ho1 (fun _ _ h => h)
    clear p0 p1 p2 p3 p4 p5 r11 hq ho1 hnp hnq HB HCF
    obtain ⟨p0, p1, p2, p3, p4, p5, t0, t1, t2, t3, t4, t5, pl⟩ := HP1.out
    go_upto_region 2 with fail
    have h6 := Only.six w1 w.heap.size (.int .i64 0) (.int .i64 0) (.int .i64 0) (.int .i64 0) (.string ⟨#[]⟩) (.slice none 0 0)
    have HQ2 := hide (HQ1.out.kept h6 (by omega))
    have HO2 := hide (HO1.out.trans h6 (fun i hi e => by omega))
    obtain ⟨w2, hw2⟩ : ∃ x, ((((((w1.setCell ⟨w.heap.size, 0, none⟩ (.int .i64 0)).setCell ⟨w.heap.size, 1, none⟩ (.int .i64 0)).setCell ⟨w.heap.size, 2, none⟩ (.int .i64 0)).setCell ⟨w.heap.size, 3, none⟩ (.int .i64 0)).setCell ⟨w.heap.size, 4, none⟩ (.string ⟨#[]⟩)).setCell ⟨w.heap.size, 5, none⟩ (.slice none 0 0)) = x := ⟨_, rfl⟩
    rw [hw2] at HQ2 HO2 ⊢
    clear hw2 h6 HP1 HQ1 HO1 p0 p1 p2 p3 p4 p5 t0 t1 t2 t3 t4 t5 pl
    obtain ⟨q0, q1, q2, q3, q4, q5, g0, g1, g2, g3, g4, g5, ql⟩ := HQ2.out
    go_wp2_with fail
    refine bodyPost_ret (results_page rfl rfl (Pag.six HQ2.out _ _ _ _ _ _)) rfl ?_
    exact deR_none (.slice ao n cp) z (HO2.out.trans (Only.six _ (w.heap.size + 1 + 1) _ _ _ _ _ _) (fun i hi e => by omega))
theorem freeze_any (w : World) (a k v r : Int) (h : ByteArray) (base : Nat) (sl : Value) (l : List ByteArray) (hL : Ls w base sl l) (hsz : ∀ s ∈ l, s.size ≤ 140737488355328) (hln : l.length ≤ 8796093022207) (R : Rc) (L : Loc) (hz1 : Zs w L.b1 L.a1 R.slots) (hn1 : 0 < R.slots.length → ¬ sl.ownBlock = some L.b1) (hz2 : Zs w L.b2 L.a2 R.more) (hn2 : 0 < R.more.length → ¬ sl.ownBlock = some L.b2) :
    Calls Tryz.prog 24 #[.agg #[.int .i64 a, .int .i64 k, .int .i64 v, .int .i64 r, .string h, sl], .agg (R.cells L)] w fun e w' => DeR w w' sl e (Pg.chg ⟨a, k, v, r, h, l⟩ (frzL R l)) (frzL R l).2 := by
  obtain ⟨ao, cp, rfl⟩ : ∃ ao cp, sl = .slice ao l.length cp := by
    rcases hL.2 with ⟨rfl, h0⟩ | ⟨g, cap, cur, rfl, _⟩
    · exact ⟨none, 0, by rw [h0]⟩
    · exact ⟨_, _, rfl⟩
  exact freeze_go w a k v r h base ao l.length cp l hL hsz hln R L hz1 hn1 hz2 hn2
end Go.Proofs.YtphofhicehncgaaGreat
