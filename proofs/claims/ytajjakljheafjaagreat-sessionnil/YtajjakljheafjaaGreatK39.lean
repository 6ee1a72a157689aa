/- Parts. -/
import Derived.Test.YtajjakljheafjaaGreatK38
set_option maxRecDepth 100000
namespace Go.Proofs.YtajjakljheafjaaGreat
open Go.RowKit
/-- Nothing is wanted with a page. -/
def NoP (w : World) (e : Ending) (w' : World) : Prop := e = .returned (.tuple #[.agg Hr.none.cells, .bool false]) ∧ Only (fun _ => False) w w'
set_option maxRecDepth 100000 in
set_option maxHeartbeats 1600000 in
theorem page_no (w : World) (p : Value) (V : Vv) (B : Pv) (fa : Option Addr) (fn fc : Nat)
    (hW : ∀ W, Only (fun _ => False) w W → Calls Tryz.prog 30 #[p, .int .i64 3] W fun e w' => e = .returned (.bool false) ∧ w' = W) :
    Calls Tryz.prog 12 #[p, .agg V.ar, .agg B.ar, .slice fa fn fc] w (NoP w) := by
  have H3 := hide (St3.new w V B)
  have HW := hide hW
  clear hW
  unfold Vv.ar Pv.ar at *
  go_enter Tryz.func12, Tryz.ntmps12
  go_upto_region 1 with fail
  obtain ⟨W0, hW0⟩ : ∃ y, ((w.alloc (.cells #[.int .i64 V.m, .int .i64 V.nx, .slice V.aA V.nA V.cA, .int .i64 V.ow, .slice V.aR V.nR V.cR, .int .i64 V.l, .int .i64 V.k, .int .i64 V.v, .int .i64 V.r, .string V.h, .slice V.aP V.nP V.cP] 42)).alloc (.cells #[.int .i64 B.a, .int .i64 B.k, .int .i64 B.v, .int .i64 B.r, .string B.h, .slice B.ao B.n B.cp] 37)).alloc (.cells Hr.none.cells 50) = y := ⟨_, rfl⟩
  rw [hW0] at H3 ⊢
  clear hW0
  go_wp2_with fail
  refine (HW.out _ H3.out.only).mono ?_
  rintro x w1 ⟨rfl, h1⟩
  obtain rfl := h1.symm
  go_wp2_with fail
  refine (nothing_any _).mono ?_
  rintro x w5 ⟨rfl, ho⟩
  have HR5 := hide (H3.out.rb.more ho)
  have HO5 := hide (o2 H3.out.only ho)
  clear ho
  unfold noRec
  go_wp2_with (refine wpList_put_cb rfl 50 (.tmp 8) (.tmp 14) rfl (w.heap.size + 1 + 1) rfl Hr.none.cl Hr.none.cl rfl Tryz.sizeRecF rfl rfl HR5.out ?_; intro W9 HW9; go_frame)
  refine bodyPost_ret (results_cb16 rfl rfl HW9.out.1 rfl) rfl ?_
  exact ⟨rfl, HO5.out.trans HW9.out.2 (fun i hi e => by omega)⟩
set_option maxRecDepth 100000 in
set_option maxHeartbeats 1600000 in
theorem page_down (w : World) (Z : Nat → Prop) (p : Nat) (P : Pn) (h : Pm w Z p P) (V : Vv) (B : Pv) (fa : Option Addr) (fn fc : Nat) (hk : P.wk = 3) (hsh : P.sh = some 92) (R : Pn → List Value → Bool → Prop)
    (hT : ∀ W, Pm W Z p P → Only (fun _ => False) w W → Calls Tryz.prog 92 #[.pointer (some ⟨p, 0, none⟩), .agg V.ar, .agg B.ar, .slice fa fn fc] W (SQ W Z p R)) :
    Calls Tryz.prog 12 #[.pointer (some ⟨p, 0, none⟩), .agg V.ar, .agg B.ar, .slice fa fn fc] w (SQ w Z p R) := by
  have H3 := hide (St3.new w V B)
  have HH := hide (h.more H3.out.only)
  have HT := hide hT
  have HZW := hide h.zlt
  have HZP : Hid (Z p) := h.zp
  have HWN : Hid (∀ W, Pm W Z p P → Calls Tryz.prog 30 #[.pointer (some ⟨p, 0, none⟩), .int .i64 3] W fun e w' => e = .returned (.bool true) ∧ w' = W) := fun W hW => by
    have := wants_any W Z p P hW 3
    rw [hk] at this
    exact this
  have c10 := HH.out.cb.c 10 _ rfl
  rw [hsh] at c10
  unfold fv at c10
  simp only [] at c10
  clear h hT hk hsh
  unfold Vv.ar Pv.ar at *
  have HNV : Hid (¬ Z w.heap.size) := fun q => by have := HZW.out _ q; omega
  have HNP : Hid (¬ Z (w.heap.size + 1)) := fun q => by have := HZW.out _ q; omega
  have HNR : Hid (¬ Z (w.heap.size + 1 + 1)) := fun q => by have := HZW.out _ q; omega
  go_enter Tryz.func12, Tryz.ntmps12
  go_upto_region 1 with fail
  obtain ⟨W0, hW0⟩ : ∃ y, ((w.alloc (.cells #[.int .i64 V.m, .int .i64 V.nx, .slice V.aA V.nA V.cA, .int .i64 V.ow, .slice V.aR V.nR V.cR, .int .i64 V.l, .int .i64 V.k, .int .i64 V.v, .int .i64 V.r, .string V.h, .slice V.aP V.nP V.cP] 42)).alloc (.cells #[.int .i64 B.a, .int .i64 B.k, .int .i64 B.v, .int .i64 B.r, .string B.h, .slice B.ao B.n B.cp] 37)).alloc (.cells Hr.none.cells 50) = y := ⟨_, rfl⟩
  rw [hW0] at H3 HH c10 ⊢
  clear hW0
  have HSZ0 : Hid (w.heap.size + 1 + 1 < W0.heap.size) := H3.out.rb.lt
  go_wp2_with fail
  refine (HWN.out _ HH.out).mono ?_
  rintro x w1 ⟨rfl, h1⟩
  obtain rfl := h1.symm
  go_upto_region 3 with fail
  refine wp_region_noPanic ?_
  refine wp_region_held_drew (S := fun W => Cb W w.heap.size V.ar.toList ∧ Cb W (w.heap.size + 1) B.ar.toList) (by kernel_rfl) (⟨H3.out.vb.more (Only.drew _ _), H3.out.pb.more (Only.drew _ _)⟩) (fun hHeld => ?_)
  refine wpAnyH_take (i := 0) (oi := { dst := some 16, op := Op.move (Operand.tmp 0), type := 27, pos := "session.go:84", after := #[], guard := none }) (v := .pointer (some ⟨p, 0, none⟩)) rfl (by kernel_rfl) (by kernel_rfl) (by kernel_rfl) (fun _ _ _ h => h) (Or.inl ⟨by rfl, fun w' hSw => by clear hSw; go_simp⟩) (by assumption) ?_
  simp only [Act.put, List.setIfInBounds_toArray, List.set_cons_zero, List.set_cons_succ]
  refine wpAnyH_take (i := 4) (oi := { dst := some 20, op := Op.load 42 (Operand.tmp 5), type := 42, pos := "session.go:84", after := #[], guard := none }) (v := .agg V.ar) rfl (by kernel_rfl) (by kernel_rfl) (by kernel_rfl) (fun _ _ _ h => h) (yieldsIf_load_view (by rfl) _ rfl rfl (fun W hW => hW.1)) (by assumption) ?_
  simp only [Act.put, List.setIfInBounds_toArray, List.set_cons_zero, List.set_cons_succ]
  refine wpAnyH_take (i := 5) (oi := { dst := some 21, op := Op.load 37 (Operand.tmp 6), type := 37, pos := "session.go:84", after := #[], guard := none }) (v := .agg #[.int .i64 B.a, .int .i64 B.k, .int .i64 B.v, .int .i64 B.r, .string B.h, .slice B.ao B.n B.cp]) rfl (by kernel_rfl) (by kernel_rfl) (by kernel_rfl) (fun _ _ _ h => h) (yieldsIf_load_page (by rfl) _ rfl _ rfl (fun W hW => hW.2.pag)) (by assumption) ?_
  simp only [Act.put, List.setIfInBounds_toArray, List.set_cons_zero, List.set_cons_succ]
  refine wpAnyH_take (i := 6) (oi := { dst := some 22, op := Op.move (Operand.tmp 3), type := 38, pos := "session.go:84", after := #[], guard := none }) (v := .slice fa fn fc) rfl (by kernel_rfl) (by kernel_rfl) (by kernel_rfl) (fun _ _ _ h => h) (Or.inl ⟨by rfl, fun w' hSw => by clear hSw; go_simp⟩) (by assumption) ?_
  simp only [Act.put, List.setIfInBounds_toArray, List.set_cons_zero, List.set_cons_succ]
  refine wpAnyH_take (i := 1) (oi := { dst := some 17, op := Op.nilCheck (Operand.tmp 16), type := 0, pos := "session.go:84", after := #[{ on := 0, ground := Ground.data }], guard := none }) (v := .pointer (some ⟨p, 0, none⟩)) rfl (by kernel_rfl) (by kernel_rfl) (by kernel_rfl) (fun _ _ _ h => h) (Or.inl ⟨by rfl, fun w' hSw => by clear hSw; go_simp⟩) (by assumption) ?_
  simp only [Act.put, List.setIfInBounds_toArray, List.set_cons_zero, List.set_cons_succ]
  refine wpAnyH_take (i := 2) (oi := { dst := some 18, op := Op.fieldAddr 96 (Operand.tmp 17) 3, type := 0, pos := "session.go:84", after := #[{ on := 1, ground := Ground.data }], guard := none }) (v := .pointer (some ⟨p, 10, none⟩)) rfl (by kernel_rfl) (by kernel_rfl) (by kernel_rfl) (fun _ _ _ h => h) (Or.inl ⟨by rfl, fun w' hSw => by clear hSw; go_simp⟩) (by assumption) ?_
  simp only [Act.put, List.setIfInBounds_toArray, List.set_cons_zero, List.set_cons_succ]
  refine wpAnyH_ready (rs := [3]) (by kernel_rfl) (by simp) ?_
  refine AllReadyH.cons (o := { dst := some 19, op := Op.load 87 (Operand.tmp 18), type := 87, pos := "session.go:84", after := #[{ on := 2, ground := Ground.data }], guard := none }) rfl (fun K hK => ?_) (AllReadyH.nil)
  go_simp
  refine hK.out _ _ (hHeld) (fun hHeld => ?_)
  clear hK K
  try simp only [Act.put, List.setIfInBounds_toArray, List.set_cons_zero, List.set_cons_succ]
  refine wpAnyH_ready (rs := [7]) (by kernel_rfl) (by simp) ?_
  refine AllReadyH.cons (o := { dst := some 23, op := Op.call { callee := Callee.value (Operand.tmp 19), args := #[Operand.tmp 20, Operand.tmp 21, Operand.tmp 22], argTypes := #[42, 37, 38] }, type := 51, pos := "session.go:84", after := #[{ on := 3, ground := Ground.data }, { on := 4, ground := Ground.data }, { on := 5, ground := Ground.data }, { on := 6, ground := Ground.data }], guard := none }) rfl (fun K hK => ?_) (AllReadyH.nil)
  go_simp
  refine (HT.out _ (HH.out.more (Only.drew _ _)) (o2 H3.out.only (Only.drew _ _))).mono ?_
  rintro x w3 ⟨Z5, P5, cs, is, ⟨rfl, hcs, hone⟩, hz5, hp5, ho5, hR⟩
  have HS3 := hide (And.intro (H3.out.vb.kept ((Only.drew Z W0).trans ho5 (fun _ _ e => e) : Only Z W0 w3) HNV.out) (H3.out.pb.kept ((Only.drew Z W0).trans ho5 (fun _ _ e => e) : Only Z W0 w3) HNP.out))
  have HRB3 := hide (H3.out.rb.kept ((Only.drew Z W0).trans ho5 (fun _ _ e => e) : Only Z W0 w3) HNR.out)
  have HTH : Hid (w3.there (w.heap.size + 1 + 1) 0 cs.toArray.size) := by have := HRB3.out.rg.there; rw [show Hr.none.cl.length = cs.length from hcs.symm] at this; unfold Hid; simpa using this
  have HSZ : Hid ((Tryz.prog.info? 50).map (·.size) = some cs.toArray.size) := by unfold Hid; rw [Tryz.sizeRecF, List.size_toArray, hcs]
  have HON : Hid (cs.toArray.all Value.oneCell' = true) := by unfold Hid; simpa using hone
  have HC4 : Hid (Cb (w3.setCells (w.heap.size + 1 + 1) 0 cs) (w.heap.size + 1 + 1) cs) := by have q := Cb.sets (c1 := []) (c2 := Hr.none.cl) (c3 := []) (by simpa using HRB3.out) cs hcs; unfold Hid; simpa using q
  have HS4 := hide (And.intro (HS3.out.1.kept (only_setCells (w.heap.size + 1 + 1) cs 0 w3) (by omega)) (HS3.out.2.kept (only_setCells (w.heap.size + 1 + 1) cs 0 w3) (by omega)))
  have HP5 := hide hp5
  have HO5 := hide ((H3.out.only.mono (fun _ _ e => e.elim) : Only Z w W0).trans ((Only.drew Z W0).trans ho5 (fun _ _ e => e) : Only Z W0 w3) (fun _ _ e => e))
  have HZ5 : Hid (∀ b, b < W0.heap.size → Z5 b → Z b) := hz5
  have HRR := hide hR
  have HCS := hide hcs
  have HON2 := hide hone
  clear hp5 ho5 hz5 hR hcs hone
  refine hK.out _ _ (HS3.out) (fun hHeld => ?_)
  clear hK K
  try simp only [Act.put, List.setIfInBounds_toArray, List.set_cons_zero, List.set_cons_succ]
  refine wpAnyH_take (i := 8) (oi := { dst := some 24, op := Op.extract (Operand.tmp 23) 0, type := 50, pos := "session.go:84", after := #[{ on := 7, ground := Ground.data }], guard := none }) (v := .agg cs.toArray) rfl (by kernel_rfl) (by kernel_rfl) (by kernel_rfl) (fun _ _ _ h => h) (Or.inl ⟨by rfl, fun w' hSw => by clear hSw; go_simp⟩) (by assumption) ?_
  simp only [Act.put, List.setIfInBounds_toArray, List.set_cons_zero, List.set_cons_succ]
  refine wpAnyH_take (i := 9) (oi := { dst := some 25, op := Op.extract (Operand.tmp 23) 1, type := 4, pos := "session.go:84", after := #[{ on := 7, ground := Ground.data }], guard := none }) (v := .bool is) rfl (by kernel_rfl) (by kernel_rfl) (by kernel_rfl) (fun _ _ _ h => h) (Or.inl ⟨by rfl, fun w' hSw => by clear hSw; go_simp⟩) (by assumption) ?_
  simp only [Act.put, List.setIfInBounds_toArray, List.set_cons_zero, List.set_cons_succ]
  refine wpAnyH_ready (rs := [10]) (by kernel_rfl) (by simp) ?_
  refine AllReadyH.cons (o := { dst := none, op := Op.store 50 (Operand.tmp 8) (Operand.tmp 24), type := 0, pos := "session.go:84", after := #[{ on := 8, ground := Ground.data }, { on := 7, ground := Ground.chain }, { on := 0, ground := Ground.phase }, { on := 1, ground := Ground.phase }, { on := 2, ground := Ground.phase }, { on := 3, ground := Ground.phase }, { on := 4, ground := Ground.phase }, { on := 5, ground := Ground.phase }, { on := 6, ground := Ground.phase }, { on := 7, ground := Ground.phase }, { on := 8, ground := Ground.phase }, { on := 9, ground := Ground.phase }], guard := none }) rfl (fun K hK => ?_) (AllReadyH.nil)
  rw [if_pos (by rfl)]
  refine wp_store_mid 50 (.tmp 8) (.tmp 24) rfl (w.heap.size + 1 + 1) 0 cs.toArray rfl rfl HTH.out HSZ.out HON.out ?_
  refine hK.out _ _ (HS4.out) (fun hHeld => ?_)
  clear hK K
  simp only [Act.put]
  refine wpAnyH_take (i := 11) (oi := { dst := some 9, op := Op.assign (Operand.tmp 25), type := 4, pos := "session.go:84", after := #[{ on := 9, ground := Ground.data }, { on := 10, ground := Ground.chain }, { on := 0, ground := Ground.phase }, { on := 1, ground := Ground.phase }, { on := 2, ground := Ground.phase }, { on := 3, ground := Ground.phase }, { on := 4, ground := Ground.phase }, { on := 5, ground := Ground.phase }, { on := 6, ground := Ground.phase }, { on := 7, ground := Ground.phase }, { on := 8, ground := Ground.phase }, { on := 9, ground := Ground.phase }, { on := 10, ground := Ground.phase }], guard := none }) (v := .bool is) rfl (by kernel_rfl) (by kernel_rfl) (by kernel_rfl) (fun _ _ _ h => h) (Or.inl ⟨by rfl, fun w' hSw => by clear hSw; go_simp⟩) (by assumption) ?_
  simp only [Act.put, List.setIfInBounds_toArray, List.set_cons_zero, List.set_cons_succ]
  refine wpAnyH_done (by kernel_rfl) ?_ _
  refine NoPanic.normal ?_
  go_wp2_with fail
  refine bodyPost_ret (results_cb16 rfl rfl HC4.out HCS.out) rfl ?_
  refine ⟨Z5, P5, cs, is, ⟨rfl, HCS.out, HON2.out⟩, fun b hb q => HZ5.out b (Nat.lt_trans hb (Nat.lt_trans (by omega) HSZ0.out)) q, HP5.out.late (only_setCells (w.heap.size + 1 + 1) cs 0 w3) (fun q => HNR.out (HZ5.out _ HSZ0.out q)), ?_, HRR.out⟩
  exact HO5.out.trans (only_setCells (w.heap.size + 1 + 1) cs 0 w3) (fun i hi e => by omega)
set_option maxRecDepth 100000 in
set_option maxHeartbeats 1600000 in
theorem page_thr (w : World) (Z : Nat → Prop) (p : Nat) (P : Pn) (h : Pm w Z p P) (V : Vv) (B : Pv) (fa : Option Addr) (fn fc : Nat) (hk : P.wk = 3) (hsh : P.sh = some 51) (R : Pn → List Value → Bool → Prop)
    (hT : ∀ W, Pm W Z p P → Only (fun _ => False) w W → Calls Tryz.prog 51 #[.pointer (some ⟨p, 0, none⟩), .agg V.ar, .agg B.ar, .slice fa fn fc] W (SQ W Z p R)) :
    Calls Tryz.prog 12 #[.pointer (some ⟨p, 0, none⟩), .agg V.ar, .agg B.ar, .slice fa fn fc] w (SQ w Z p R) := by
  have H3 := hide (St3.new w V B)
  have HH := hide (h.more H3.out.only)
  have HT := hide hT
  have HZW := hide h.zlt
  have HZP : Hid (Z p) := h.zp
  have HWN : Hid (∀ W, Pm W Z p P → Calls Tryz.prog 30 #[.pointer (some ⟨p, 0, none⟩), .int .i64 3] W fun e w' => e = .returned (.bool true) ∧ w' = W) := fun W hW => by
    have := wants_any W Z p P hW 3
    rw [hk] at this
    exact this
  have c10 := HH.out.cb.c 10 _ rfl
  rw [hsh] at c10
  unfold fv at c10
  simp only [] at c10
  clear h hT hk hsh
  unfold Vv.ar Pv.ar at *
  have HNV : Hid (¬ Z w.heap.size) := fun q => by have := HZW.out _ q; omega
  have HNP : Hid (¬ Z (w.heap.size + 1)) := fun q => by have := HZW.out _ q; omega
  have HNR : Hid (¬ Z (w.heap.size + 1 + 1)) := fun q => by have := HZW.out _ q; omega
  go_enter Tryz.func12, Tryz.ntmps12
  go_upto_region 1 with fail
  obtain ⟨W0, hW0⟩ : ∃ y, ((w.alloc (.cells #[.int .i64 V.m, .int .i64 V.nx, .slice V.aA V.nA V.cA, .int .i64 V.ow, .slice V.aR V.nR V.cR, .int .i64 V.l, .int .i64 V.k, .int .i64 V.v, .int .i64 V.r, .string V.h, .slice V.aP V.nP V.cP] 42)).alloc (.cells #[.int .i64 B.a, .int .i64 B.k, .int .i64 B.v, .int .i64 B.r, .string B.h, .slice B.ao B.n B.cp] 37)).alloc (.cells Hr.none.cells 50) = y := ⟨_, rfl⟩
  rw [hW0] at H3 HH c10 ⊢
  clear hW0
  have HSZ0 : Hid (w.heap.size + 1 + 1 < W0.heap.size) := H3.out.rb.lt
  go_wp2_with fail
  refine (HWN.out _ HH.out).mono ?_
  rintro x w1 ⟨rfl, h1⟩
  obtain rfl := h1.symm
  go_upto_region 3 with fail
  refine wp_region_noPanic ?_
  refine wp_region_held_drew (S := fun W => Cb W w.heap.size V.ar.toList ∧ Cb W (w.heap.size + 1) B.ar.toList) (by kernel_rfl) (⟨H3.out.vb.more (Only.drew _ _), H3.out.pb.more (Only.drew _ _)⟩) (fun hHeld => ?_)
  refine wpAnyH_take (i := 0) (oi := { dst := some 16, op := Op.move (Operand.tmp 0), type := 27, pos := "session.go:84", after := #[], guard := none }) (v := .pointer (some ⟨p, 0, none⟩)) rfl (by kernel_rfl) (by kernel_rfl) (by kernel_rfl) (fun _ _ _ h => h) (Or.inl ⟨by rfl, fun w' hSw => by clear hSw; go_simp⟩) (by assumption) ?_
  simp only [Act.put, List.setIfInBounds_toArray, List.set_cons_zero, List.set_cons_succ]
  refine wpAnyH_take (i := 4) (oi := { dst := some 20, op := Op.load 42 (Operand.tmp 5), type := 42, pos := "session.go:84", after := #[], guard := none }) (v := .agg V.ar) rfl (by kernel_rfl) (by kernel_rfl) (by kernel_rfl) (fun _ _ _ h => h) (yieldsIf_load_view (by rfl) _ rfl rfl (fun W hW => hW.1)) (by assumption) ?_
  simp only [Act.put, List.setIfInBounds_toArray, List.set_cons_zero, List.set_cons_succ]
  refine wpAnyH_take (i := 5) (oi := { dst := some 21, op := Op.load 37 (Operand.tmp 6), type := 37, pos := "session.go:84", after := #[], guard := none }) (v := .agg #[.int .i64 B.a, .int .i64 B.k, .int .i64 B.v, .int .i64 B.r, .string B.h, .slice B.ao B.n B.cp]) rfl (by kernel_rfl) (by kernel_rfl) (by kernel_rfl) (fun _ _ _ h => h) (yieldsIf_load_page (by rfl) _ rfl _ rfl (fun W hW => hW.2.pag)) (by assumption) ?_
  simp only [Act.put, List.setIfInBounds_toArray, List.set_cons_zero, List.set_cons_succ]
  refine wpAnyH_take (i := 6) (oi := { dst := some 22, op := Op.move (Operand.tmp 3), type := 38, pos := "session.go:84", after := #[], guard := none }) (v := .slice fa fn fc) rfl (by kernel_rfl) (by kernel_rfl) (by kernel_rfl) (fun _ _ _ h => h) (Or.inl ⟨by rfl, fun w' hSw => by clear hSw; go_simp⟩) (by assumption) ?_
  simp only [Act.put, List.setIfInBounds_toArray, List.set_cons_zero, List.set_cons_succ]
  refine wpAnyH_take (i := 1) (oi := { dst := some 17, op := Op.nilCheck (Operand.tmp 16), type := 0, pos := "session.go:84", after := #[{ on := 0, ground := Ground.data }], guard := none }) (v := .pointer (some ⟨p, 0, none⟩)) rfl (by kernel_rfl) (by kernel_rfl) (by kernel_rfl) (fun _ _ _ h => h) (Or.inl ⟨by rfl, fun w' hSw => by clear hSw; go_simp⟩) (by assumption) ?_
  simp only [Act.put, List.setIfInBounds_toArray, List.set_cons_zero, List.set_cons_succ]
  refine wpAnyH_take (i := 2) (oi := { dst := some 18, op := Op.fieldAddr 96 (Operand.tmp 17) 3, type := 0, pos := "session.go:84", after := #[{ on := 1, ground := Ground.data }], guard := none }) (v := .pointer (some ⟨p, 10, none⟩)) rfl (by kernel_rfl) (by kernel_rfl) (by kernel_rfl) (fun _ _ _ h => h) (Or.inl ⟨by rfl, fun w' hSw => by clear hSw; go_simp⟩) (by assumption) ?_
  simp only [Act.put, List.setIfInBounds_toArray, List.set_cons_zero, List.set_cons_succ]
  refine wpAnyH_ready (rs := [3]) (by kernel_rfl) (by simp) ?_
  refine AllReadyH.cons (o := { dst := some 19, op := Op.load 87 (Operand.tmp 18), type := 87, pos := "session.go:84", after := #[{ on := 2, ground := Ground.data }], guard := none }) rfl (fun K hK => ?_) (AllReadyH.nil)
  go_simp
  refine hK.out _ _ (hHeld) (fun hHeld => ?_)
  clear hK K
  try simp only [Act.put, List.setIfInBounds_toArray, List.set_cons_zero, List.set_cons_succ]
  refine wpAnyH_ready (rs := [7]) (by kernel_rfl) (by simp) ?_
  refine AllReadyH.cons (o := { dst := some 23, op := Op.call { callee := Callee.value (Operand.tmp 19), args := #[Operand.tmp 20, Operand.tmp 21, Operand.tmp 22], argTypes := #[42, 37, 38] }, type := 51, pos := "session.go:84", after := #[{ on := 3, ground := Ground.data }, { on := 4, ground := Ground.data }, { on := 5, ground := Ground.data }, { on := 6, ground := Ground.data }], guard := none }) rfl (fun K hK => ?_) (AllReadyH.nil)
  go_simp
  refine (HT.out _ (HH.out.more (Only.drew _ _)) (o2 H3.out.only (Only.drew _ _))).mono ?_
  rintro x w3 ⟨Z5, P5, cs, is, ⟨rfl, hcs, hone⟩, hz5, hp5, ho5, hR⟩
  have HS3 := hide (And.intro (H3.out.vb.kept ((Only.drew Z W0).trans ho5 (fun _ _ e => e) : Only Z W0 w3) HNV.out) (H3.out.pb.kept ((Only.drew Z W0).trans ho5 (fun _ _ e => e) : Only Z W0 w3) HNP.out))
  have HRB3 := hide (H3.out.rb.kept ((Only.drew Z W0).trans ho5 (fun _ _ e => e) : Only Z W0 w3) HNR.out)
  have HTH : Hid (w3.there (w.heap.size + 1 + 1) 0 cs.toArray.size) := by have := HRB3.out.rg.there; rw [show Hr.none.cl.length = cs.length from hcs.symm] at this; unfold Hid; simpa using this
  have HSZ : Hid ((Tryz.prog.info? 50).map (·.size) = some cs.toArray.size) := by unfold Hid; rw [Tryz.sizeRecF, List.size_toArray, hcs]
  have HON : Hid (cs.toArray.all Value.oneCell' = true) := by unfold Hid; simpa using hone
  have HC4 : Hid (Cb (w3.setCells (w.heap.size + 1 + 1) 0 cs) (w.heap.size + 1 + 1) cs) := by have q := Cb.sets (c1 := []) (c2 := Hr.none.cl) (c3 := []) (by simpa using HRB3.out) cs hcs; unfold Hid; simpa using q
  have HS4 := hide (And.intro (HS3.out.1.kept (only_setCells (w.heap.size + 1 + 1) cs 0 w3) (by omega)) (HS3.out.2.kept (only_setCells (w.heap.size + 1 + 1) cs 0 w3) (by omega)))
  have HP5 := hide hp5
  have HO5 := hide ((H3.out.only.mono (fun _ _ e => e.elim) : Only Z w W0).trans ((Only.drew Z W0).trans ho5 (fun _ _ e => e) : Only Z W0 w3) (fun _ _ e => e))
  have HZ5 : Hid (∀ b, b < W0.heap.size → Z5 b → Z b) := hz5
  have HRR := hide hR
  have HCS := hide hcs
  have HON2 := hide hone
  clear hp5 ho5 hz5 hR hcs hone
  refine hK.out _ _ (HS3.out) (fun hHeld => ?_)
  clear hK K
  try simp only [Act.put, List.setIfInBounds_toArray, List.set_cons_zero, List.set_cons_succ]
  refine wpAnyH_take (i := 8) (oi := { dst := some 24, op := Op.extract (Operand.tmp 23) 0, type := 50, pos := "session.go:84", after := #[{ on := 7, ground := Ground.data }], guard := none }) (v := .agg cs.toArray) rfl (by kernel_rfl) (by kernel_rfl) (by kernel_rfl) (fun _ _ _ h => h) (Or.inl ⟨by rfl, fun w' hSw => by clear hSw; go_simp⟩) (by assumption) ?_
  simp only [Act.put, List.setIfInBounds_toArray, List.set_cons_zero, List.set_cons_succ]
  refine wpAnyH_take (i := 9) (oi := { dst := some 25, op := Op.extract (Operand.tmp 23) 1, type := 4, pos := "session.go:84", after := #[{ on := 7, ground := Ground.data }], guard := none }) (v := .bool is) rfl (by kernel_rfl) (by kernel_rfl) (by kernel_rfl) (fun _ _ _ h => h) (Or.inl ⟨by rfl, fun w' hSw => by clear hSw; go_simp⟩) (by assumption) ?_
  simp only [Act.put, List.setIfInBounds_toArray, List.set_cons_zero, List.set_cons_succ]
  refine wpAnyH_ready (rs := [10]) (by kernel_rfl) (by simp) ?_
  refine AllReadyH.cons (o := { dst := none, op := Op.store 50 (Operand.tmp 8) (Operand.tmp 24), type := 0, pos := "session.go:84", after := #[{ on := 8, ground := Ground.data }, { on := 7, ground := Ground.chain }, { on := 0, ground := Ground.phase }, { on := 1, ground := Ground.phase }, { on := 2, ground := Ground.phase }, { on := 3, ground := Ground.phase }, { on := 4, ground := Ground.phase }, { on := 5, ground := Ground.phase }, { on := 6, ground := Ground.phase }, { on := 7, ground := Ground.phase }, { on := 8, ground := Ground.phase }, { on := 9, ground := Ground.phase }], guard := none }) rfl (fun K hK => ?_) (AllReadyH.nil)
  rw [if_pos (by rfl)]
  refine wp_store_mid 50 (.tmp 8) (.tmp 24) rfl (w.heap.size + 1 + 1) 0 cs.toArray rfl rfl HTH.out HSZ.out HON.out ?_
  refine hK.out _ _ (HS4.out) (fun hHeld => ?_)
  clear hK K
  simp only [Act.put]
  refine wpAnyH_take (i := 11) (oi := { dst := some 9, op := Op.assign (Operand.tmp 25), type := 4, pos := "session.go:84", after := #[{ on := 9, ground := Ground.data }, { on := 10, ground := Ground.chain }, { on := 0, ground := Ground.phase }, { on := 1, ground := Ground.phase }, { on := 2, ground := Ground.phase }, { on := 3, ground := Ground.phase }, { on := 4, ground := Ground.phase }, { on := 5, ground := Ground.phase }, { on := 6, ground := Ground.phase }, { on := 7, ground := Ground.phase }, { on := 8, ground := Ground.phase }, { on := 9, ground := Ground.phase }, { on := 10, ground := Ground.phase }], guard := none }) (v := .bool is) rfl (by kernel_rfl) (by kernel_rfl) (by kernel_rfl) (fun _ _ _ h => h) (Or.inl ⟨by rfl, fun w' hSw => by clear hSw; go_simp⟩) (by assumption) ?_
  simp only [Act.put, List.setIfInBounds_toArray, List.set_cons_zero, List.set_cons_succ]
  refine wpAnyH_done (by kernel_rfl) ?_ _
  refine NoPanic.normal ?_
  go_wp2_with fail
  refine bodyPost_ret (results_cb16 rfl rfl HC4.out HCS.out) rfl ?_
  refine ⟨Z5, P5, cs, is, ⟨rfl, HCS.out, HON2.out⟩, fun b hb q => HZ5.out b (Nat.lt_trans hb (Nat.lt_trans (by omega) HSZ0.out)) q, HP5.out.late (only_setCells (w.heap.size + 1 + 1) cs 0 w3) (fun q => HNR.out (HZ5.out _ HSZ0.out q)), ?_, HRR.out⟩
  exact HO5.out.trans (only_setCells (w.heap.size + 1 + 1) cs 0 w3) (fun i hi e => by omega)
set_option maxRecDepth 100000 in
set_option maxHeartbeats 1600000 in
theorem page_at (w : World) (Z : Nat → Prop) (p : Nat) (P : Pn) (h : Pm w Z p P) (V : Vv) (B : Pv) (fa : Option Addr) (fn fc : Nat) (hk : P.wk = 3) (hsh : P.sh = some 135) (R : Pn → List Value → Bool → Prop)
    (hT : ∀ W, Pm W Z p P → Only (fun _ => False) w W → Calls Tryz.prog 135 #[.pointer (some ⟨p, 0, none⟩), .agg V.ar, .agg B.ar, .slice fa fn fc] W (SQ W Z p R)) :
    Calls Tryz.prog 12 #[.pointer (some ⟨p, 0, none⟩), .agg V.ar, .agg B.ar, .slice fa fn fc] w (SQ w Z p R) := by
  have H3 := hide (St3.new w V B)
  have HH := hide (h.more H3.out.only)
  have HT := hide hT
  have HZW := hide h.zlt
  have HZP : Hid (Z p) := h.zp
  have HWN : Hid (∀ W, Pm W Z p P → Calls Tryz.prog 30 #[.pointer (some ⟨p, 0, none⟩), .int .i64 3] W fun e w' => e = .returned (.bool true) ∧ w' = W) := fun W hW => by
    have := wants_any W Z p P hW 3
    rw [hk] at this
    exact this
  have c10 := HH.out.cb.c 10 _ rfl
  rw [hsh] at c10
  unfold fv at c10
  simp only [] at c10
  clear h hT hk hsh
  unfold Vv.ar Pv.ar at *
  have HNV : Hid (¬ Z w.heap.size) := fun q => by have := HZW.out _ q; omega
  have HNP : Hid (¬ Z (w.heap.size + 1)) := fun q => by have := HZW.out _ q; omega
  have HNR : Hid (¬ Z (w.heap.size + 1 + 1)) := fun q => by have := HZW.out _ q; omega
  go_enter Tryz.func12, Tryz.ntmps12
  go_upto_region 1 with fail
  obtain ⟨W0, hW0⟩ : ∃ y, ((w.alloc (.cells #[.int .i64 V.m, .int .i64 V.nx, .slice V.aA V.nA V.cA, .int .i64 V.ow, .slice V.aR V.nR V.cR, .int .i64 V.l, .int .i64 V.k, .int .i64 V.v, .int .i64 V.r, .string V.h, .slice V.aP V.nP V.cP] 42)).alloc (.cells #[.int .i64 B.a, .int .i64 B.k, .int .i64 B.v, .int .i64 B.r, .string B.h, .slice B.ao B.n B.cp] 37)).alloc (.cells Hr.none.cells 50) = y := ⟨_, rfl⟩
  rw [hW0] at H3 HH c10 ⊢
  clear hW0
  have HSZ0 : Hid (w.heap.size + 1 + 1 < W0.heap.size) := H3.out.rb.lt
  go_wp2_with fail
  refine (HWN.out _ HH.out).mono ?_
  rintro x w1 ⟨rfl, h1⟩
  obtain rfl := h1.symm
  go_upto_region 3 with fail
  refine wp_region_noPanic ?_
  refine wp_region_held_drew (S := fun W => Cb W w.heap.size V.ar.toList ∧ Cb W (w.heap.size + 1) B.ar.toList) (by kernel_rfl) (⟨H3.out.vb.more (Only.drew _ _), H3.out.pb.more (Only.drew _ _)⟩) (fun hHeld => ?_)
  refine wpAnyH_take (i := 0) (oi := { dst := some 16, op := Op.move (Operand.tmp 0), type := 27, pos := "session.go:84", after := #[], guard := none }) (v := .pointer (some ⟨p, 0, none⟩)) rfl (by kernel_rfl) (by kernel_rfl) (by kernel_rfl) (fun _ _ _ h => h) (Or.inl ⟨by rfl, fun w' hSw => by clear hSw; go_simp⟩) (by assumption) ?_
  simp only [Act.put, List.setIfInBounds_toArray, List.set_cons_zero, List.set_cons_succ]
  refine wpAnyH_take (i := 4) (oi := { dst := some 20, op := Op.load 42 (Operand.tmp 5), type := 42, pos := "session.go:84", after := #[], guard := none }) (v := .agg V.ar) rfl (by kernel_rfl) (by kernel_rfl) (by kernel_rfl) (fun _ _ _ h => h) (yieldsIf_load_view (by rfl) _ rfl rfl (fun W hW => hW.1)) (by assumption) ?_
  simp only [Act.put, List.setIfInBounds_toArray, List.set_cons_zero, List.set_cons_succ]
  refine wpAnyH_take (i := 5) (oi := { dst := some 21, op := Op.load 37 (Operand.tmp 6), type := 37, pos := "session.go:84", after := #[], guard := none }) (v := .agg #[.int .i64 B.a, .int .i64 B.k, .int .i64 B.v, .int .i64 B.r, .string B.h, .slice B.ao B.n B.cp]) rfl (by kernel_rfl) (by kernel_rfl) (by kernel_rfl) (fun _ _ _ h => h) (yieldsIf_load_page (by rfl) _ rfl _ rfl (fun W hW => hW.2.pag)) (by assumption) ?_
  simp only [Act.put, List.setIfInBounds_toArray, List.set_cons_zero, List.set_cons_succ]
  refine wpAnyH_take (i := 6) (oi := { dst := some 22, op := Op.move (Operand.tmp 3), type := 38, pos := "session.go:84", after := #[], guard := none }) (v := .slice fa fn fc) rfl (by kernel_rfl) (by kernel_rfl) (by kernel_rfl) (fun _ _ _ h => h) (Or.inl ⟨by rfl, fun w' hSw => by clear hSw; go_simp⟩) (by assumption) ?_
  simp only [Act.put, List.setIfInBounds_toArray, List.set_cons_zero, List.set_cons_succ]
  refine wpAnyH_take (i := 1) (oi := { dst := some 17, op := Op.nilCheck (Operand.tmp 16), type := 0, pos := "session.go:84", after := #[{ on := 0, ground := Ground.data }], guard := none }) (v := .pointer (some ⟨p, 0, none⟩)) rfl (by kernel_rfl) (by kernel_rfl) (by kernel_rfl) (fun _ _ _ h => h) (Or.inl ⟨by rfl, fun w' hSw => by clear hSw; go_simp⟩) (by assumption) ?_
  simp only [Act.put, List.setIfInBounds_toArray, List.set_cons_zero, List.set_cons_succ]
  refine wpAnyH_take (i := 2) (oi := { dst := some 18, op := Op.fieldAddr 96 (Operand.tmp 17) 3, type := 0, pos := "session.go:84", after := #[{ on := 1, ground := Ground.data }], guard := none }) (v := .pointer (some ⟨p, 10, none⟩)) rfl (by kernel_rfl) (by kernel_rfl) (by kernel_rfl) (fun _ _ _ h => h) (Or.inl ⟨by rfl, fun w' hSw => by clear hSw; go_simp⟩) (by assumption) ?_
  simp only [Act.put, List.setIfInBounds_toArray, List.set_cons_zero, List.set_cons_succ]
  refine wpAnyH_ready (rs := [3]) (by kernel_rfl) (by simp) ?_
  refine AllReadyH.cons (o := { dst := some 19, op := Op.load 87 (Operand.tmp 18), type := 87, pos := "session.go:84", after := #[{ on := 2, ground := Ground.data }], guard := none }) rfl (fun K hK => ?_) (AllReadyH.nil)
  go_simp
  refine hK.out _ _ (hHeld) (fun hHeld => ?_)
  clear hK K
  try simp only [Act.put, List.setIfInBounds_toArray, List.set_cons_zero, List.set_cons_succ]
  refine wpAnyH_ready (rs := [7]) (by kernel_rfl) (by simp) ?_
  refine AllReadyH.cons (o := { dst := some 23, op := Op.call { callee := Callee.value (Operand.tmp 19), args := #[Operand.tmp 20, Operand.tmp 21, Operand.tmp 22], argTypes := #[42, 37, 38] }, type := 51, pos := "session.go:84", after := #[{ on := 3, ground := Ground.data }, { on := 4, ground := Ground.data }, { on := 5, ground := Ground.data }, { on := 6, ground := Ground.data }], guard := none }) rfl (fun K hK => ?_) (AllReadyH.nil)
  go_simp
  refine (HT.out _ (HH.out.more (Only.drew _ _)) (o2 H3.out.only (Only.drew _ _))).mono ?_
  rintro x w3 ⟨Z5, P5, cs, is, ⟨rfl, hcs, hone⟩, hz5, hp5, ho5, hR⟩
  have HS3 := hide (And.intro (H3.out.vb.kept ((Only.drew Z W0).trans ho5 (fun _ _ e => e) : Only Z W0 w3) HNV.out) (H3.out.pb.kept ((Only.drew Z W0).trans ho5 (fun _ _ e => e) : Only Z W0 w3) HNP.out))
  have HRB3 := hide (H3.out.rb.kept ((Only.drew Z W0).trans ho5 (fun _ _ e => e) : Only Z W0 w3) HNR.out)
  have HTH : Hid (w3.there (w.heap.size + 1 + 1) 0 cs.toArray.size) := by have := HRB3.out.rg.there; rw [show Hr.none.cl.length = cs.length from hcs.symm] at this; unfold Hid; simpa using this
  have HSZ : Hid ((Tryz.prog.info? 50).map (·.size) = some cs.toArray.size) := by unfold Hid; rw [Tryz.sizeRecF, List.size_toArray, hcs]
  have HON : Hid (cs.toArray.all Value.oneCell' = true) := by unfold Hid; simpa using hone
  have HC4 : Hid (Cb (w3.setCells (w.heap.size + 1 + 1) 0 cs) (w.heap.size + 1 + 1) cs) := by have q := Cb.sets (c1 := []) (c2 := Hr.none.cl) (c3 := []) (by simpa using HRB3.out) cs hcs; unfold Hid; simpa using q
  have HS4 := hide (And.intro (HS3.out.1.kept (only_setCells (w.heap.size + 1 + 1) cs 0 w3) (by omega)) (HS3.out.2.kept (only_setCells (w.heap.size + 1 + 1) cs 0 w3) (by omega)))
  have HP5 := hide hp5
  have HO5 := hide ((H3.out.only.mono (fun _ _ e => e.elim) : Only Z w W0).trans ((Only.drew Z W0).trans ho5 (fun _ _ e => e) : Only Z W0 w3) (fun _ _ e => e))
  have HZ5 : Hid (∀ b, b < W0.heap.size → Z5 b → Z b) := hz5
  have HRR := hide hR
  have HCS := hide hcs
  have HON2 := hide hone
  clear hp5 ho5 hz5 hR hcs hone
  refine hK.out _ _ (HS3.out) (fun hHeld => ?_)
  clear hK K
  try simp only [Act.put, List.setIfInBounds_toArray, List.set_cons_zero, List.set_cons_succ]
  refine wpAnyH_take (i := 8) (oi := { dst := some 24, op := Op.extract (Operand.tmp 23) 0, type := 50, pos := "session.go:84", after := #[{ on := 7, ground := Ground.data }], guard := none }) (v := .agg cs.toArray) rfl (by kernel_rfl) (by kernel_rfl) (by kernel_rfl) (fun _ _ _ h => h) (Or.inl ⟨by rfl, fun w' hSw => by clear hSw; go_simp⟩) (by assumption) ?_
  simp only [Act.put, List.setIfInBounds_toArray, List.set_cons_zero, List.set_cons_succ]
  refine wpAnyH_take (i := 9) (oi := { dst := some 25, op := Op.extract (Operand.tmp 23) 1, type := 4, pos := "session.go:84", after := #[{ on := 7, ground := Ground.data }], guard := none }) (v := .bool is) rfl (by kernel_rfl) (by kernel_rfl) (by kernel_rfl) (fun _ _ _ h => h) (Or.inl ⟨by rfl, fun w' hSw => by clear hSw; go_simp⟩) (by assumption) ?_
  simp only [Act.put, List.setIfInBounds_toArray, List.set_cons_zero, List.set_cons_succ]
  refine wpAnyH_ready (rs := [10]) (by kernel_rfl) (by simp) ?_
  refine AllReadyH.cons (o := { dst := none, op := Op.store 50 (Operand.tmp 8) (Operand.tmp 24), type := 0, pos := "session.go:84", after := #[{ on := 8, ground := Ground.data }, { on := 7, ground := Ground.chain }, { on := 0, ground := Ground.phase }, { on := 1, ground := Ground.phase }, { on := 2, ground := Ground.phase }, { on := 3, ground := Ground.phase }, { on := 4, ground := Ground.phase }, { on := 5, ground := Ground.phase }, { on := 6, ground := Ground.phase }, { on := 7, ground := Ground.phase }, { on := 8, ground := Ground.phase }, { on := 9, ground := Ground.phase }], guard := none }) rfl (fun K hK => ?_) (AllReadyH.nil)
  rw [if_pos (by rfl)]
  refine wp_store_mid 50 (.tmp 8) (.tmp 24) rfl (w.heap.size + 1 + 1) 0 cs.toArray rfl rfl HTH.out HSZ.out HON.out ?_
  refine hK.out _ _ (HS4.out) (fun hHeld => ?_)
  clear hK K
  simp only [Act.put]
  refine wpAnyH_take (i := 11) (oi := { dst := some 9, op := Op.assign (Operand.tmp 25), type := 4, pos := "session.go:84", after := #[{ on := 9, ground := Ground.data }, { on := 10, ground := Ground.chain }, { on := 0, ground := Ground.phase }, { on := 1, ground := Ground.phase }, { on := 2, ground := Ground.phase }, { on := 3, ground := Ground.phase }, { on := 4, ground := Ground.phase }, { on := 5, ground := Ground.phase }, { on := 6, ground := Ground.phase }, { on := 7, ground := Ground.phase }, { on := 8, ground := Ground.phase }, { on := 9, ground := Ground.phase }, { on := 10, ground := Ground.phase }], guard := none }) (v := .bool is) rfl (by kernel_rfl) (by kernel_rfl) (by kernel_rfl) (fun _ _ _ h => h) (Or.inl ⟨by rfl, fun w' hSw => by clear hSw; go_simp⟩) (by assumption) ?_
  simp only [Act.put, List.setIfInBounds_toArray, List.set_cons_zero, List.set_cons_succ]
  refine wpAnyH_done (by kernel_rfl) ?_ _
  refine NoPanic.normal ?_
  go_wp2_with fail
  refine bodyPost_ret (results_cb16 rfl rfl HC4.out HCS.out) rfl ?_
  refine ⟨Z5, P5, cs, is, ⟨rfl, HCS.out, HON2.out⟩, fun b hb q => HZ5.out b (Nat.lt_trans hb (Nat.lt_trans (by omega) HSZ0.out)) q, HP5.out.late (only_setCells (w.heap.size + 1 + 1) cs 0 w3) (fun q => HNR.out (HZ5.out _ HSZ0.out q)), ?_, HRR.out⟩
  exact HO5.out.trans (only_setCells (w.heap.size + 1 + 1) cs 0 w3) (fun i hi e => by omega)
end Go.Proofs.YtajjakljheafjaaGreat
