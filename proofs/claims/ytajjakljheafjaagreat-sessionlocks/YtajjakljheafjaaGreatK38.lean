/- Parts. -/
import Derived.Test.YtajjakljheafjaaGreatK37
set_option maxRecDepth 100000
namespace Go.Proofs.YtajjakljheafjaaGreat
open Go.RowKit
def Pn.sn (P : Pn) : Pn := { P with seen := P.seen + 1 }
theorem Pm.te {w : World} {Z : Nat → Prop} {p : Nat} {P : Pn} (h : Pm w Z p P) : Eb w p 11 P.te := ⟨h.cb.c 11 _ rfl, h.cb.c 12 _ rfl, h.cb.c 13 _ rfl, h.cb.lt⟩
/-- What becomes of it. -/
def DnR (P : Pn) (nx : Int) (th : Bool) (er : Int) (R : Pn → List Value → Bool → Prop) (P' : Pn) (cs : List Value) (is : Bool) : Prop :=
  (er = 0 ∧ th = true ∧ R P' cs is) ∨ (¬ (er = 0 ∧ th = true) ∧ is = false ∧ cs = Hr.none.cl ∧ P' = if er = 0 ∧ P.seen + 1 < 4096 then P.sn.see nx 92 else P.sn.fl 60)
set_option maxRecDepth 100000 in
set_option maxHeartbeats 1600000 in
theorem downL_any (w : World) (Z : Nat → Prop) (p : Nat) (P : Pn) (h : Pm w Z p P) (V : Vv) (B : Pv) (fa : Option Addr) (fn fc : Nat) (hth : P.th = some 51) (hs : 0 ≤ P.seen ∧ P.seen ≤ 4096) (nx : Int) (th : Bool) (er : Int) (R : Pn → List Value → Bool → Prop)
    (hW : ∀ W, Only (fun k => k = p) w W → Calls Tryz.prog 28 #[.agg B.ar, .int .i64 P.lv, .agg #[.string P.te.key, .int .i64 P.te.page, .int .i64 P.te.slot]] W fun x w' => x = .returned (.tuple #[.int .i64 nx, .bool th, .int .i64 er]) ∧ Only (fun _ => False) W w')
    (hT : er = 0 → th = true → ∀ W, Pm W Z p P.sn → Only (fun k => k = p) w W → Calls Tryz.prog 51 #[.pointer (some ⟨p, 0, none⟩), .agg V.ar, .agg B.ar, .slice fa fn fc] W (SQ W Z p R)) :
    Calls Tryz.prog 92 #[.pointer (some ⟨p, 0, none⟩), .agg V.ar, .agg B.ar, .slice fa fn fc] w (SQ w Z p (DnR P nx th er R)) := by
  have H3 := hide (St3.new w V B)
  have HH := hide (h.more H3.out.only)
  have HW := hide hW
  have HT0 := hide hT
  have HZW := hide h.zlt
  have HZP : Hid (Z p) := h.zp
  have HTE := hide hth
  have hs1 : IntKind.i64.wrap (P.seen + 1) = P.seen + 1 := by rw [IntKind.wrap_i64]; omega
  have HS := hide hs
  clear h hW hT hth
  unfold Vv.ar Pv.ar at *
  have c15 := HH.out.cb.c 15 _ rfl
  have f15 := HH.out.cb.f 15
  go_enter Tryz.func92, Tryz.ntmps92
  go_upto_region 1 with fail
  obtain ⟨W0, hW0⟩ : ∃ y, ((w.alloc (.cells #[.int .i64 V.m, .int .i64 V.nx, .slice V.aA V.nA V.cA, .int .i64 V.ow, .slice V.aR V.nR V.cR, .int .i64 V.l, .int .i64 V.k, .int .i64 V.v, .int .i64 V.r, .string V.h, .slice V.aP V.nP V.cP] 42)).alloc (.cells #[.int .i64 B.a, .int .i64 B.k, .int .i64 B.v, .int .i64 B.r, .string B.h, .slice B.ao B.n B.cp] 37)).alloc (.cells Hr.none.cells 50) = y := ⟨_, rfl⟩
  rw [hW0] at H3 HH c15 f15 ⊢
  clear hW0
  clear hs
  go_upto_region 2 with fail
  obtain ⟨W1, hW1⟩ : ∃ x, W0.setCell ⟨p, 15, none⟩ (.int .i64 (P.seen + 1)) = x := ⟨_, rfl⟩
  have HX : Hid (Only (fun k => k = p) W0 W1) := by rw [← hW1]; exact Only.put _ _ _ _
  have HP1 : Hid (Pm W1 Z p P.sn) := by
    refine HH.out.mod HX.out ?_ ⟨rfl, rfl, rfl⟩ ⟨rfl, rfl⟩
    rw [← hW1]
    exact HH.out.cb.set 15 _
  rw [hW1]
  clear hW1 c15 f15
  have HNQ : Hid (p < w.heap.size) := HZW.out p HZP.out
  have H31 := hide (St3.kept H3.out HX.out (fun k q => .inl (by rw [q]; exact HNQ.out)))
  have HO1 := hide ((H3.out.only.mono (fun _ _ e => e.elim) : Only (fun k => k = p) w W0).trans HX.out (fun _ _ e => e))
  have HNV : Hid (¬ Z w.heap.size) := fun q => by have := HZW.out _ q; omega
  have HNP : Hid (¬ Z (w.heap.size + 1)) := fun q => by have := HZW.out _ q; omega
  have HNR : Hid (¬ Z (w.heap.size + 1 + 1)) := fun q => by have := HZW.out _ q; omega
  clear H3 HH HX
  refine wp_region_noPanic ?_
  refine wp_region_held_drew (S := fun W => Only (fun _ => False) W1 W) (by kernel_rfl) (Only.drew _ _) (fun hHeld => ?_)
  refine wpAnyH_take (i := 0) (oi := { dst := some 23, op := Op.load 37 (Operand.tmp 6), type := 37, pos := "look.go:42", after := #[], guard := none }) (v := .agg #[.int .i64 B.a, .int .i64 B.k, .int .i64 B.v, .int .i64 B.r, .string B.h, .slice B.ao B.n B.cp]) rfl (by kernel_rfl) (by kernel_rfl) (by kernel_rfl) (fun _ _ _ h => h) (yieldsIf_load_page (by rfl) _ rfl _ rfl (fun W hW => (H31.out.2.1.more hW).pag)) (by assumption) ?_
  simp only [Act.put, List.setIfInBounds_toArray, List.set_cons_zero, List.set_cons_succ]
  refine wpAnyH_take (i := 1) (oi := { dst := some 24, op := Op.move (Operand.tmp 0), type := 27, pos := "look.go:42", after := #[], guard := none }) (v := .pointer (some ⟨p, 0, none⟩)) rfl (by kernel_rfl) (by kernel_rfl) (by kernel_rfl) (fun _ _ _ h => h) (Or.inl ⟨by rfl, fun w' hSw => by clear hSw; go_simp⟩) (by assumption) ?_
  simp only [Act.put, List.setIfInBounds_toArray, List.set_cons_zero, List.set_cons_succ]
  refine wpAnyH_take (i := 6) (oi := { dst := some 29, op := Op.move (Operand.tmp 0), type := 27, pos := "look.go:42", after := #[], guard := none }) (v := .pointer (some ⟨p, 0, none⟩)) rfl (by kernel_rfl) (by kernel_rfl) (by kernel_rfl) (fun _ _ _ h => h) (Or.inl ⟨by rfl, fun w' hSw => by clear hSw; go_simp⟩) (by assumption) ?_
  simp only [Act.put, List.setIfInBounds_toArray, List.set_cons_zero, List.set_cons_succ]
  refine wpAnyH_take (i := 2) (oi := { dst := some 25, op := Op.nilCheck (Operand.tmp 24), type := 0, pos := "look.go:42", after := #[{ on := 1, ground := Ground.data }], guard := none }) (v := .pointer (some ⟨p, 0, none⟩)) rfl (by kernel_rfl) (by kernel_rfl) (by kernel_rfl) (fun _ _ _ h => h) (Or.inl ⟨by rfl, fun w' hSw => by clear hSw; go_simp⟩) (by assumption) ?_
  simp only [Act.put, List.setIfInBounds_toArray, List.set_cons_zero, List.set_cons_succ]
  refine wpAnyH_take (i := 7) (oi := { dst := some 30, op := Op.nilCheck (Operand.tmp 29), type := 0, pos := "look.go:42", after := #[{ on := 6, ground := Ground.data }], guard := none }) (v := .pointer (some ⟨p, 0, none⟩)) rfl (by kernel_rfl) (by kernel_rfl) (by kernel_rfl) (fun _ _ _ h => h) (Or.inl ⟨by rfl, fun w' hSw => by clear hSw; go_simp⟩) (by assumption) ?_
  simp only [Act.put, List.setIfInBounds_toArray, List.set_cons_zero, List.set_cons_succ]
  refine wpAnyH_take (i := 3) (oi := { dst := some 26, op := Op.fieldAddr 96 (Operand.tmp 25) 4, type := 0, pos := "look.go:42", after := #[{ on := 2, ground := Ground.data }], guard := none }) (v := .pointer (some ⟨p, 11, none⟩)) rfl (by kernel_rfl) (by kernel_rfl) (by kernel_rfl) (fun _ _ _ h => h) (Or.inl ⟨by rfl, fun w' hSw => by clear hSw; go_simp⟩) (by assumption) ?_
  simp only [Act.put, List.setIfInBounds_toArray, List.set_cons_zero, List.set_cons_succ]
  refine wpAnyH_take (i := 8) (oi := { dst := some 31, op := Op.fieldAddr 96 (Operand.tmp 30) 4, type := 0, pos := "look.go:42", after := #[{ on := 7, ground := Ground.data }], guard := none }) (v := .pointer (some ⟨p, 11, none⟩)) rfl (by kernel_rfl) (by kernel_rfl) (by kernel_rfl) (fun _ _ _ h => h) (Or.inl ⟨by rfl, fun w' hSw => by clear hSw; go_simp⟩) (by assumption) ?_
  simp only [Act.put, List.setIfInBounds_toArray, List.set_cons_zero, List.set_cons_succ]
  refine wpAnyH_take (i := 4) (oi := { dst := some 27, op := Op.fieldAddr 91 (Operand.tmp 26) 1, type := 0, pos := "look.go:42", after := #[{ on := 3, ground := Ground.data }], guard := none }) (v := .pointer (some ⟨p, 14, none⟩)) rfl (by kernel_rfl) (by kernel_rfl) (by kernel_rfl) (fun _ _ _ h => h) (Or.inl ⟨by rfl, fun w' hSw => by clear hSw; go_simp⟩) (by assumption) ?_
  simp only [Act.put, List.setIfInBounds_toArray, List.set_cons_zero, List.set_cons_succ]
  refine wpAnyH_take (i := 9) (oi := { dst := some 32, op := Op.fieldAddr 91 (Operand.tmp 31) 0, type := 0, pos := "look.go:42", after := #[{ on := 8, ground := Ground.data }], guard := none }) (v := .pointer (some ⟨p, 11, none⟩)) rfl (by kernel_rfl) (by kernel_rfl) (by kernel_rfl) (fun _ _ _ h => h) (Or.inl ⟨by rfl, fun w' hSw => by clear hSw; go_simp⟩) (by assumption) ?_
  simp only [Act.put, List.setIfInBounds_toArray, List.set_cons_zero, List.set_cons_succ]
  refine wpAnyH_take (i := 5) (oi := { dst := some 28, op := Op.load 3 (Operand.tmp 27), type := 3, pos := "look.go:42", after := #[{ on := 4, ground := Ground.data }], guard := none }) (v := .int .i64 P.lv) rfl (by kernel_rfl) (by kernel_rfl) (by kernel_rfl) (fun _ _ _ h => h) (yieldsIf_load_cell (by rfl) 3 _ rfl _ rfl (fun W hW => (HP1.out.more hW).cb.c 14 _ rfl) (fun W hc => ld_int hc)) (by assumption) ?_
  simp only [Act.put, List.setIfInBounds_toArray, List.set_cons_zero, List.set_cons_succ]
  refine wpAnyH_take (i := 10) (oi := { dst := some 33, op := Op.load 89 (Operand.tmp 32), type := 89, pos := "look.go:42", after := #[{ on := 9, ground := Ground.data }], guard := none }) (v := .agg #[.string P.te.key, .int .i64 P.te.page, .int .i64 P.te.slot]) rfl (by kernel_rfl) (by kernel_rfl) (by kernel_rfl) (fun _ _ _ h => h) (yieldsIf_load_eb (e := P.te) (by rfl) _ rfl rfl (fun W hW => (HP1.out.more hW).te)) (by assumption) ?_
  simp only [Act.put, List.setIfInBounds_toArray, List.set_cons_zero, List.set_cons_succ]
  refine wpAnyH_ready (rs := [11]) (by kernel_rfl) (by simp) ?_
  refine AllReadyH.cons (o := { dst := some 34, op := Op.call { callee := Callee.value (Operand.func 28), args := #[Operand.tmp 23, Operand.tmp 28, Operand.tmp 33], argTypes := #[37, 3, 89] }, type := 97, pos := "look.go:42", after := #[{ on := 0, ground := Ground.data }, { on := 5, ground := Ground.data }, { on := 10, ground := Ground.data }], guard := none }) rfl (fun K hK => ?_) (AllReadyH.nil)
  go_simp
  refine (HW.out _ (HO1.out.trans hHeld (fun _ _ e => e.elim))).mono ?_
  rintro x w2 ⟨rfl, ho⟩
  have HO2 := hide (o2 hHeld ho)
  clear ho
  refine hK.out _ _ (HO2.out) (fun hHeld => ?_)
  clear hK K
  try simp only [Act.put, List.setIfInBounds_toArray, List.set_cons_zero, List.set_cons_succ]
  refine wpAnyH_take (i := 12) (oi := { dst := some 22, op := Op.move (Operand.tmp 34), type := 97, pos := "look.go:42", after := #[{ on := 11, ground := Ground.data }], guard := none }) (v := .tuple #[.int .i64 nx, .bool th, .int .i64 er]) rfl (by kernel_rfl) (by kernel_rfl) (by kernel_rfl) (fun _ _ _ h => h) (Or.inl ⟨by rfl, fun w' hSw => by clear hSw; go_simp⟩) (by assumption) ?_
  simp only [Act.put, List.setIfInBounds_toArray, List.set_cons_zero, List.set_cons_succ]
  refine wpAnyH_take (i := 13) (oi := { dst := some 35, op := Op.extract (Operand.tmp 22) 0, type := 3, pos := "look.go:42", after := #[{ on := 12, ground := Ground.data }], guard := none }) (v := .int .i64 nx) rfl (by kernel_rfl) (by kernel_rfl) (by kernel_rfl) (fun _ _ _ h => h) (Or.inl ⟨by rfl, fun w' hSw => by clear hSw; go_simp⟩) (by assumption) ?_
  simp only [Act.put, List.setIfInBounds_toArray, List.set_cons_zero, List.set_cons_succ]
  refine wpAnyH_take (i := 14) (oi := { dst := some 36, op := Op.extract (Operand.tmp 22) 1, type := 4, pos := "look.go:42", after := #[{ on := 12, ground := Ground.data }, { on := 16, ground := Ground.gcOnly Departure.lateStores }], guard := none }) (v := .bool th) rfl (by kernel_rfl) (by kernel_rfl) (by kernel_rfl) (fun _ _ _ h => h) (Or.inl ⟨by rfl, fun w' hSw => by clear hSw; go_simp⟩) (by assumption) ?_
  simp only [Act.put, List.setIfInBounds_toArray, List.set_cons_zero, List.set_cons_succ]
  refine wpAnyH_take (i := 15) (oi := { dst := some 37, op := Op.extract (Operand.tmp 22) 2, type := 28, pos := "look.go:42", after := #[{ on := 12, ground := Ground.data }, { on := 17, ground := Ground.gcOnly Departure.lateStores }], guard := none }) (v := .int .i64 er) rfl (by kernel_rfl) (by kernel_rfl) (by kernel_rfl) (fun _ _ _ h => h) (Or.inl ⟨by rfl, fun w' hSw => by clear hSw; go_simp⟩) (by assumption) ?_
  simp only [Act.put, List.setIfInBounds_toArray, List.set_cons_zero, List.set_cons_succ]
  refine wpAnyH_take (i := 16) (oi := { dst := some 10, op := Op.assign (Operand.tmp 35), type := 3, pos := "look.go:42", after := #[{ on := 13, ground := Ground.data }, { on := 11, ground := Ground.chain }, { on := 0, ground := Ground.phase }, { on := 1, ground := Ground.phase }, { on := 2, ground := Ground.phase }, { on := 3, ground := Ground.phase }, { on := 4, ground := Ground.phase }, { on := 5, ground := Ground.phase }, { on := 6, ground := Ground.phase }, { on := 7, ground := Ground.phase }, { on := 8, ground := Ground.phase }, { on := 9, ground := Ground.phase }, { on := 10, ground := Ground.phase }, { on := 11, ground := Ground.phase }, { on := 12, ground := Ground.phase }, { on := 13, ground := Ground.phase }, { on := 14, ground := Ground.textOnly Departure.lateStores }, { on := 15, ground := Ground.textOnly Departure.lateStores }], guard := none }) (v := .int .i64 nx) rfl (by kernel_rfl) (by kernel_rfl) (by kernel_rfl) (fun _ _ _ h => h) (Or.inl ⟨by rfl, fun w' hSw => by clear hSw; go_simp⟩) (by assumption) ?_
  simp only [Act.put, List.setIfInBounds_toArray, List.set_cons_zero, List.set_cons_succ]
  refine wpAnyH_take (i := 17) (oi := { dst := some 11, op := Op.assign (Operand.tmp 36), type := 4, pos := "look.go:42", after := #[{ on := 14, ground := Ground.data }, { on := 16, ground := Ground.chain }, { on := 0, ground := Ground.phase }, { on := 1, ground := Ground.phase }, { on := 2, ground := Ground.phase }, { on := 3, ground := Ground.phase }, { on := 4, ground := Ground.phase }, { on := 5, ground := Ground.phase }, { on := 6, ground := Ground.phase }, { on := 7, ground := Ground.phase }, { on := 8, ground := Ground.phase }, { on := 9, ground := Ground.phase }, { on := 10, ground := Ground.phase }, { on := 11, ground := Ground.phase }, { on := 12, ground := Ground.phase }, { on := 13, ground := Ground.phase }, { on := 14, ground := Ground.phase }, { on := 15, ground := Ground.textOnly Departure.lateStores }, { on := 16, ground := Ground.phase }], guard := none }) (v := .bool th) rfl (by kernel_rfl) (by kernel_rfl) (by kernel_rfl) (fun _ _ _ h => h) (Or.inl ⟨by rfl, fun w' hSw => by clear hSw; go_simp⟩) (by assumption) ?_
  simp only [Act.put, List.setIfInBounds_toArray, List.set_cons_zero, List.set_cons_succ]
  refine wpAnyH_take (i := 18) (oi := { dst := some 12, op := Op.assign (Operand.tmp 37), type := 28, pos := "look.go:42", after := #[{ on := 15, ground := Ground.data }, { on := 17, ground := Ground.chain }, { on := 0, ground := Ground.phase }, { on := 1, ground := Ground.phase }, { on := 2, ground := Ground.phase }, { on := 3, ground := Ground.phase }, { on := 4, ground := Ground.phase }, { on := 5, ground := Ground.phase }, { on := 6, ground := Ground.phase }, { on := 7, ground := Ground.phase }, { on := 8, ground := Ground.phase }, { on := 9, ground := Ground.phase }, { on := 10, ground := Ground.phase }, { on := 11, ground := Ground.phase }, { on := 12, ground := Ground.phase }, { on := 13, ground := Ground.phase }, { on := 14, ground := Ground.phase }, { on := 15, ground := Ground.phase }, { on := 16, ground := Ground.phase }, { on := 17, ground := Ground.phase }], guard := none }) (v := .int .i64 er) rfl (by kernel_rfl) (by kernel_rfl) (by kernel_rfl) (fun _ _ _ h => h) (Or.inl ⟨by rfl, fun w' hSw => by clear hSw; go_simp⟩) (by assumption) ?_
  simp only [Act.put, List.setIfInBounds_toArray, List.set_cons_zero, List.set_cons_succ]
  refine wpAnyH_done (by kernel_rfl) ?_ _
  refine NoPanic.normal ?_
  have HP2 := hide (HP1.out.more HO2.out)
  have H32 := hide (And.intro (H31.out.1.more HO2.out) (And.intro (H31.out.2.1.more HO2.out) (H31.out.2.2.more HO2.out)))
  have HO3 := hide (HO1.out.trans HO2.out (fun _ _ e => e.elim))
  clear HP1 H31 HO1 HO2 HW
  have HSZ2 : Hid (w.heap.size + 1 + 1 < w2.heap.size) := H32.out.2.2.lt
  by_cases he : er = 0
  · have hb : (er != 0) = false := by simp [he]
    have HE := hide he
    clear he
    cases th
    · clear HT0
      have c15 := HP2.out.cb.c 15 _ rfl
      rw [show P.sn.seen = P.seen + 1 from rfl] at c15
      by_cases hq : P.seen + 1 < 4096
      · have hb3 : decide (4096 ≤ P.seen + 1) = false := decide_eq_false (by omega)
        have HQ := hide hq
        clear hq
        have hmf : ∀ (fn : Fn) (first cap : Array Value) (w : World), (Instr.makeFunc fn first cap).run Tryz.prog w = .ok (.func fn first cap) w := fun _ _ _ _ => rfl
        have HSE := hide (see_any w2 Z p P.sn HP2.out nx 92)
        go_wp2_with fail
        refine HSE.out.mono ?_
        rintro x w4 ⟨rfl, hp, ho⟩
        have HP4 := hide hp
        have HO4 := hide ho
        clear hp ho HSE c15
        go_wp2_with fail
        refine (nothing_any _).mono ?_
        rintro x w5 ⟨rfl, ho⟩
        have HP5 := hide (HP4.out.more ho)
        have HO5 := hide (Op.fst HO4.out ho)
        have HR5 := hide (H32.out.2.2.kept HO5.out (fun q => HNR.out (by rw [q]; exact HZP.out)))
        clear ho HP4 HO4
        unfold noRec
        go_wp2_with (refine wpList_put_cb rfl 50 (.tmp 8) (.tmp 75) rfl (w.heap.size + 1 + 1) rfl Hr.none.cl Hr.none.cl rfl Tryz.sizeRecF rfl rfl HR5.out ?_; intro W9 HW9; go_frame)
        refine bodyPost_ret (results_cb16 rfl rfl HW9.out.1 rfl) rfl ?_
        refine ⟨Z, _, Hr.none.cl, false, ⟨rfl, rfl, rfl⟩, fun _ _ q => q, HP5.out.late HW9.out.2 HNR.out, ?_, .inr ⟨fun q => absurd q.2 (by decide), rfl, rfl, by rw [if_pos ⟨HE.out, HQ.out⟩]⟩⟩
        exact (((HO3.out.trans HO5.out (fun _ _ e => e)).mono (fun k _ e => by rw [e]; exact HZP.out)).trans (HW9.out.2) (fun i hi e => by have := HSZ2.out; omega))
      · have hb3 : decide (4096 ≤ P.seen + 1) = true := decide_eq_true (by omega)
        have HQ := hide hq
        clear hq
        have HF := hide (failS_any w2 Z p P.sn HP2.out 60)
        go_wp2_with fail
        refine HF.out.mono ?_
        rintro x w4 ⟨rfl, hp, ho⟩
        have HP4 := hide hp
        have HO4 := hide ho
        have HR5 := hide (H32.out.2.2.kept HO4.out (fun q => HNR.out (by rw [q]; exact HZP.out)))
        clear hp ho HF c15
        unfold noRec
        go_wp2_with (refine wpList_put_cb rfl 50 (.tmp 8) (.tmp 67) rfl (w.heap.size + 1 + 1) rfl Hr.none.cl Hr.none.cl rfl Tryz.sizeRecF rfl rfl HR5.out ?_; intro W9 HW9; go_frame)
        refine bodyPost_ret (results_cb16 rfl rfl HW9.out.1 rfl) rfl ?_
        refine ⟨Z, _, Hr.none.cl, false, ⟨rfl, rfl, rfl⟩, fun _ _ q => q, HP4.out.late HW9.out.2 HNR.out, ?_, .inr ⟨fun q => absurd q.2 (by decide), rfl, rfl, by rw [if_neg (show ¬ (er = 0 ∧ P.seen + 1 < 4096) from fun q => by have := HQ.out; omega)]⟩⟩
        exact (((HO3.out.trans HO4.out (fun _ _ e => e)).mono (fun k _ e => by rw [e]; exact HZP.out)).trans (HW9.out.2) (fun i hi e => by have := HSZ2.out; omega))
    · have HT := hide (HT0.out HE.out rfl)
      clear HT0
      have c16 := HP2.out.cb.c 16 _ rfl
      rw [show fv p P.sn.th = .func (.func 51) #[.pointer (some ⟨p, 0, none⟩)] #[] from by show fv p P.th = _; rw [HTE.out]; rfl] at c16
      go_upto_region 6 with fail
      refine wp_region_noPanic ?_
      refine wp_region_held_drew (S := fun W => Cb W w.heap.size V.ar.toList ∧ Cb W (w.heap.size + 1) B.ar.toList) (by kernel_rfl) (⟨H32.out.1.more (Only.drew _ _), H32.out.2.1.more (Only.drew _ _)⟩) (fun hHeld => ?_)
      refine wpAnyH_take (i := 0) (oi := { dst := some 47, op := Op.move (Operand.tmp 0), type := 27, pos := "look.go:47", after := #[], guard := none }) (v := .pointer (some ⟨p, 0, none⟩)) rfl (by kernel_rfl) (by kernel_rfl) (by kernel_rfl) (fun _ _ _ h => h) (Or.inl ⟨by rfl, fun w' hSw => by clear hSw; go_simp⟩) (by assumption) ?_
      simp only [Act.put, List.setIfInBounds_toArray, List.set_cons_zero, List.set_cons_succ]
      refine wpAnyH_take (i := 5) (oi := { dst := some 52, op := Op.load 42 (Operand.tmp 5), type := 42, pos := "look.go:47", after := #[], guard := none }) (v := .agg V.ar) rfl (by kernel_rfl) (by kernel_rfl) (by kernel_rfl) (fun _ _ _ h => h) (yieldsIf_load_view (by rfl) _ rfl rfl (fun W hW => hW.1)) (by assumption) ?_
      simp only [Act.put, List.setIfInBounds_toArray, List.set_cons_zero, List.set_cons_succ]
      refine wpAnyH_take (i := 6) (oi := { dst := some 53, op := Op.load 37 (Operand.tmp 6), type := 37, pos := "look.go:47", after := #[], guard := none }) (v := .agg #[.int .i64 B.a, .int .i64 B.k, .int .i64 B.v, .int .i64 B.r, .string B.h, .slice B.ao B.n B.cp]) rfl (by kernel_rfl) (by kernel_rfl) (by kernel_rfl) (fun _ _ _ h => h) (yieldsIf_load_page (by rfl) _ rfl _ rfl (fun W hW => hW.2.pag)) (by assumption) ?_
      simp only [Act.put, List.setIfInBounds_toArray, List.set_cons_zero, List.set_cons_succ]
      refine wpAnyH_take (i := 7) (oi := { dst := some 54, op := Op.move (Operand.tmp 3), type := 38, pos := "look.go:47", after := #[], guard := none }) (v := .slice fa fn fc) rfl (by kernel_rfl) (by kernel_rfl) (by kernel_rfl) (fun _ _ _ h => h) (Or.inl ⟨by rfl, fun w' hSw => by clear hSw; go_simp⟩) (by assumption) ?_
      simp only [Act.put, List.setIfInBounds_toArray, List.set_cons_zero, List.set_cons_succ]
      refine wpAnyH_take (i := 1) (oi := { dst := some 48, op := Op.nilCheck (Operand.tmp 47), type := 0, pos := "look.go:47", after := #[{ on := 0, ground := Ground.data }], guard := none }) (v := .pointer (some ⟨p, 0, none⟩)) rfl (by kernel_rfl) (by kernel_rfl) (by kernel_rfl) (fun _ _ _ h => h) (Or.inl ⟨by rfl, fun w' hSw => by clear hSw; go_simp⟩) (by assumption) ?_
      simp only [Act.put, List.setIfInBounds_toArray, List.set_cons_zero, List.set_cons_succ]
      refine wpAnyH_take (i := 2) (oi := { dst := some 49, op := Op.fieldAddr 96 (Operand.tmp 48) 4, type := 0, pos := "look.go:47", after := #[{ on := 1, ground := Ground.data }], guard := none }) (v := .pointer (some ⟨p, 11, none⟩)) rfl (by kernel_rfl) (by kernel_rfl) (by kernel_rfl) (fun _ _ _ h => h) (Or.inl ⟨by rfl, fun w' hSw => by clear hSw; go_simp⟩) (by assumption) ?_
      simp only [Act.put, List.setIfInBounds_toArray, List.set_cons_zero, List.set_cons_succ]
      refine wpAnyH_take (i := 3) (oi := { dst := some 50, op := Op.fieldAddr 91 (Operand.tmp 49) 3, type := 0, pos := "look.go:47", after := #[{ on := 2, ground := Ground.data }], guard := none }) (v := .pointer (some ⟨p, 16, none⟩)) rfl (by kernel_rfl) (by kernel_rfl) (by kernel_rfl) (fun _ _ _ h => h) (Or.inl ⟨by rfl, fun w' hSw => by clear hSw; go_simp⟩) (by assumption) ?_
      simp only [Act.put, List.setIfInBounds_toArray, List.set_cons_zero, List.set_cons_succ]
      refine wpAnyH_ready (rs := [4]) (by kernel_rfl) (by simp) ?_
      refine AllReadyH.cons (o := { dst := some 51, op := Op.load 87 (Operand.tmp 50), type := 87, pos := "look.go:47", after := #[{ on := 3, ground := Ground.data }], guard := none }) rfl (fun K hK => ?_) (AllReadyH.nil)
      go_simp
      refine hK.out _ _ (hHeld) (fun hHeld => ?_)
      clear hK K
      try simp only [Act.put, List.setIfInBounds_toArray, List.set_cons_zero, List.set_cons_succ]
      refine wpAnyH_ready (rs := [8]) (by kernel_rfl) (by simp) ?_
      refine AllReadyH.cons (o := { dst := some 55, op := Op.call { callee := Callee.value (Operand.tmp 51), args := #[Operand.tmp 52, Operand.tmp 53, Operand.tmp 54], argTypes := #[42, 37, 38] }, type := 51, pos := "look.go:47", after := #[{ on := 4, ground := Ground.data }, { on := 5, ground := Ground.data }, { on := 6, ground := Ground.data }, { on := 7, ground := Ground.data }], guard := none }) rfl (fun K hK => ?_) (AllReadyH.nil)
      go_simp
      refine (HT.out _ (HP2.out.more (Only.drew _ _)) (HO3.out.trans (Only.drew (fun _ => False) w2) (fun _ _ e => e.elim))).mono ?_
      rintro x w3 ⟨Z5, P5, cs, is, ⟨rfl, hcs, hone⟩, hz5, hp5, ho5, hR⟩
      have HS3 := hide (And.intro (H32.out.1.kept ((Only.drew Z w2).trans ho5 (fun _ _ e => e) : Only Z w2 w3) HNV.out) (H32.out.2.1.kept ((Only.drew Z w2).trans ho5 (fun _ _ e => e) : Only Z w2 w3) HNP.out))
      have HRB3 := hide (H32.out.2.2.kept ((Only.drew Z w2).trans ho5 (fun _ _ e => e) : Only Z w2 w3) HNR.out)
      have HTH : Hid (w3.there (w.heap.size + 1 + 1) 0 cs.toArray.size) := by have := HRB3.out.rg.there; rw [show Hr.none.cl.length = cs.length from hcs.symm] at this; unfold Hid; simpa using this
      have HSZ : Hid ((Tryz.prog.info? 50).map (·.size) = some cs.toArray.size) := by unfold Hid; rw [Tryz.sizeRecF, List.size_toArray, hcs]
      have HON : Hid (cs.toArray.all Value.oneCell' = true) := by unfold Hid; simpa using hone
      have HC4 : Hid (Cb (w3.setCells (w.heap.size + 1 + 1) 0 cs) (w.heap.size + 1 + 1) cs) := by have q := Cb.sets (c1 := []) (c2 := Hr.none.cl) (c3 := []) (by simpa using HRB3.out) cs hcs; unfold Hid; simpa using q
      have HS4 := hide (And.intro (HS3.out.1.kept (only_setCells (w.heap.size + 1 + 1) cs 0 w3) (by omega)) (HS3.out.2.kept (only_setCells (w.heap.size + 1 + 1) cs 0 w3) (by omega)))
      have HP5 := hide hp5
      have HO5 := hide ((HO3.out.mono (fun i _ e => by rw [e]; exact HZP.out) : Only Z w w2).trans ((Only.drew Z w2).trans ho5 (fun _ _ e => e) : Only Z w2 w3) (fun _ _ e => e))
      have HZ5 : Hid (∀ b, b < w2.heap.size → Z5 b → Z b) := hz5
      have HRR := hide hR
      have HCS := hide hcs
      have HON2 := hide hone
      clear hp5 ho5 hz5 hR hcs hone
      refine hK.out _ _ (HS3.out) (fun hHeld => ?_)
      clear hK K
      try simp only [Act.put, List.setIfInBounds_toArray, List.set_cons_zero, List.set_cons_succ]
      refine wpAnyH_take (i := 9) (oi := { dst := some 56, op := Op.extract (Operand.tmp 55) 0, type := 50, pos := "look.go:47", after := #[{ on := 8, ground := Ground.data }], guard := none }) (v := .agg cs.toArray) rfl (by kernel_rfl) (by kernel_rfl) (by kernel_rfl) (fun _ _ _ h => h) (Or.inl ⟨by rfl, fun w' hSw => by clear hSw; go_simp⟩) (by assumption) ?_
      simp only [Act.put, List.setIfInBounds_toArray, List.set_cons_zero, List.set_cons_succ]
      refine wpAnyH_take (i := 10) (oi := { dst := some 57, op := Op.extract (Operand.tmp 55) 1, type := 4, pos := "look.go:47", after := #[{ on := 8, ground := Ground.data }], guard := none }) (v := .bool is) rfl (by kernel_rfl) (by kernel_rfl) (by kernel_rfl) (fun _ _ _ h => h) (Or.inl ⟨by rfl, fun w' hSw => by clear hSw; go_simp⟩) (by assumption) ?_
      simp only [Act.put, List.setIfInBounds_toArray, List.set_cons_zero, List.set_cons_succ]
      refine wpAnyH_ready (rs := [11]) (by kernel_rfl) (by simp) ?_
      refine AllReadyH.cons (o := { dst := none, op := Op.store 50 (Operand.tmp 8) (Operand.tmp 56), type := 0, pos := "look.go:47", after := #[{ on := 9, ground := Ground.data }, { on := 8, ground := Ground.chain }, { on := 0, ground := Ground.phase }, { on := 1, ground := Ground.phase }, { on := 2, ground := Ground.phase }, { on := 3, ground := Ground.phase }, { on := 4, ground := Ground.phase }, { on := 5, ground := Ground.phase }, { on := 6, ground := Ground.phase }, { on := 7, ground := Ground.phase }, { on := 8, ground := Ground.phase }, { on := 9, ground := Ground.phase }, { on := 10, ground := Ground.phase }], guard := none }) rfl (fun K hK => ?_) (AllReadyH.nil)
      rw [if_pos (by rfl)]
      refine wp_store_mid 50 (.tmp 8) (.tmp 56) rfl (w.heap.size + 1 + 1) 0 cs.toArray rfl rfl HTH.out HSZ.out HON.out ?_
      refine hK.out _ _ (HS4.out) (fun hHeld => ?_)
      clear hK K
      simp only [Act.put]
      refine wpAnyH_take (i := 12) (oi := { dst := some 9, op := Op.assign (Operand.tmp 57), type := 4, pos := "look.go:47", after := #[{ on := 10, ground := Ground.data }, { on := 11, ground := Ground.chain }, { on := 0, ground := Ground.phase }, { on := 1, ground := Ground.phase }, { on := 2, ground := Ground.phase }, { on := 3, ground := Ground.phase }, { on := 4, ground := Ground.phase }, { on := 5, ground := Ground.phase }, { on := 6, ground := Ground.phase }, { on := 7, ground := Ground.phase }, { on := 8, ground := Ground.phase }, { on := 9, ground := Ground.phase }, { on := 10, ground := Ground.phase }, { on := 11, ground := Ground.phase }], guard := none }) (v := .bool is) rfl (by kernel_rfl) (by kernel_rfl) (by kernel_rfl) (fun _ _ _ h => h) (Or.inl ⟨by rfl, fun w' hSw => by clear hSw; go_simp⟩) (by assumption) ?_
      simp only [Act.put, List.setIfInBounds_toArray, List.set_cons_zero, List.set_cons_succ]
      refine wpAnyH_done (by kernel_rfl) ?_ _
      refine NoPanic.normal ?_
      go_wp2_with fail
      refine bodyPost_ret (results_cb16 rfl rfl HC4.out HCS.out) rfl ?_
      refine ⟨Z5, P5, cs, is, ⟨rfl, HCS.out, HON2.out⟩, fun b hb q => HZ5.out b (Nat.lt_of_lt_of_le hb HO3.out.size) q, HP5.out.late (only_setCells (w.heap.size + 1 + 1) cs 0 w3) (fun q => HNR.out (HZ5.out _ HSZ2.out q)), ?_, .inl ⟨HE.out, rfl, HRR.out⟩⟩
      exact HO5.out.trans (only_setCells (w.heap.size + 1 + 1) cs 0 w3) (fun i hi e => by omega)
  · have hb : (er != 0) = true := by simp [he]
    have HE := hide he
    clear he HT0
    have HF := hide (failS_any w2 Z p P.sn HP2.out 60)
    go_wp2_with fail
    refine HF.out.mono ?_
    rintro x w4 ⟨rfl, hp, ho⟩
    have HP4 := hide hp
    have HO4 := hide ho
    have HR5 := hide (H32.out.2.2.kept HO4.out (fun q => HNR.out (by rw [q]; exact HZP.out)))
    clear hp ho HF
    unfold noRec
    go_wp2_with (refine wpList_put_cb rfl 50 (.tmp 8) (.tmp 43) rfl (w.heap.size + 1 + 1) rfl Hr.none.cl Hr.none.cl rfl Tryz.sizeRecF rfl rfl HR5.out ?_; intro W9 HW9; go_frame)
    refine bodyPost_ret (results_cb16 rfl rfl HW9.out.1 rfl) rfl ?_
    refine ⟨Z, _, Hr.none.cl, false, ⟨rfl, rfl, rfl⟩, fun _ _ q => q, HP4.out.late HW9.out.2 HNR.out, ?_, .inr ⟨fun q => HE.out q.1, rfl, rfl, by rw [if_neg (fun q => HE.out q.1)]⟩⟩
    exact (((HO3.out.trans HO4.out (fun _ _ e => e)).mono (fun k _ e => by rw [e]; exact HZP.out)).trans (HW9.out.2) (fun i hi e => by have := HSZ2.out; omega))
end Go.Proofs.YtajjakljheafjaaGreat
