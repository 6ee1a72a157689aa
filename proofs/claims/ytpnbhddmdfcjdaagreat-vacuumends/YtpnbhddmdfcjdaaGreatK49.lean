/- Parts. -/
import Derived.Test.YtpnbhddmdfcjdaaGreatK43
set_option maxRecDepth 100000
namespace Go.Proofs.YtpnbhddmdfcjdaaGreat
open Go.RowKit
set_option maxRecDepth 100000 in
set_option maxHeartbeats 3200000 in
theorem do_own (w : World) (m a k v r page : Int) (h : ByteArray) (B cp : Nat) (ao : Option Addr) (l : List ByteArray) (R : Rc) (L : Loc) (hD : Di w m ⟨a, k, v, r, h, l⟩ B cp ao R L) (hno : imP page R.images = none) (ho : ownK R.kind = true) (hp : page = R.page) (hl : a < R.lsn) :
    Calls Tryz.prog 16 #[.int .i64 m, .agg #[.int .i64 a, .int .i64 k, .int .i64 v, .int .i64 r, .string h, .slice ao l.length cp], .int .i64 page, .agg (R.cells L)] w fun e w' => Res w w' e (doneP R (doesP m ⟨a, k, v, r, h, l⟩ R)).1 (doneP R (doesP m ⟨a, k, v, r, h, l⟩ R)).2 := by
  have HB := hide (boxR_new w a k v r h (.slice ao l.length cp) R L)
  have HIM : Hid (∀ W, Only (fun _ => False) w W → Calls Tryz.prog 38 #[.int .i64 page, .agg (R.cells L)] W fun e w' => ImQ W w' e (imP page R.images)) := fun W ho => imageOf_any W page R L (by obtain ⟨T, q⟩ := hD.rk.at_.images; exact ⟨T, q.more ho⟩)
  rw [hno] at HIM
  have HCP : Hid (∀ W, Only (fun _ => False) w W → Calls Tryz.prog 39 #[.agg #[.int .i64 a, .int .i64 k, .int .i64 v, .int .i64 r, .string h, .slice ao l.length cp]] W fun e w' => ∃ ao2 cp2, e = .returned (.agg #[.int .i64 a, .int .i64 k, .int .i64 v, .int .i64 r, .string h, .slice ao2 l.length cp2]) ∧ Ls w' W.heap.size (.slice ao2 l.length cp2) l ∧ Only (fun _ => False) W w') := fun W ho => copied_any W a k v r h B cp ao l (hD.strs.more ho)
  have HSZ := hide hD.strs.size
  have HLN := hide hD.len
  have HRK := hide hD.rk
  have HHH := hide hD.high
  have HD1 := hide (fun W sl b s2 s3 c => deed_1 w W m a k v r h sl l b s2 s3 R L hD.rk hD.high c)
  have HD2 := hide (fun W sl b s2 s3 c => deed_2 w W m a k v r h sl l b s2 s3 R L hD.rk hD.high c)
  have HD3 := hide (fun W sl b s2 s3 c => deed_3 w W m a k v r h sl l b s2 s3 R L hD.rk hD.high c)
  have HD4 := hide (fun W sl b s2 s3 c => deed_4 w W m a k v r h sl l b s2 s3 R L hD.rk hD.high c)
  have HD6 := hide (fun W sl b s2 s3 c => deed_6 w W m a k v r h sl l b s2 s3 R L hD.rk hD.high c)
  have HD7 := hide (fun W sl b s2 s3 c => deed_7 w W m a k v r h sl l b s2 s3 R L hD.rk hD.high c)
  have HD8 := hide (fun W sl b s2 s3 c => deed_8 w W m a k v r h sl l b s2 s3 R L hD.rk hD.high c)
  have HD9 := hide (fun W sl b s2 s3 c => deed_9 w W m a k v r h sl l b s2 s3 R L hD.rk hD.high c)
  have HD10 := hide (fun W sl b s2 s3 c => deed_10 w W m a k v r h sl l b s2 s3 R L hD.rk hD.high c)
  have HD11 := hide (fun W sl b s2 s3 c => deed_11 w W m a k v r h sl l b s2 s3 R L hD.rk hD.high c)
  obtain ⟨PC, hPC⟩ : ∃ PC, doesP m ⟨a, k, v, r, h, l⟩ R = PC := ⟨_, rfl⟩
  rw [hPC] at HD1
  rw [hPC] at HD2
  rw [hPC] at HD3
  rw [hPC] at HD4
  rw [hPC] at HD6
  rw [hPC] at HD7
  rw [hPC] at HD8
  rw [hPC] at HD9
  rw [hPC] at HD10
  rw [hPC] at HD11
  rw [hPC]
  clear hPC hD hno
  have HOK := hide ho
  have HPG := hide hp
  clear ho hp
  go_enter Tryz.func16, Tryz.ntmps16
  go_upto_region 1 with fail
  obtain ⟨W0, hW0⟩ : ∃ x, boxR w a k v r h (.slice ao l.length cp) R L = x := ⟨_, rfl⟩
  rw [hW0] at HB
  unfold boxR at hW0
  rw [hW0]
  clear hW0
  go_wp2_with (refine wpList_load_rc rfl (.tmp 7) rfl (w.heap.size + 1) rfl R L HB.out.rc.range ?_; go_frame)
  refine (HIM.out _ HB.out.only).mono ?_
  rintro e w1 ⟨rfl, ho1⟩
  have HB1 := hide ((HB.out.more ho1).more (onlyA w1 (.cells #[.int .i64 0, .int .i64 0, .int .i64 0, .int .i64 0, .string ⟨#[]⟩, .slice none 0 0] 30)))
  clear ho1 HB HIM
  go_upto_region 2 with fail
  obtain ⟨w2, hw2⟩ : ∃ x, w1.alloc (.cells #[.int .i64 0, .int .i64 0, .int .i64 0, .int .i64 0, .string ⟨#[]⟩, .slice none 0 0] 30) = x := ⟨_, rfl⟩
  rw [hw2] at HB1 ⊢
  clear hw2
  obtain ⟨p0, p1, p2, p3, p4, p5, _⟩ := HB1.out.pag
  go_wp2_with fail
  refine (HCP.out _ HB1.out.only).mono ?_
  rintro e w3 ⟨ao2, cp2, rfl, hl3, ho3⟩
  have HB3 := hide (HB1.out.more ho3)
  have HLT : Hid (w.heap.size + 1 + 1 < w2.heap.size ∧ ∀ j, (Value.slice ao2 l.length cp2).ownBlock = some j → w2.heap.size ≤ j) := ⟨HB1.out.res.lt, fun j hj => (World.ownsRow.lt hl3 j hj).1⟩
  have HL3 := hide hl3
  clear ho3 hl3 p0 p1 p2 p3 p4 p5 HB1 HCP
  obtain ⟨p0, p1, p2, p3, p4, p5, t0, t1, t2, t3, t4, t5, pl⟩ := HB3.out.pag
  go_upto_region 6 with fail
  have HB4 := hide (HB3.out.set (a' := a) (k' := k) (v' := v) (r' := r) (h' := h) (sl' := .slice ao2 l.length cp2))
  have HL4 := hide (HL3.out.kept (Only.six w3 w.heap.size (.int .i64 a) (.int .i64 k) (.int .i64 v) (.int .i64 r) (.string h) (.slice ao2 l.length cp2)) (fun j hj e => by have := HLT.out.1; have := HLT.out.2 j hj; omega))
  obtain ⟨w4, hw4⟩ : ∃ x, (((((w3.setCell ⟨w.heap.size, 0, none⟩ (.int .i64 a)).setCell ⟨w.heap.size, 1, none⟩ (.int .i64 k)).setCell ⟨w.heap.size, 2, none⟩ (.int .i64 v)).setCell ⟨w.heap.size, 3, none⟩ (.int .i64 r)).setCell ⟨w.heap.size, 4, none⟩ (.string h)).setCell ⟨w.heap.size, 5, none⟩ (.slice ao2 l.length cp2) = x := ⟨_, rfl⟩
  rw [hw4] at HB4 HL4 ⊢
  clear hw4 HL3 HB3 p0 p1 p2 p3 p4 p5 t0 t1 t2 t3 t4 t5 pl
  have HKD : Hid (0 ≤ R.kind ∧ R.kind ≤ 255) := HRK.out.at_.kind
  have HDS : Hid (∀ W, Calls Tryz.prog 40 #[.int .i64 m] W fun e w' => ∃ mb b s2 s3, e = .returned (.map (some mb)) ∧ Hid ((Instr.lookup 93 (.map (some mb)) (.int .u8 R.kind) true).run Tryz.prog w' = .ok (.tuple #[(fnOf b s2 s3 R.kind).getD .nilFunc, .bool (ownK R.kind)]) w') ∧ Hid (One w' b (.int .i64 m) ∧ One w' s2 (.int .u8 2) ∧ One w' s3 (.int .u8 3)) ∧ Only (fun _ => False) W w') := fun W => (deeds_any W m).mono (fun e w' hq => by
    obtain ⟨mb, b, s2, s3, rfl, hM, h1, h2, h3, ho, _⟩ := hq
    have hlk := hM.look R.kind HKD.out.1 HKD.out.2
    rw [fnOf_own] at hlk
    exact ⟨mb, b, s2, s3, rfl, hlk, ⟨h1, h2, h3⟩, ho⟩)
  clear HKD
  go_cut [12, 13] (fun d t wc => ∃ b s2 s3, d = (fnOf b s2 s3 R.kind).getD .nilFunc ∧ t = .bool (ownK R.kind) ∧ Hid (BoxR w wc a k v r h (.slice ao2 l.length cp2) R L) ∧ Hid (Ls wc w2.heap.size (.slice ao2 l.length cp2) l) ∧ Hid (One wc b (.int .i64 m) ∧ One wc s2 (.int .u8 2) ∧ One wc s3 (.int .u8 3)))
  case first =>
    refine wp_region_noPanic ?_
    refine wp_region_held_drew (S := fun W => Only (fun _ => False) w4 W) (by kernel_rfl) (Only.drew _ w4) (fun hHeld => ?_)
    refine wpAnyH_take (i := 0) (oi := { dst := some 30, op := Op.move (Operand.tmp 0), type := 3, pos := "apply.go:30", after := #[], guard := none }) (v := .int .i64 m) rfl (by kernel_rfl) (by kernel_rfl) (by kernel_rfl) (fun _ _ _ h => h) (Or.inl ⟨by rfl, fun w' hSw => by clear hSw; go_simp⟩) (by assumption) ?_
    simp only [Act.put, List.setIfInBounds_toArray, List.set_cons_zero, List.set_cons_succ]
    refine wpAnyH_take (i := 2) (oi := { dst := some 32, op := Op.fieldAddr 47 (Operand.tmp 7) 3, type := 0, pos := "apply.go:30", after := #[], guard := none }) (v := .pointer (some ⟨(w.heap.size + 1), 3, none⟩)) rfl (by kernel_rfl) (by kernel_rfl) (by kernel_rfl) (fun _ _ _ h => h) (Or.inl ⟨by rfl, fun w' hSw => by clear hSw; go_simp⟩) (by assumption) ?_
    simp only [Act.put, List.setIfInBounds_toArray, List.set_cons_zero, List.set_cons_succ]
    refine wpAnyH_take (i := 3) (oi := { dst := some 33, op := Op.load 42 (Operand.tmp 32), type := 42, pos := "apply.go:30", after := #[{ on := 2, ground := Ground.data }], guard := none }) (v := .int .u8 R.kind) rfl (by kernel_rfl) (by kernel_rfl) (by kernel_rfl) (fun _ _ _ h => h) (yieldsIf_load_cell (by rfl) 42 _ rfl _ rfl (fun W hW => (HB4.out.rc.more hW).c3) (fun W hc => ld_kind hc)) (by assumption) ?_
    simp only [Act.put, List.setIfInBounds_toArray, List.set_cons_zero, List.set_cons_succ]
    refine wpAnyH_ready (rs := [1]) (by kernel_rfl) (by simp) ?_
    refine AllReadyH.cons (o := { dst := some 31, op := Op.call { callee := Callee.value (Operand.func 40), args := #[Operand.tmp 30], argTypes := #[3] }, type := 93, pos := "apply.go:30", after := #[{ on := 0, ground := Ground.data }], guard := none }) rfl (fun K hK => ?_) (AllReadyH.nil)
    go_simp
    refine (HDS.out _).mono ?_
    rintro e x1 ⟨mb, b, s2, s3, rfl, HLK, HON, hx⟩
    have HX1 := hide (o2 (Only.drew _ w4) hx)
    clear hx
    have hlk := HLK.out
    refine hK.out _ _ (HX1.out) (fun hHeld => ?_)
    clear hK K
    try simp only [Act.put, List.setIfInBounds_toArray, List.set_cons_zero, List.set_cons_succ]
    refine wpAnyH_ready (rs := [4]) (by kernel_rfl) (by simp) ?_
    refine AllReadyH.cons (o := { dst := some 34, op := Op.lookup 93 (Operand.tmp 31) (Operand.tmp 33) true, type := 92, pos := "apply.go:30", after := #[{ on := 1, ground := Ground.data }, { on := 3, ground := Ground.data }], guard := none }) rfl (fun K hK => ?_) (AllReadyH.nil)
    go_simp
    refine hK.out _ _ (HX1.out) (fun hHeld => ?_)
    clear hK K
    try simp only [Act.put, List.setIfInBounds_toArray, List.set_cons_zero, List.set_cons_succ]
    refine wpAnyH_take (i := 5) (oi := { dst := some 29, op := Op.move (Operand.tmp 34), type := 92, pos := "apply.go:30", after := #[{ on := 4, ground := Ground.data }], guard := none }) (v := .tuple #[(fnOf b s2 s3 R.kind).getD .nilFunc, .bool (ownK R.kind)]) rfl (by kernel_rfl) (by kernel_rfl) (by kernel_rfl) (fun _ _ _ h => h) (Or.inl ⟨by rfl, fun w' hSw => by clear hSw; go_simp⟩) (by assumption) ?_
    simp only [Act.put, List.setIfInBounds_toArray, List.set_cons_zero, List.set_cons_succ]
    refine wpAnyH_take (i := 6) (oi := { dst := some 35, op := Op.extract (Operand.tmp 29) 0, type := 91, pos := "apply.go:30", after := #[{ on := 5, ground := Ground.data }], guard := none }) (v := (fnOf b s2 s3 R.kind).getD .nilFunc) rfl (by kernel_rfl) (by kernel_rfl) (by kernel_rfl) (fun _ _ _ h => h) (Or.inl ⟨by rfl, fun w' hSw => by clear hSw; go_simp⟩) (by assumption) ?_
    simp only [Act.put, List.setIfInBounds_toArray, List.set_cons_zero, List.set_cons_succ]
    refine wpAnyH_take (i := 7) (oi := { dst := some 36, op := Op.extract (Operand.tmp 29) 1, type := 4, pos := "apply.go:30", after := #[{ on := 5, ground := Ground.data }, { on := 8, ground := Ground.gcOnly Departure.lateStores }], guard := none }) (v := .bool (ownK R.kind)) rfl (by kernel_rfl) (by kernel_rfl) (by kernel_rfl) (fun _ _ _ h => h) (Or.inl ⟨by rfl, fun w' hSw => by clear hSw; go_simp⟩) (by assumption) ?_
    simp only [Act.put, List.setIfInBounds_toArray, List.set_cons_zero, List.set_cons_succ]
    refine wpAnyH_take (i := 8) (oi := { dst := some 12, op := Op.assign (Operand.tmp 35), type := 91, pos := "apply.go:30", after := #[{ on := 6, ground := Ground.data }, { on := 1, ground := Ground.chain }, { on := 0, ground := Ground.phase }, { on := 1, ground := Ground.phase }, { on := 2, ground := Ground.phase }, { on := 3, ground := Ground.phase }, { on := 4, ground := Ground.phase }, { on := 5, ground := Ground.phase }, { on := 6, ground := Ground.phase }, { on := 7, ground := Ground.textOnly Departure.lateStores }], guard := none }) (v := (fnOf b s2 s3 R.kind).getD .nilFunc) rfl (by kernel_rfl) (by kernel_rfl) (by kernel_rfl) (fun _ _ _ h => h) (Or.inl ⟨by rfl, fun w' hSw => by clear hSw; go_simp⟩) (by assumption) ?_
    simp only [Act.put, List.setIfInBounds_toArray, List.set_cons_zero, List.set_cons_succ]
    refine wpAnyH_take (i := 9) (oi := { dst := some 13, op := Op.assign (Operand.tmp 36), type := 4, pos := "apply.go:30", after := #[{ on := 7, ground := Ground.data }, { on := 8, ground := Ground.chain }, { on := 0, ground := Ground.phase }, { on := 1, ground := Ground.phase }, { on := 2, ground := Ground.phase }, { on := 3, ground := Ground.phase }, { on := 4, ground := Ground.phase }, { on := 5, ground := Ground.phase }, { on := 6, ground := Ground.phase }, { on := 7, ground := Ground.phase }, { on := 8, ground := Ground.phase }], guard := none }) (v := .bool (ownK R.kind)) rfl (by kernel_rfl) (by kernel_rfl) (by kernel_rfl) (fun _ _ _ h => h) (Or.inl ⟨by rfl, fun w' hSw => by clear hSw; go_simp⟩) (by assumption) ?_
    simp only [Act.put, List.setIfInBounds_toArray, List.set_cons_zero, List.set_cons_succ]
    refine wpAnyH_done (by kernel_rfl) ?_ _
    refine NoPanic.normal ?_
    go_wp2_with fail
    go_meet
    exact ⟨b, s2, s3, rfl, rfl, hide (HB4.out.more HX1.out), hide (HL4.out.more HX1.out), HON⟩
  case rest =>
    obtain ⟨b, s2, s3, rfl, rfl, HB5, HL5, HON⟩ := hcut
    have HCD : Hid (Cd w wc m (.slice ao2 l.length cp2) l b s2 s3) := ⟨HB5.out.only, (by
      obtain ⟨e1, e2⟩ := HL5.out
      refine ⟨e1, e2.imp id ?_⟩
      rintro ⟨g, cap, cur, hv, hg, hh⟩
      exact ⟨g, cap, cur, hv, by have := HLT.out.1; omega, hh⟩), HSZ.out, HLN.out, HON.out.1, HON.out.2.1, HON.out.2.2⟩
    have HOW : Hid (∀ j, (Value.slice ao2 l.length cp2).ownBlock = some j → w.heap.size + 1 + 1 < j) := fun j hj => by have := HLT.out.1; have := HLT.out.2 j hj; omega
    have HOK2 := HOK.out
    rw [HOK.out]
    unfold ownK at HOK2
    rw [decide_eq_true_iff] at HOK2
    have HCS := hide HOK2
    clear HOK2 HOK HON HDS HB4 HL4 HL5 HSZ HLN HRK HHH
    have r5 := HB5.out.rc.c5
    rw [← HPG.out] at r5
    have r0 := HB5.out.rc.c0
    obtain ⟨p0, p1, p2, p3, p4, p5, _⟩ := HB5.out.pag
    rcases HCS.out with hk | hk | hk | hk | hk | hk | hk | hk | hk | hk
    · have hfv : (fnOf b s2 s3 R.kind).getD .nilFunc = .func (.func 72) #[] #[] := by rw [hk]; rfl
      rw [hfv]
      have HDK := hide (fun W sl b s2 s3 c => HD1.out W sl b s2 s3 c hk)
      clear hfv hk HCS HD1 HD2 HD3 HD4 HD6 HD7 HD8 HD9 HD10 HD11
      go_wp2_with (refine wpList_load_rc rfl (.tmp 7) rfl (w.heap.size + 1) rfl R L HB5.out.rc.range ?_; go_frame)
      refine (HDK.out _ _ b s2 s3 HCD.out).mono ?_
      rintro e w9 ⟨B3, ao3, cp3, rfl, hS3, hF3, ho3, hB3⟩
      have hnr : ¬ (Value.slice ao2 l.length cp2).ownBlock = some (w.heap.size + 1) := fun q => by have := HOW.out _ q; omega
      have hnq : ¬ (Value.slice ao2 l.length cp2).ownBlock = some (w.heap.size + 1 + 1) := fun q => by have := HOW.out _ q; omega
      have HA := hide (onlyA w9 (.cells #[.int .i64 PC.1.lsn, .int .i64 PC.1.kind, .int .i64 PC.1.level, .int .i64 PC.1.right, .string PC.1.high, .slice ao3 PC.1.items.length cp3] 30))
      have HP := hide (Pag.new w9 (.int .i64 PC.1.lsn) (.int .i64 PC.1.kind) (.int .i64 PC.1.level) (.int .i64 PC.1.right) (.string PC.1.high) (.slice ao3 PC.1.items.length cp3))
      have HR9 := hide ((HB5.out.rc.kept ho3 hnr).more HA.out)
      have HQ9 := hide ((HB5.out.res.kept ho3 hnq).more HA.out)
      have HO9 : Hid (Only (fun _ => False) w _) := o2 (HB5.out.only.trans ho3 (fun i hi e => by have := HOW.out _ e; omega)) HA.out
      have HS9 := hide (hS3.more HA.out)
      have HF9 := hide hF3
      have HBB : Hid ((0 < PC.1.items.length → w.heap.size + 1 + 1 < B3 ∧ B3 < w9.heap.size) ∧ w.heap.size + 1 + 1 < w9.heap.size) := ⟨fun h0 => ⟨(hB3 h0).elim (fun q => HOW.out _ q) (fun q => by have := HB5.out.res.lt; omega), hS3.lt h0⟩, Nat.lt_of_lt_of_le HB5.out.res.lt ho3.size⟩
      clear hS3 hF3 ho3 hB3 hnr hnq HA HB5 HCD HDK HOW p0 p1 p2 p3 p4 p5 r0 r5 HLT
      go_upto_region 10 with fail
      obtain ⟨bb, hbb⟩ : ∃ b, w9.heap.size = b := ⟨_, rfl⟩
      rw [hbb] at HP HBB ⊢
      clear hbb
      obtain ⟨wa, hwa⟩ : ∃ x, w9.alloc (.cells #[.int .i64 PC.1.lsn, .int .i64 PC.1.kind, .int .i64 PC.1.level, .int .i64 PC.1.right, .string PC.1.high, .slice ao3 PC.1.items.length cp3] 30) = x := ⟨_, rfl⟩
      rw [hwa] at HP HR9 HQ9 HO9 HS9 ⊢
      clear hwa
      by_cases hC : PC.2 = 0
      · have HDN : Hid (doneP R PC = (PC.1.at R.lsn, 0)) := by unfold Hid doneP; rw [if_pos hC]
        obtain ⟨c0, c1, c2, c3, c4, c5, f0, f1, f2, f3, f4, f5, _⟩ := HP.out
        have r0 := HR9.out.c0
        rw [hC]
        go_upto_region 13 with fail
        have hs0 := Only.setCell (S := fun j => j = bb) wa ⟨bb, 0, none⟩ (.int .i64 R.lsn) rfl
        have HP2 := hide (HP.out.set0 (.int .i64 R.lsn))
        have HQ2 := hide (HQ9.out.kept hs0 (by have := HBB.out.2; omega))
        have HS2 := hide (HS9.out.kept hs0 (fun h0 e => by have := (HBB.out.1 h0).2; omega))
        have HO2 : Hid (Only (fun _ => False) w (wa.setCell ⟨bb, 0, none⟩ (.int .i64 R.lsn))) := HO9.out.trans hs0 (fun i hi e => by have := HBB.out.2; omega)
        obtain ⟨w3, hw3⟩ : ∃ x, wa.setCell ⟨bb, 0, none⟩ (.int .i64 R.lsn) = x := ⟨_, rfl⟩
        rw [hw3] at HP2 HQ2 HS2 HO2 ⊢
        clear hw3 hs0 c0 c1 c2 c3 c4 c5 f0 f1 f2 f3 f4 f5 r0 HP HQ9 HS9 HO9 HR9
        obtain ⟨c0, c1, c2, c3, c4, c5, _⟩ := HP2.out
        obtain ⟨q0, q1, q2, q3, q4, q5, g0, g1, g2, g3, g4, g5, ql⟩ := HQ2.out
        go_wp2_with fail
        refine bodyPost_ret (results_page rfl rfl (Pag.six HQ2.out _ _ _ _ _ _)) rfl ?_
        rw [HDN.out]
        have h6 := Only.six w3 (w.heap.size + 1 + 1) (.int .i64 R.lsn) (.int .i64 PC.1.kind) (.int .i64 PC.1.level) (.int .i64 PC.1.right) (.string PC.1.high) (.slice ao3 PC.1.items.length cp3)
        exact ⟨B3, ao3, cp3, rfl, HS2.out.kept h6 (fun h0 e => by have := (HBB.out.1 h0).1; omega), HF9.out, HO2.out.trans h6 (fun i hi e => by omega), fun h0 => by have := (HBB.out.1 h0).1; omega⟩
      · have hCb : (PC.2 == 0) = false := by simpa using hC
        have HDN : Hid (doneP R PC = (.none, PC.2)) := by unfold Hid doneP; rw [if_neg hC]
        clear HP HR9 HS9 HF9
        obtain ⟨q0, q1, q2, q3, q4, q5, g0, g1, g2, g3, g4, g5, ql⟩ := HQ9.out
        go_wp2_with fail
        refine bodyPost_ret (results_page rfl rfl (Pag.six HQ9.out _ _ _ _ _ _)) rfl ?_
        rw [HDN.out]
        exact Res.none PC.2 (HO9.out.trans (Only.six _ (w.heap.size + 1 + 1) _ _ _ _ _ _) (fun i hi e => by omega))
    · have hfv : (fnOf b s2 s3 R.kind).getD .nilFunc = .func (.func 73) #[] #[] := by rw [hk]; rfl
      rw [hfv]
      have HDK := hide (fun W sl b s2 s3 c => HD2.out W sl b s2 s3 c hk)
      clear hfv hk HCS HD1 HD2 HD3 HD4 HD6 HD7 HD8 HD9 HD10 HD11
      go_wp2_with (refine wpList_load_rc rfl (.tmp 7) rfl (w.heap.size + 1) rfl R L HB5.out.rc.range ?_; go_frame)
      refine (HDK.out _ _ b s2 s3 HCD.out).mono ?_
      rintro e w9 ⟨B3, ao3, cp3, rfl, hS3, hF3, ho3, hB3⟩
      have hnr : ¬ (Value.slice ao2 l.length cp2).ownBlock = some (w.heap.size + 1) := fun q => by have := HOW.out _ q; omega
      have hnq : ¬ (Value.slice ao2 l.length cp2).ownBlock = some (w.heap.size + 1 + 1) := fun q => by have := HOW.out _ q; omega
      have HA := hide (onlyA w9 (.cells #[.int .i64 PC.1.lsn, .int .i64 PC.1.kind, .int .i64 PC.1.level, .int .i64 PC.1.right, .string PC.1.high, .slice ao3 PC.1.items.length cp3] 30))
      have HP := hide (Pag.new w9 (.int .i64 PC.1.lsn) (.int .i64 PC.1.kind) (.int .i64 PC.1.level) (.int .i64 PC.1.right) (.string PC.1.high) (.slice ao3 PC.1.items.length cp3))
      have HR9 := hide ((HB5.out.rc.kept ho3 hnr).more HA.out)
      have HQ9 := hide ((HB5.out.res.kept ho3 hnq).more HA.out)
      have HO9 : Hid (Only (fun _ => False) w _) := o2 (HB5.out.only.trans ho3 (fun i hi e => by have := HOW.out _ e; omega)) HA.out
      have HS9 := hide (hS3.more HA.out)
      have HF9 := hide hF3
      have HBB : Hid ((0 < PC.1.items.length → w.heap.size + 1 + 1 < B3 ∧ B3 < w9.heap.size) ∧ w.heap.size + 1 + 1 < w9.heap.size) := ⟨fun h0 => ⟨(hB3 h0).elim (fun q => HOW.out _ q) (fun q => by have := HB5.out.res.lt; omega), hS3.lt h0⟩, Nat.lt_of_lt_of_le HB5.out.res.lt ho3.size⟩
      clear hS3 hF3 ho3 hB3 hnr hnq HA HB5 HCD HDK HOW p0 p1 p2 p3 p4 p5 r0 r5 HLT
      go_upto_region 10 with fail
      obtain ⟨bb, hbb⟩ : ∃ b, w9.heap.size = b := ⟨_, rfl⟩
      rw [hbb] at HP HBB ⊢
      clear hbb
      obtain ⟨wa, hwa⟩ : ∃ x, w9.alloc (.cells #[.int .i64 PC.1.lsn, .int .i64 PC.1.kind, .int .i64 PC.1.level, .int .i64 PC.1.right, .string PC.1.high, .slice ao3 PC.1.items.length cp3] 30) = x := ⟨_, rfl⟩
      rw [hwa] at HP HR9 HQ9 HO9 HS9 ⊢
      clear hwa
      by_cases hC : PC.2 = 0
      · have HDN : Hid (doneP R PC = (PC.1.at R.lsn, 0)) := by unfold Hid doneP; rw [if_pos hC]
        obtain ⟨c0, c1, c2, c3, c4, c5, f0, f1, f2, f3, f4, f5, _⟩ := HP.out
        have r0 := HR9.out.c0
        rw [hC]
        go_upto_region 13 with fail
        have hs0 := Only.setCell (S := fun j => j = bb) wa ⟨bb, 0, none⟩ (.int .i64 R.lsn) rfl
        have HP2 := hide (HP.out.set0 (.int .i64 R.lsn))
        have HQ2 := hide (HQ9.out.kept hs0 (by have := HBB.out.2; omega))
        have HS2 := hide (HS9.out.kept hs0 (fun h0 e => by have := (HBB.out.1 h0).2; omega))
        have HO2 : Hid (Only (fun _ => False) w (wa.setCell ⟨bb, 0, none⟩ (.int .i64 R.lsn))) := HO9.out.trans hs0 (fun i hi e => by have := HBB.out.2; omega)
        obtain ⟨w3, hw3⟩ : ∃ x, wa.setCell ⟨bb, 0, none⟩ (.int .i64 R.lsn) = x := ⟨_, rfl⟩
        rw [hw3] at HP2 HQ2 HS2 HO2 ⊢
        clear hw3 hs0 c0 c1 c2 c3 c4 c5 f0 f1 f2 f3 f4 f5 r0 HP HQ9 HS9 HO9 HR9
        obtain ⟨c0, c1, c2, c3, c4, c5, _⟩ := HP2.out
        obtain ⟨q0, q1, q2, q3, q4, q5, g0, g1, g2, g3, g4, g5, ql⟩ := HQ2.out
        go_wp2_with fail
        refine bodyPost_ret (results_page rfl rfl (Pag.six HQ2.out _ _ _ _ _ _)) rfl ?_
        rw [HDN.out]
        have h6 := Only.six w3 (w.heap.size + 1 + 1) (.int .i64 R.lsn) (.int .i64 PC.1.kind) (.int .i64 PC.1.level) (.int .i64 PC.1.right) (.string PC.1.high) (.slice ao3 PC.1.items.length cp3)
        exact ⟨B3, ao3, cp3, rfl, HS2.out.kept h6 (fun h0 e => by have := (HBB.out.1 h0).1; omega), HF9.out, HO2.out.trans h6 (fun i hi e => by omega), fun h0 => by have := (HBB.out.1 h0).1; omega⟩
      · have hCb : (PC.2 == 0) = false := by simpa using hC
        have HDN : Hid (doneP R PC = (.none, PC.2)) := by unfold Hid doneP; rw [if_neg hC]
        clear HP HR9 HS9 HF9
        obtain ⟨q0, q1, q2, q3, q4, q5, g0, g1, g2, g3, g4, g5, ql⟩ := HQ9.out
        go_wp2_with fail
        refine bodyPost_ret (results_page rfl rfl (Pag.six HQ9.out _ _ _ _ _ _)) rfl ?_
        rw [HDN.out]
        exact Res.none PC.2 (HO9.out.trans (Only.six _ (w.heap.size + 1 + 1) _ _ _ _ _ _) (fun i hi e => by omega))
    · have hfv : (fnOf b s2 s3 R.kind).getD .nilFunc = .func (.func 75) #[] #[] := by rw [hk]; rfl
      rw [hfv]
      have HDK := hide (fun W sl b s2 s3 c => HD3.out W sl b s2 s3 c hk)
      clear hfv hk HCS HD1 HD2 HD3 HD4 HD6 HD7 HD8 HD9 HD10 HD11
      go_wp2_with (refine wpList_load_rc rfl (.tmp 7) rfl (w.heap.size + 1) rfl R L HB5.out.rc.range ?_; go_frame)
      refine (HDK.out _ _ b s2 s3 HCD.out).mono ?_
      rintro e w9 ⟨B3, ao3, cp3, rfl, hS3, hF3, ho3, hB3⟩
      have hnr : ¬ (Value.slice ao2 l.length cp2).ownBlock = some (w.heap.size + 1) := fun q => by have := HOW.out _ q; omega
      have hnq : ¬ (Value.slice ao2 l.length cp2).ownBlock = some (w.heap.size + 1 + 1) := fun q => by have := HOW.out _ q; omega
      have HA := hide (onlyA w9 (.cells #[.int .i64 PC.1.lsn, .int .i64 PC.1.kind, .int .i64 PC.1.level, .int .i64 PC.1.right, .string PC.1.high, .slice ao3 PC.1.items.length cp3] 30))
      have HP := hide (Pag.new w9 (.int .i64 PC.1.lsn) (.int .i64 PC.1.kind) (.int .i64 PC.1.level) (.int .i64 PC.1.right) (.string PC.1.high) (.slice ao3 PC.1.items.length cp3))
      have HR9 := hide ((HB5.out.rc.kept ho3 hnr).more HA.out)
      have HQ9 := hide ((HB5.out.res.kept ho3 hnq).more HA.out)
      have HO9 : Hid (Only (fun _ => False) w _) := o2 (HB5.out.only.trans ho3 (fun i hi e => by have := HOW.out _ e; omega)) HA.out
      have HS9 := hide (hS3.more HA.out)
      have HF9 := hide hF3
      have HBB : Hid ((0 < PC.1.items.length → w.heap.size + 1 + 1 < B3 ∧ B3 < w9.heap.size) ∧ w.heap.size + 1 + 1 < w9.heap.size) := ⟨fun h0 => ⟨(hB3 h0).elim (fun q => HOW.out _ q) (fun q => by have := HB5.out.res.lt; omega), hS3.lt h0⟩, Nat.lt_of_lt_of_le HB5.out.res.lt ho3.size⟩
      clear hS3 hF3 ho3 hB3 hnr hnq HA HB5 HCD HDK HOW p0 p1 p2 p3 p4 p5 r0 r5 HLT
      go_upto_region 10 with fail
      obtain ⟨bb, hbb⟩ : ∃ b, w9.heap.size = b := ⟨_, rfl⟩
      rw [hbb] at HP HBB ⊢
      clear hbb
      obtain ⟨wa, hwa⟩ : ∃ x, w9.alloc (.cells #[.int .i64 PC.1.lsn, .int .i64 PC.1.kind, .int .i64 PC.1.level, .int .i64 PC.1.right, .string PC.1.high, .slice ao3 PC.1.items.length cp3] 30) = x := ⟨_, rfl⟩
      rw [hwa] at HP HR9 HQ9 HO9 HS9 ⊢
      clear hwa
      by_cases hC : PC.2 = 0
      · have HDN : Hid (doneP R PC = (PC.1.at R.lsn, 0)) := by unfold Hid doneP; rw [if_pos hC]
        obtain ⟨c0, c1, c2, c3, c4, c5, f0, f1, f2, f3, f4, f5, _⟩ := HP.out
        have r0 := HR9.out.c0
        rw [hC]
        go_upto_region 13 with fail
        have hs0 := Only.setCell (S := fun j => j = bb) wa ⟨bb, 0, none⟩ (.int .i64 R.lsn) rfl
        have HP2 := hide (HP.out.set0 (.int .i64 R.lsn))
        have HQ2 := hide (HQ9.out.kept hs0 (by have := HBB.out.2; omega))
        have HS2 := hide (HS9.out.kept hs0 (fun h0 e => by have := (HBB.out.1 h0).2; omega))
        have HO2 : Hid (Only (fun _ => False) w (wa.setCell ⟨bb, 0, none⟩ (.int .i64 R.lsn))) := HO9.out.trans hs0 (fun i hi e => by have := HBB.out.2; omega)
        obtain ⟨w3, hw3⟩ : ∃ x, wa.setCell ⟨bb, 0, none⟩ (.int .i64 R.lsn) = x := ⟨_, rfl⟩
        rw [hw3] at HP2 HQ2 HS2 HO2 ⊢
        clear hw3 hs0 c0 c1 c2 c3 c4 c5 f0 f1 f2 f3 f4 f5 r0 HP HQ9 HS9 HO9 HR9
        obtain ⟨c0, c1, c2, c3, c4, c5, _⟩ := HP2.out
        obtain ⟨q0, q1, q2, q3, q4, q5, g0, g1, g2, g3, g4, g5, ql⟩ := HQ2.out
        go_wp2_with fail
        refine bodyPost_ret (results_page rfl rfl (Pag.six HQ2.out _ _ _ _ _ _)) rfl ?_
        rw [HDN.out]
        have h6 := Only.six w3 (w.heap.size + 1 + 1) (.int .i64 R.lsn) (.int .i64 PC.1.kind) (.int .i64 PC.1.level) (.int .i64 PC.1.right) (.string PC.1.high) (.slice ao3 PC.1.items.length cp3)
        exact ⟨B3, ao3, cp3, rfl, HS2.out.kept h6 (fun h0 e => by have := (HBB.out.1 h0).1; omega), HF9.out, HO2.out.trans h6 (fun i hi e => by omega), fun h0 => by have := (HBB.out.1 h0).1; omega⟩
      · have hCb : (PC.2 == 0) = false := by simpa using hC
        have HDN : Hid (doneP R PC = (.none, PC.2)) := by unfold Hid doneP; rw [if_neg hC]
        clear HP HR9 HS9 HF9
        obtain ⟨q0, q1, q2, q3, q4, q5, g0, g1, g2, g3, g4, g5, ql⟩ := HQ9.out
        go_wp2_with fail
        refine bodyPost_ret (results_page rfl rfl (Pag.six HQ9.out _ _ _ _ _ _)) rfl ?_
        rw [HDN.out]
        exact Res.none PC.2 (HO9.out.trans (Only.six _ (w.heap.size + 1 + 1) _ _ _ _ _ _) (fun i hi e => by omega))
    · have hfv : (fnOf b s2 s3 R.kind).getD .nilFunc = .func (.func 76) #[] #[] := by rw [hk]; rfl
      rw [hfv]
      have HDK := hide (fun W sl b s2 s3 c => HD4.out W sl b s2 s3 c hk)
      clear hfv hk HCS HD1 HD2 HD3 HD4 HD6 HD7 HD8 HD9 HD10 HD11
      go_wp2_with (refine wpList_load_rc rfl (.tmp 7) rfl (w.heap.size + 1) rfl R L HB5.out.rc.range ?_; go_frame)
      refine (HDK.out _ _ b s2 s3 HCD.out).mono ?_
      rintro e w9 ⟨B3, ao3, cp3, rfl, hS3, hF3, ho3, hB3⟩
      have hnr : ¬ (Value.slice ao2 l.length cp2).ownBlock = some (w.heap.size + 1) := fun q => by have := HOW.out _ q; omega
      have hnq : ¬ (Value.slice ao2 l.length cp2).ownBlock = some (w.heap.size + 1 + 1) := fun q => by have := HOW.out _ q; omega
      have HA := hide (onlyA w9 (.cells #[.int .i64 PC.1.lsn, .int .i64 PC.1.kind, .int .i64 PC.1.level, .int .i64 PC.1.right, .string PC.1.high, .slice ao3 PC.1.items.length cp3] 30))
      have HP := hide (Pag.new w9 (.int .i64 PC.1.lsn) (.int .i64 PC.1.kind) (.int .i64 PC.1.level) (.int .i64 PC.1.right) (.string PC.1.high) (.slice ao3 PC.1.items.length cp3))
      have HR9 := hide ((HB5.out.rc.kept ho3 hnr).more HA.out)
      have HQ9 := hide ((HB5.out.res.kept ho3 hnq).more HA.out)
      have HO9 : Hid (Only (fun _ => False) w _) := o2 (HB5.out.only.trans ho3 (fun i hi e => by have := HOW.out _ e; omega)) HA.out
      have HS9 := hide (hS3.more HA.out)
      have HF9 := hide hF3
      have HBB : Hid ((0 < PC.1.items.length → w.heap.size + 1 + 1 < B3 ∧ B3 < w9.heap.size) ∧ w.heap.size + 1 + 1 < w9.heap.size) := ⟨fun h0 => ⟨(hB3 h0).elim (fun q => HOW.out _ q) (fun q => by have := HB5.out.res.lt; omega), hS3.lt h0⟩, Nat.lt_of_lt_of_le HB5.out.res.lt ho3.size⟩
      clear hS3 hF3 ho3 hB3 hnr hnq HA HB5 HCD HDK HOW p0 p1 p2 p3 p4 p5 r0 r5 HLT
      go_upto_region 10 with fail
      obtain ⟨bb, hbb⟩ : ∃ b, w9.heap.size = b := ⟨_, rfl⟩
      rw [hbb] at HP HBB ⊢
      clear hbb
      obtain ⟨wa, hwa⟩ : ∃ x, w9.alloc (.cells #[.int .i64 PC.1.lsn, .int .i64 PC.1.kind, .int .i64 PC.1.level, .int .i64 PC.1.right, .string PC.1.high, .slice ao3 PC.1.items.length cp3] 30) = x := ⟨_, rfl⟩
      rw [hwa] at HP HR9 HQ9 HO9 HS9 ⊢
      clear hwa
      by_cases hC : PC.2 = 0
      · have HDN : Hid (doneP R PC = (PC.1.at R.lsn, 0)) := by unfold Hid doneP; rw [if_pos hC]
        obtain ⟨c0, c1, c2, c3, c4, c5, f0, f1, f2, f3, f4, f5, _⟩ := HP.out
        have r0 := HR9.out.c0
        rw [hC]
        go_upto_region 13 with fail
        have hs0 := Only.setCell (S := fun j => j = bb) wa ⟨bb, 0, none⟩ (.int .i64 R.lsn) rfl
        have HP2 := hide (HP.out.set0 (.int .i64 R.lsn))
        have HQ2 := hide (HQ9.out.kept hs0 (by have := HBB.out.2; omega))
        have HS2 := hide (HS9.out.kept hs0 (fun h0 e => by have := (HBB.out.1 h0).2; omega))
        have HO2 : Hid (Only (fun _ => False) w (wa.setCell ⟨bb, 0, none⟩ (.int .i64 R.lsn))) := HO9.out.trans hs0 (fun i hi e => by have := HBB.out.2; omega)
        obtain ⟨w3, hw3⟩ : ∃ x, wa.setCell ⟨bb, 0, none⟩ (.int .i64 R.lsn) = x := ⟨_, rfl⟩
        rw [hw3] at HP2 HQ2 HS2 HO2 ⊢
        clear hw3 hs0 c0 c1 c2 c3 c4 c5 f0 f1 f2 f3 f4 f5 r0 HP HQ9 HS9 HO9 HR9
        obtain ⟨c0, c1, c2, c3, c4, c5, _⟩ := HP2.out
        obtain ⟨q0, q1, q2, q3, q4, q5, g0, g1, g2, g3, g4, g5, ql⟩ := HQ2.out
        go_wp2_with fail
        refine bodyPost_ret (results_page rfl rfl (Pag.six HQ2.out _ _ _ _ _ _)) rfl ?_
        rw [HDN.out]
        have h6 := Only.six w3 (w.heap.size + 1 + 1) (.int .i64 R.lsn) (.int .i64 PC.1.kind) (.int .i64 PC.1.level) (.int .i64 PC.1.right) (.string PC.1.high) (.slice ao3 PC.1.items.length cp3)
        exact ⟨B3, ao3, cp3, rfl, HS2.out.kept h6 (fun h0 e => by have := (HBB.out.1 h0).1; omega), HF9.out, HO2.out.trans h6 (fun i hi e => by omega), fun h0 => by have := (HBB.out.1 h0).1; omega⟩
      · have hCb : (PC.2 == 0) = false := by simpa using hC
        have HDN : Hid (doneP R PC = (.none, PC.2)) := by unfold Hid doneP; rw [if_neg hC]
        clear HP HR9 HS9 HF9
        obtain ⟨q0, q1, q2, q3, q4, q5, g0, g1, g2, g3, g4, g5, ql⟩ := HQ9.out
        go_wp2_with fail
        refine bodyPost_ret (results_page rfl rfl (Pag.six HQ9.out _ _ _ _ _ _)) rfl ?_
        rw [HDN.out]
        exact Res.none PC.2 (HO9.out.trans (Only.six _ (w.heap.size + 1 + 1) _ _ _ _ _ _) (fun i hi e => by omega))
    · have hfv : (fnOf b s2 s3 R.kind).getD .nilFunc = .func (.func 74) #[] #[] := by rw [hk]; rfl
      rw [hfv]
      have HDK := hide (fun W sl b s2 s3 c => HD6.out W sl b s2 s3 c hk)
      clear hfv hk HCS HD1 HD2 HD3 HD4 HD6 HD7 HD8 HD9 HD10 HD11
      go_wp2_with (refine wpList_load_rc rfl (.tmp 7) rfl (w.heap.size + 1) rfl R L HB5.out.rc.range ?_; go_frame)
      refine (HDK.out _ _ b s2 s3 HCD.out).mono ?_
      rintro e w9 ⟨B3, ao3, cp3, rfl, hS3, hF3, ho3, hB3⟩
      have hnr : ¬ (Value.slice ao2 l.length cp2).ownBlock = some (w.heap.size + 1) := fun q => by have := HOW.out _ q; omega
      have hnq : ¬ (Value.slice ao2 l.length cp2).ownBlock = some (w.heap.size + 1 + 1) := fun q => by have := HOW.out _ q; omega
      have HA := hide (onlyA w9 (.cells #[.int .i64 PC.1.lsn, .int .i64 PC.1.kind, .int .i64 PC.1.level, .int .i64 PC.1.right, .string PC.1.high, .slice ao3 PC.1.items.length cp3] 30))
      have HP := hide (Pag.new w9 (.int .i64 PC.1.lsn) (.int .i64 PC.1.kind) (.int .i64 PC.1.level) (.int .i64 PC.1.right) (.string PC.1.high) (.slice ao3 PC.1.items.length cp3))
      have HR9 := hide ((HB5.out.rc.kept ho3 hnr).more HA.out)
      have HQ9 := hide ((HB5.out.res.kept ho3 hnq).more HA.out)
      have HO9 : Hid (Only (fun _ => False) w _) := o2 (HB5.out.only.trans ho3 (fun i hi e => by have := HOW.out _ e; omega)) HA.out
      have HS9 := hide (hS3.more HA.out)
      have HF9 := hide hF3
      have HBB : Hid ((0 < PC.1.items.length → w.heap.size + 1 + 1 < B3 ∧ B3 < w9.heap.size) ∧ w.heap.size + 1 + 1 < w9.heap.size) := ⟨fun h0 => ⟨(hB3 h0).elim (fun q => HOW.out _ q) (fun q => by have := HB5.out.res.lt; omega), hS3.lt h0⟩, Nat.lt_of_lt_of_le HB5.out.res.lt ho3.size⟩
      clear hS3 hF3 ho3 hB3 hnr hnq HA HB5 HCD HDK HOW p0 p1 p2 p3 p4 p5 r0 r5 HLT
      go_upto_region 10 with fail
      obtain ⟨bb, hbb⟩ : ∃ b, w9.heap.size = b := ⟨_, rfl⟩
      rw [hbb] at HP HBB ⊢
      clear hbb
      obtain ⟨wa, hwa⟩ : ∃ x, w9.alloc (.cells #[.int .i64 PC.1.lsn, .int .i64 PC.1.kind, .int .i64 PC.1.level, .int .i64 PC.1.right, .string PC.1.high, .slice ao3 PC.1.items.length cp3] 30) = x := ⟨_, rfl⟩
      rw [hwa] at HP HR9 HQ9 HO9 HS9 ⊢
      clear hwa
      by_cases hC : PC.2 = 0
      · have HDN : Hid (doneP R PC = (PC.1.at R.lsn, 0)) := by unfold Hid doneP; rw [if_pos hC]
        obtain ⟨c0, c1, c2, c3, c4, c5, f0, f1, f2, f3, f4, f5, _⟩ := HP.out
        have r0 := HR9.out.c0
        rw [hC]
        go_upto_region 13 with fail
        have hs0 := Only.setCell (S := fun j => j = bb) wa ⟨bb, 0, none⟩ (.int .i64 R.lsn) rfl
        have HP2 := hide (HP.out.set0 (.int .i64 R.lsn))
        have HQ2 := hide (HQ9.out.kept hs0 (by have := HBB.out.2; omega))
        have HS2 := hide (HS9.out.kept hs0 (fun h0 e => by have := (HBB.out.1 h0).2; omega))
        have HO2 : Hid (Only (fun _ => False) w (wa.setCell ⟨bb, 0, none⟩ (.int .i64 R.lsn))) := HO9.out.trans hs0 (fun i hi e => by have := HBB.out.2; omega)
        obtain ⟨w3, hw3⟩ : ∃ x, wa.setCell ⟨bb, 0, none⟩ (.int .i64 R.lsn) = x := ⟨_, rfl⟩
        rw [hw3] at HP2 HQ2 HS2 HO2 ⊢
        clear hw3 hs0 c0 c1 c2 c3 c4 c5 f0 f1 f2 f3 f4 f5 r0 HP HQ9 HS9 HO9 HR9
        obtain ⟨c0, c1, c2, c3, c4, c5, _⟩ := HP2.out
        obtain ⟨q0, q1, q2, q3, q4, q5, g0, g1, g2, g3, g4, g5, ql⟩ := HQ2.out
        go_wp2_with fail
        refine bodyPost_ret (results_page rfl rfl (Pag.six HQ2.out _ _ _ _ _ _)) rfl ?_
        rw [HDN.out]
        have h6 := Only.six w3 (w.heap.size + 1 + 1) (.int .i64 R.lsn) (.int .i64 PC.1.kind) (.int .i64 PC.1.level) (.int .i64 PC.1.right) (.string PC.1.high) (.slice ao3 PC.1.items.length cp3)
        exact ⟨B3, ao3, cp3, rfl, HS2.out.kept h6 (fun h0 e => by have := (HBB.out.1 h0).1; omega), HF9.out, HO2.out.trans h6 (fun i hi e => by omega), fun h0 => by have := (HBB.out.1 h0).1; omega⟩
      · have hCb : (PC.2 == 0) = false := by simpa using hC
        have HDN : Hid (doneP R PC = (.none, PC.2)) := by unfold Hid doneP; rw [if_neg hC]
        clear HP HR9 HS9 HF9
        obtain ⟨q0, q1, q2, q3, q4, q5, g0, g1, g2, g3, g4, g5, ql⟩ := HQ9.out
        go_wp2_with fail
        refine bodyPost_ret (results_page rfl rfl (Pag.six HQ9.out _ _ _ _ _ _)) rfl ?_
        rw [HDN.out]
        exact Res.none PC.2 (HO9.out.trans (Only.six _ (w.heap.size + 1 + 1) _ _ _ _ _ _) (fun i hi e => by omega))
    · have hfv : (fnOf b s2 s3 R.kind).getD .nilFunc = .func (.func 71) #[] #[.pointer (some ⟨b, 0, none⟩), .pointer (some ⟨s2, 0, none⟩)] := by rw [hk]; rfl
      rw [hfv]
      have HDK := hide (fun W sl b s2 s3 c => HD7.out W sl b s2 s3 c hk)
      clear hfv hk HCS HD1 HD2 HD3 HD4 HD6 HD7 HD8 HD9 HD10 HD11
      go_wp2_with (refine wpList_load_rc rfl (.tmp 7) rfl (w.heap.size + 1) rfl R L HB5.out.rc.range ?_; go_frame)
      refine (HDK.out _ _ b s2 s3 HCD.out).mono ?_
      rintro e w9 ⟨B3, ao3, cp3, rfl, hS3, hF3, ho3, hB3⟩
      have hnr : ¬ (Value.slice ao2 l.length cp2).ownBlock = some (w.heap.size + 1) := fun q => by have := HOW.out _ q; omega
      have hnq : ¬ (Value.slice ao2 l.length cp2).ownBlock = some (w.heap.size + 1 + 1) := fun q => by have := HOW.out _ q; omega
      have HA := hide (onlyA w9 (.cells #[.int .i64 PC.1.lsn, .int .i64 PC.1.kind, .int .i64 PC.1.level, .int .i64 PC.1.right, .string PC.1.high, .slice ao3 PC.1.items.length cp3] 30))
      have HP := hide (Pag.new w9 (.int .i64 PC.1.lsn) (.int .i64 PC.1.kind) (.int .i64 PC.1.level) (.int .i64 PC.1.right) (.string PC.1.high) (.slice ao3 PC.1.items.length cp3))
      have HR9 := hide ((HB5.out.rc.kept ho3 hnr).more HA.out)
      have HQ9 := hide ((HB5.out.res.kept ho3 hnq).more HA.out)
      have HO9 : Hid (Only (fun _ => False) w _) := o2 (HB5.out.only.trans ho3 (fun i hi e => by have := HOW.out _ e; omega)) HA.out
      have HS9 := hide (hS3.more HA.out)
      have HF9 := hide hF3
      have HBB : Hid ((0 < PC.1.items.length → w.heap.size + 1 + 1 < B3 ∧ B3 < w9.heap.size) ∧ w.heap.size + 1 + 1 < w9.heap.size) := ⟨fun h0 => ⟨(hB3 h0).elim (fun q => HOW.out _ q) (fun q => by have := HB5.out.res.lt; omega), hS3.lt h0⟩, Nat.lt_of_lt_of_le HB5.out.res.lt ho3.size⟩
      clear hS3 hF3 ho3 hB3 hnr hnq HA HB5 HCD HDK HOW p0 p1 p2 p3 p4 p5 r0 r5 HLT
      go_upto_region 10 with fail
      obtain ⟨bb, hbb⟩ : ∃ b, w9.heap.size = b := ⟨_, rfl⟩
      rw [hbb] at HP HBB ⊢
      clear hbb
      obtain ⟨wa, hwa⟩ : ∃ x, w9.alloc (.cells #[.int .i64 PC.1.lsn, .int .i64 PC.1.kind, .int .i64 PC.1.level, .int .i64 PC.1.right, .string PC.1.high, .slice ao3 PC.1.items.length cp3] 30) = x := ⟨_, rfl⟩
      rw [hwa] at HP HR9 HQ9 HO9 HS9 ⊢
      clear hwa
      by_cases hC : PC.2 = 0
      · have HDN : Hid (doneP R PC = (PC.1.at R.lsn, 0)) := by unfold Hid doneP; rw [if_pos hC]
        obtain ⟨c0, c1, c2, c3, c4, c5, f0, f1, f2, f3, f4, f5, _⟩ := HP.out
        have r0 := HR9.out.c0
        rw [hC]
        go_upto_region 13 with fail
        have hs0 := Only.setCell (S := fun j => j = bb) wa ⟨bb, 0, none⟩ (.int .i64 R.lsn) rfl
        have HP2 := hide (HP.out.set0 (.int .i64 R.lsn))
        have HQ2 := hide (HQ9.out.kept hs0 (by have := HBB.out.2; omega))
        have HS2 := hide (HS9.out.kept hs0 (fun h0 e => by have := (HBB.out.1 h0).2; omega))
        have HO2 : Hid (Only (fun _ => False) w (wa.setCell ⟨bb, 0, none⟩ (.int .i64 R.lsn))) := HO9.out.trans hs0 (fun i hi e => by have := HBB.out.2; omega)
        obtain ⟨w3, hw3⟩ : ∃ x, wa.setCell ⟨bb, 0, none⟩ (.int .i64 R.lsn) = x := ⟨_, rfl⟩
        rw [hw3] at HP2 HQ2 HS2 HO2 ⊢
        clear hw3 hs0 c0 c1 c2 c3 c4 c5 f0 f1 f2 f3 f4 f5 r0 HP HQ9 HS9 HO9 HR9
        obtain ⟨c0, c1, c2, c3, c4, c5, _⟩ := HP2.out
        obtain ⟨q0, q1, q2, q3, q4, q5, g0, g1, g2, g3, g4, g5, ql⟩ := HQ2.out
        go_wp2_with fail
        refine bodyPost_ret (results_page rfl rfl (Pag.six HQ2.out _ _ _ _ _ _)) rfl ?_
        rw [HDN.out]
        have h6 := Only.six w3 (w.heap.size + 1 + 1) (.int .i64 R.lsn) (.int .i64 PC.1.kind) (.int .i64 PC.1.level) (.int .i64 PC.1.right) (.string PC.1.high) (.slice ao3 PC.1.items.length cp3)
        exact ⟨B3, ao3, cp3, rfl, HS2.out.kept h6 (fun h0 e => by have := (HBB.out.1 h0).1; omega), HF9.out, HO2.out.trans h6 (fun i hi e => by omega), fun h0 => by have := (HBB.out.1 h0).1; omega⟩
      · have hCb : (PC.2 == 0) = false := by simpa using hC
        have HDN : Hid (doneP R PC = (.none, PC.2)) := by unfold Hid doneP; rw [if_neg hC]
        clear HP HR9 HS9 HF9
        obtain ⟨q0, q1, q2, q3, q4, q5, g0, g1, g2, g3, g4, g5, ql⟩ := HQ9.out
        go_wp2_with fail
        refine bodyPost_ret (results_page rfl rfl (Pag.six HQ9.out _ _ _ _ _ _)) rfl ?_
        rw [HDN.out]
        exact Res.none PC.2 (HO9.out.trans (Only.six _ (w.heap.size + 1 + 1) _ _ _ _ _ _) (fun i hi e => by omega))
    · have hfv : (fnOf b s2 s3 R.kind).getD .nilFunc = .func (.func 71) #[] #[.pointer (some ⟨b, 0, none⟩), .pointer (some ⟨s3, 0, none⟩)] := by rw [hk]; rfl
      rw [hfv]
      have HDK := hide (fun W sl b s2 s3 c => HD8.out W sl b s2 s3 c hk)
      clear hfv hk HCS HD1 HD2 HD3 HD4 HD6 HD7 HD8 HD9 HD10 HD11
      go_wp2_with (refine wpList_load_rc rfl (.tmp 7) rfl (w.heap.size + 1) rfl R L HB5.out.rc.range ?_; go_frame)
      refine (HDK.out _ _ b s2 s3 HCD.out).mono ?_
      rintro e w9 ⟨B3, ao3, cp3, rfl, hS3, hF3, ho3, hB3⟩
      have hnr : ¬ (Value.slice ao2 l.length cp2).ownBlock = some (w.heap.size + 1) := fun q => by have := HOW.out _ q; omega
      have hnq : ¬ (Value.slice ao2 l.length cp2).ownBlock = some (w.heap.size + 1 + 1) := fun q => by have := HOW.out _ q; omega
      have HA := hide (onlyA w9 (.cells #[.int .i64 PC.1.lsn, .int .i64 PC.1.kind, .int .i64 PC.1.level, .int .i64 PC.1.right, .string PC.1.high, .slice ao3 PC.1.items.length cp3] 30))
      have HP := hide (Pag.new w9 (.int .i64 PC.1.lsn) (.int .i64 PC.1.kind) (.int .i64 PC.1.level) (.int .i64 PC.1.right) (.string PC.1.high) (.slice ao3 PC.1.items.length cp3))
      have HR9 := hide ((HB5.out.rc.kept ho3 hnr).more HA.out)
      have HQ9 := hide ((HB5.out.res.kept ho3 hnq).more HA.out)
      have HO9 : Hid (Only (fun _ => False) w _) := o2 (HB5.out.only.trans ho3 (fun i hi e => by have := HOW.out _ e; omega)) HA.out
      have HS9 := hide (hS3.more HA.out)
      have HF9 := hide hF3
      have HBB : Hid ((0 < PC.1.items.length → w.heap.size + 1 + 1 < B3 ∧ B3 < w9.heap.size) ∧ w.heap.size + 1 + 1 < w9.heap.size) := ⟨fun h0 => ⟨(hB3 h0).elim (fun q => HOW.out _ q) (fun q => by have := HB5.out.res.lt; omega), hS3.lt h0⟩, Nat.lt_of_lt_of_le HB5.out.res.lt ho3.size⟩
      clear hS3 hF3 ho3 hB3 hnr hnq HA HB5 HCD HDK HOW p0 p1 p2 p3 p4 p5 r0 r5 HLT
      go_upto_region 10 with fail
      obtain ⟨bb, hbb⟩ : ∃ b, w9.heap.size = b := ⟨_, rfl⟩
      rw [hbb] at HP HBB ⊢
      clear hbb
      obtain ⟨wa, hwa⟩ : ∃ x, w9.alloc (.cells #[.int .i64 PC.1.lsn, .int .i64 PC.1.kind, .int .i64 PC.1.level, .int .i64 PC.1.right, .string PC.1.high, .slice ao3 PC.1.items.length cp3] 30) = x := ⟨_, rfl⟩
      rw [hwa] at HP HR9 HQ9 HO9 HS9 ⊢
      clear hwa
      by_cases hC : PC.2 = 0
      · have HDN : Hid (doneP R PC = (PC.1.at R.lsn, 0)) := by unfold Hid doneP; rw [if_pos hC]
        obtain ⟨c0, c1, c2, c3, c4, c5, f0, f1, f2, f3, f4, f5, _⟩ := HP.out
        have r0 := HR9.out.c0
        rw [hC]
        go_upto_region 13 with fail
        have hs0 := Only.setCell (S := fun j => j = bb) wa ⟨bb, 0, none⟩ (.int .i64 R.lsn) rfl
        have HP2 := hide (HP.out.set0 (.int .i64 R.lsn))
        have HQ2 := hide (HQ9.out.kept hs0 (by have := HBB.out.2; omega))
        have HS2 := hide (HS9.out.kept hs0 (fun h0 e => by have := (HBB.out.1 h0).2; omega))
        have HO2 : Hid (Only (fun _ => False) w (wa.setCell ⟨bb, 0, none⟩ (.int .i64 R.lsn))) := HO9.out.trans hs0 (fun i hi e => by have := HBB.out.2; omega)
        obtain ⟨w3, hw3⟩ : ∃ x, wa.setCell ⟨bb, 0, none⟩ (.int .i64 R.lsn) = x := ⟨_, rfl⟩
        rw [hw3] at HP2 HQ2 HS2 HO2 ⊢
        clear hw3 hs0 c0 c1 c2 c3 c4 c5 f0 f1 f2 f3 f4 f5 r0 HP HQ9 HS9 HO9 HR9
        obtain ⟨c0, c1, c2, c3, c4, c5, _⟩ := HP2.out
        obtain ⟨q0, q1, q2, q3, q4, q5, g0, g1, g2, g3, g4, g5, ql⟩ := HQ2.out
        go_wp2_with fail
        refine bodyPost_ret (results_page rfl rfl (Pag.six HQ2.out _ _ _ _ _ _)) rfl ?_
        rw [HDN.out]
        have h6 := Only.six w3 (w.heap.size + 1 + 1) (.int .i64 R.lsn) (.int .i64 PC.1.kind) (.int .i64 PC.1.level) (.int .i64 PC.1.right) (.string PC.1.high) (.slice ao3 PC.1.items.length cp3)
        exact ⟨B3, ao3, cp3, rfl, HS2.out.kept h6 (fun h0 e => by have := (HBB.out.1 h0).1; omega), HF9.out, HO2.out.trans h6 (fun i hi e => by omega), fun h0 => by have := (HBB.out.1 h0).1; omega⟩
      · have hCb : (PC.2 == 0) = false := by simpa using hC
        have HDN : Hid (doneP R PC = (.none, PC.2)) := by unfold Hid doneP; rw [if_neg hC]
        clear HP HR9 HS9 HF9
        obtain ⟨q0, q1, q2, q3, q4, q5, g0, g1, g2, g3, g4, g5, ql⟩ := HQ9.out
        go_wp2_with fail
        refine bodyPost_ret (results_page rfl rfl (Pag.six HQ9.out _ _ _ _ _ _)) rfl ?_
        rw [HDN.out]
        exact Res.none PC.2 (HO9.out.trans (Only.six _ (w.heap.size + 1 + 1) _ _ _ _ _ _) (fun i hi e => by omega))
    · have hfv : (fnOf b s2 s3 R.kind).getD .nilFunc = .func (.func 77) #[] #[] := by rw [hk]; rfl
      rw [hfv]
      have HDK := hide (fun W sl b s2 s3 c => HD9.out W sl b s2 s3 c hk)
      clear hfv hk HCS HD1 HD2 HD3 HD4 HD6 HD7 HD8 HD9 HD10 HD11
      go_wp2_with (refine wpList_load_rc rfl (.tmp 7) rfl (w.heap.size + 1) rfl R L HB5.out.rc.range ?_; go_frame)
      refine (HDK.out _ _ b s2 s3 HCD.out).mono ?_
      rintro e w9 ⟨B3, ao3, cp3, rfl, hS3, hF3, ho3, hB3⟩
      have hnr : ¬ (Value.slice ao2 l.length cp2).ownBlock = some (w.heap.size + 1) := fun q => by have := HOW.out _ q; omega
      have hnq : ¬ (Value.slice ao2 l.length cp2).ownBlock = some (w.heap.size + 1 + 1) := fun q => by have := HOW.out _ q; omega
      have HA := hide (onlyA w9 (.cells #[.int .i64 PC.1.lsn, .int .i64 PC.1.kind, .int .i64 PC.1.level, .int .i64 PC.1.right, .string PC.1.high, .slice ao3 PC.1.items.length cp3] 30))
      have HP := hide (Pag.new w9 (.int .i64 PC.1.lsn) (.int .i64 PC.1.kind) (.int .i64 PC.1.level) (.int .i64 PC.1.right) (.string PC.1.high) (.slice ao3 PC.1.items.length cp3))
      have HR9 := hide ((HB5.out.rc.kept ho3 hnr).more HA.out)
      have HQ9 := hide ((HB5.out.res.kept ho3 hnq).more HA.out)
      have HO9 : Hid (Only (fun _ => False) w _) := o2 (HB5.out.only.trans ho3 (fun i hi e => by have := HOW.out _ e; omega)) HA.out
      have HS9 := hide (hS3.more HA.out)
      have HF9 := hide hF3
      have HBB : Hid ((0 < PC.1.items.length → w.heap.size + 1 + 1 < B3 ∧ B3 < w9.heap.size) ∧ w.heap.size + 1 + 1 < w9.heap.size) := ⟨fun h0 => ⟨(hB3 h0).elim (fun q => HOW.out _ q) (fun q => by have := HB5.out.res.lt; omega), hS3.lt h0⟩, Nat.lt_of_lt_of_le HB5.out.res.lt ho3.size⟩
      clear hS3 hF3 ho3 hB3 hnr hnq HA HB5 HCD HDK HOW p0 p1 p2 p3 p4 p5 r0 r5 HLT
      go_upto_region 10 with fail
      obtain ⟨bb, hbb⟩ : ∃ b, w9.heap.size = b := ⟨_, rfl⟩
      rw [hbb] at HP HBB ⊢
      clear hbb
      obtain ⟨wa, hwa⟩ : ∃ x, w9.alloc (.cells #[.int .i64 PC.1.lsn, .int .i64 PC.1.kind, .int .i64 PC.1.level, .int .i64 PC.1.right, .string PC.1.high, .slice ao3 PC.1.items.length cp3] 30) = x := ⟨_, rfl⟩
      rw [hwa] at HP HR9 HQ9 HO9 HS9 ⊢
      clear hwa
      by_cases hC : PC.2 = 0
      · have HDN : Hid (doneP R PC = (PC.1.at R.lsn, 0)) := by unfold Hid doneP; rw [if_pos hC]
        obtain ⟨c0, c1, c2, c3, c4, c5, f0, f1, f2, f3, f4, f5, _⟩ := HP.out
        have r0 := HR9.out.c0
        rw [hC]
        go_upto_region 13 with fail
        have hs0 := Only.setCell (S := fun j => j = bb) wa ⟨bb, 0, none⟩ (.int .i64 R.lsn) rfl
        have HP2 := hide (HP.out.set0 (.int .i64 R.lsn))
        have HQ2 := hide (HQ9.out.kept hs0 (by have := HBB.out.2; omega))
        have HS2 := hide (HS9.out.kept hs0 (fun h0 e => by have := (HBB.out.1 h0).2; omega))
        have HO2 : Hid (Only (fun _ => False) w (wa.setCell ⟨bb, 0, none⟩ (.int .i64 R.lsn))) := HO9.out.trans hs0 (fun i hi e => by have := HBB.out.2; omega)
        obtain ⟨w3, hw3⟩ : ∃ x, wa.setCell ⟨bb, 0, none⟩ (.int .i64 R.lsn) = x := ⟨_, rfl⟩
        rw [hw3] at HP2 HQ2 HS2 HO2 ⊢
        clear hw3 hs0 c0 c1 c2 c3 c4 c5 f0 f1 f2 f3 f4 f5 r0 HP HQ9 HS9 HO9 HR9
        obtain ⟨c0, c1, c2, c3, c4, c5, _⟩ := HP2.out
        obtain ⟨q0, q1, q2, q3, q4, q5, g0, g1, g2, g3, g4, g5, ql⟩ := HQ2.out
        go_wp2_with fail
        refine bodyPost_ret (results_page rfl rfl (Pag.six HQ2.out _ _ _ _ _ _)) rfl ?_
        rw [HDN.out]
        have h6 := Only.six w3 (w.heap.size + 1 + 1) (.int .i64 R.lsn) (.int .i64 PC.1.kind) (.int .i64 PC.1.level) (.int .i64 PC.1.right) (.string PC.1.high) (.slice ao3 PC.1.items.length cp3)
        exact ⟨B3, ao3, cp3, rfl, HS2.out.kept h6 (fun h0 e => by have := (HBB.out.1 h0).1; omega), HF9.out, HO2.out.trans h6 (fun i hi e => by omega), fun h0 => by have := (HBB.out.1 h0).1; omega⟩
      · have hCb : (PC.2 == 0) = false := by simpa using hC
        have HDN : Hid (doneP R PC = (.none, PC.2)) := by unfold Hid doneP; rw [if_neg hC]
        clear HP HR9 HS9 HF9
        obtain ⟨q0, q1, q2, q3, q4, q5, g0, g1, g2, g3, g4, g5, ql⟩ := HQ9.out
        go_wp2_with fail
        refine bodyPost_ret (results_page rfl rfl (Pag.six HQ9.out _ _ _ _ _ _)) rfl ?_
        rw [HDN.out]
        exact Res.none PC.2 (HO9.out.trans (Only.six _ (w.heap.size + 1 + 1) _ _ _ _ _ _) (fun i hi e => by omega))
    · have hfv : (fnOf b s2 s3 R.kind).getD .nilFunc = .func (.func 78) #[] #[] := by rw [hk]; rfl
      rw [hfv]
      have HDK := hide (fun W sl b s2 s3 c => HD10.out W sl b s2 s3 c hk)
      clear hfv hk HCS HD1 HD2 HD3 HD4 HD6 HD7 HD8 HD9 HD10 HD11
      go_wp2_with (refine wpList_load_rc rfl (.tmp 7) rfl (w.heap.size + 1) rfl R L HB5.out.rc.range ?_; go_frame)
      refine (HDK.out _ _ b s2 s3 HCD.out).mono ?_
      rintro e w9 ⟨B3, ao3, cp3, rfl, hS3, hF3, ho3, hB3⟩
      have hnr : ¬ (Value.slice ao2 l.length cp2).ownBlock = some (w.heap.size + 1) := fun q => by have := HOW.out _ q; omega
      have hnq : ¬ (Value.slice ao2 l.length cp2).ownBlock = some (w.heap.size + 1 + 1) := fun q => by have := HOW.out _ q; omega
      have HA := hide (onlyA w9 (.cells #[.int .i64 PC.1.lsn, .int .i64 PC.1.kind, .int .i64 PC.1.level, .int .i64 PC.1.right, .string PC.1.high, .slice ao3 PC.1.items.length cp3] 30))
      have HP := hide (Pag.new w9 (.int .i64 PC.1.lsn) (.int .i64 PC.1.kind) (.int .i64 PC.1.level) (.int .i64 PC.1.right) (.string PC.1.high) (.slice ao3 PC.1.items.length cp3))
      have HR9 := hide ((HB5.out.rc.kept ho3 hnr).more HA.out)
      have HQ9 := hide ((HB5.out.res.kept ho3 hnq).more HA.out)
      have HO9 : Hid (Only (fun _ => False) w _) := o2 (HB5.out.only.trans ho3 (fun i hi e => by have := HOW.out _ e; omega)) HA.out
      have HS9 := hide (hS3.more HA.out)
      have HF9 := hide hF3
      have HBB : Hid ((0 < PC.1.items.length → w.heap.size + 1 + 1 < B3 ∧ B3 < w9.heap.size) ∧ w.heap.size + 1 + 1 < w9.heap.size) := ⟨fun h0 => ⟨(hB3 h0).elim (fun q => HOW.out _ q) (fun q => by have := HB5.out.res.lt; omega), hS3.lt h0⟩, Nat.lt_of_lt_of_le HB5.out.res.lt ho3.size⟩
      clear hS3 hF3 ho3 hB3 hnr hnq HA HB5 HCD HDK HOW p0 p1 p2 p3 p4 p5 r0 r5 HLT
      go_upto_region 10 with fail
      obtain ⟨bb, hbb⟩ : ∃ b, w9.heap.size = b := ⟨_, rfl⟩
      rw [hbb] at HP HBB ⊢
      clear hbb
      obtain ⟨wa, hwa⟩ : ∃ x, w9.alloc (.cells #[.int .i64 PC.1.lsn, .int .i64 PC.1.kind, .int .i64 PC.1.level, .int .i64 PC.1.right, .string PC.1.high, .slice ao3 PC.1.items.length cp3] 30) = x := ⟨_, rfl⟩
      rw [hwa] at HP HR9 HQ9 HO9 HS9 ⊢
      clear hwa
      by_cases hC : PC.2 = 0
      · have HDN : Hid (doneP R PC = (PC.1.at R.lsn, 0)) := by unfold Hid doneP; rw [if_pos hC]
        obtain ⟨c0, c1, c2, c3, c4, c5, f0, f1, f2, f3, f4, f5, _⟩ := HP.out
        have r0 := HR9.out.c0
        rw [hC]
        go_upto_region 13 with fail
        have hs0 := Only.setCell (S := fun j => j = bb) wa ⟨bb, 0, none⟩ (.int .i64 R.lsn) rfl
        have HP2 := hide (HP.out.set0 (.int .i64 R.lsn))
        have HQ2 := hide (HQ9.out.kept hs0 (by have := HBB.out.2; omega))
        have HS2 := hide (HS9.out.kept hs0 (fun h0 e => by have := (HBB.out.1 h0).2; omega))
        have HO2 : Hid (Only (fun _ => False) w (wa.setCell ⟨bb, 0, none⟩ (.int .i64 R.lsn))) := HO9.out.trans hs0 (fun i hi e => by have := HBB.out.2; omega)
        obtain ⟨w3, hw3⟩ : ∃ x, wa.setCell ⟨bb, 0, none⟩ (.int .i64 R.lsn) = x := ⟨_, rfl⟩
        rw [hw3] at HP2 HQ2 HS2 HO2 ⊢
        clear hw3 hs0 c0 c1 c2 c3 c4 c5 f0 f1 f2 f3 f4 f5 r0 HP HQ9 HS9 HO9 HR9
        obtain ⟨c0, c1, c2, c3, c4, c5, _⟩ := HP2.out
        obtain ⟨q0, q1, q2, q3, q4, q5, g0, g1, g2, g3, g4, g5, ql⟩ := HQ2.out
        go_wp2_with fail
        refine bodyPost_ret (results_page rfl rfl (Pag.six HQ2.out _ _ _ _ _ _)) rfl ?_
        rw [HDN.out]
        have h6 := Only.six w3 (w.heap.size + 1 + 1) (.int .i64 R.lsn) (.int .i64 PC.1.kind) (.int .i64 PC.1.level) (.int .i64 PC.1.right) (.string PC.1.high) (.slice ao3 PC.1.items.length cp3)
        exact ⟨B3, ao3, cp3, rfl, HS2.out.kept h6 (fun h0 e => by have := (HBB.out.1 h0).1; omega), HF9.out, HO2.out.trans h6 (fun i hi e => by omega), fun h0 => by have := (HBB.out.1 h0).1; omega⟩
      · have hCb : (PC.2 == 0) = false := by simpa using hC
        have HDN : Hid (doneP R PC = (.none, PC.2)) := by unfold Hid doneP; rw [if_neg hC]
        clear HP HR9 HS9 HF9
        obtain ⟨q0, q1, q2, q3, q4, q5, g0, g1, g2, g3, g4, g5, ql⟩ := HQ9.out
        go_wp2_with fail
        refine bodyPost_ret (results_page rfl rfl (Pag.six HQ9.out _ _ _ _ _ _)) rfl ?_
        rw [HDN.out]
        exact Res.none PC.2 (HO9.out.trans (Only.six _ (w.heap.size + 1 + 1) _ _ _ _ _ _) (fun i hi e => by omega))
    · have hfv : (fnOf b s2 s3 R.kind).getD .nilFunc = .func (.func 79) #[] #[.pointer (some ⟨b, 0, none⟩)] := by rw [hk]; rfl
      rw [hfv]
      have HDK := hide (fun W sl b s2 s3 c => HD11.out W sl b s2 s3 c hk)
      clear hfv hk HCS HD1 HD2 HD3 HD4 HD6 HD7 HD8 HD9 HD10 HD11
      go_wp2_with (refine wpList_load_rc rfl (.tmp 7) rfl (w.heap.size + 1) rfl R L HB5.out.rc.range ?_; go_frame)
      refine (HDK.out _ _ b s2 s3 HCD.out).mono ?_
      rintro e w9 ⟨B3, ao3, cp3, rfl, hS3, hF3, ho3, hB3⟩
      have hnr : ¬ (Value.slice ao2 l.length cp2).ownBlock = some (w.heap.size + 1) := fun q => by have := HOW.out _ q; omega
      have hnq : ¬ (Value.slice ao2 l.length cp2).ownBlock = some (w.heap.size + 1 + 1) := fun q => by have := HOW.out _ q; omega
      have HA := hide (onlyA w9 (.cells #[.int .i64 PC.1.lsn, .int .i64 PC.1.kind, .int .i64 PC.1.level, .int .i64 PC.1.right, .string PC.1.high, .slice ao3 PC.1.items.length cp3] 30))
      have HP := hide (Pag.new w9 (.int .i64 PC.1.lsn) (.int .i64 PC.1.kind) (.int .i64 PC.1.level) (.int .i64 PC.1.right) (.string PC.1.high) (.slice ao3 PC.1.items.length cp3))
      have HR9 := hide ((HB5.out.rc.kept ho3 hnr).more HA.out)
      have HQ9 := hide ((HB5.out.res.kept ho3 hnq).more HA.out)
      have HO9 : Hid (Only (fun _ => False) w _) := o2 (HB5.out.only.trans ho3 (fun i hi e => by have := HOW.out _ e; omega)) HA.out
      have HS9 := hide (hS3.more HA.out)
      have HF9 := hide hF3
      have HBB : Hid ((0 < PC.1.items.length → w.heap.size + 1 + 1 < B3 ∧ B3 < w9.heap.size) ∧ w.heap.size + 1 + 1 < w9.heap.size) := ⟨fun h0 => ⟨(hB3 h0).elim (fun q => HOW.out _ q) (fun q => by have := HB5.out.res.lt; omega), hS3.lt h0⟩, Nat.lt_of_lt_of_le HB5.out.res.lt ho3.size⟩
      clear hS3 hF3 ho3 hB3 hnr hnq HA HB5 HCD HDK HOW p0 p1 p2 p3 p4 p5 r0 r5 HLT
      go_upto_region 10 with fail
      obtain ⟨bb, hbb⟩ : ∃ b, w9.heap.size = b := ⟨_, rfl⟩
      rw [hbb] at HP HBB ⊢
      clear hbb
      obtain ⟨wa, hwa⟩ : ∃ x, w9.alloc (.cells #[.int .i64 PC.1.lsn, .int .i64 PC.1.kind, .int .i64 PC.1.level, .int .i64 PC.1.right, .string PC.1.high, .slice ao3 PC.1.items.length cp3] 30) = x := ⟨_, rfl⟩
      rw [hwa] at HP HR9 HQ9 HO9 HS9 ⊢
      clear hwa
      by_cases hC : PC.2 = 0
      · have HDN : Hid (doneP R PC = (PC.1.at R.lsn, 0)) := by unfold Hid doneP; rw [if_pos hC]
        obtain ⟨c0, c1, c2, c3, c4, c5, f0, f1, f2, f3, f4, f5, _⟩ := HP.out
        have r0 := HR9.out.c0
        rw [hC]
        go_upto_region 13 with fail
        have hs0 := Only.setCell (S := fun j => j = bb) wa ⟨bb, 0, none⟩ (.int .i64 R.lsn) rfl
        have HP2 := hide (HP.out.set0 (.int .i64 R.lsn))
        have HQ2 := hide (HQ9.out.kept hs0 (by have := HBB.out.2; omega))
        have HS2 := hide (HS9.out.kept hs0 (fun h0 e => by have := (HBB.out.1 h0).2; omega))
        have HO2 : Hid (Only (fun _ => False) w (wa.setCell ⟨bb, 0, none⟩ (.int .i64 R.lsn))) := HO9.out.trans hs0 (fun i hi e => by have := HBB.out.2; omega)
        obtain ⟨w3, hw3⟩ : ∃ x, wa.setCell ⟨bb, 0, none⟩ (.int .i64 R.lsn) = x := ⟨_, rfl⟩
        rw [hw3] at HP2 HQ2 HS2 HO2 ⊢
        clear hw3 hs0 c0 c1 c2 c3 c4 c5 f0 f1 f2 f3 f4 f5 r0 HP HQ9 HS9 HO9 HR9
        obtain ⟨c0, c1, c2, c3, c4, c5, _⟩ := HP2.out
        obtain ⟨q0, q1, q2, q3, q4, q5, g0, g1, g2, g3, g4, g5, ql⟩ := HQ2.out
        go_wp2_with fail
        refine bodyPost_ret (results_page rfl rfl (Pag.six HQ2.out _ _ _ _ _ _)) rfl ?_
        rw [HDN.out]
        have h6 := Only.six w3 (w.heap.size + 1 + 1) (.int .i64 R.lsn) (.int .i64 PC.1.kind) (.int .i64 PC.1.level) (.int .i64 PC.1.right) (.string PC.1.high) (.slice ao3 PC.1.items.length cp3)
        exact ⟨B3, ao3, cp3, rfl, HS2.out.kept h6 (fun h0 e => by have := (HBB.out.1 h0).1; omega), HF9.out, HO2.out.trans h6 (fun i hi e => by omega), fun h0 => by have := (HBB.out.1 h0).1; omega⟩
      · have hCb : (PC.2 == 0) = false := by simpa using hC
        have HDN : Hid (doneP R PC = (.none, PC.2)) := by unfold Hid doneP; rw [if_neg hC]
        clear HP HR9 HS9 HF9
        obtain ⟨q0, q1, q2, q3, q4, q5, g0, g1, g2, g3, g4, g5, ql⟩ := HQ9.out
        go_wp2_with fail
        refine bodyPost_ret (results_page rfl rfl (Pag.six HQ9.out _ _ _ _ _ _)) rfl ?_
        rw [HDN.out]
        exact Res.none PC.2 (HO9.out.trans (Only.six _ (w.heap.size + 1 + 1) _ _ _ _ _ _) (fun i hi e => by omega))
theorem do_any (w : World) (m a k v r page : Int) (h : ByteArray) (B cp : Nat) (ao : Option Addr) (l : List ByteArray) (R : Rc) (L : Loc) (hD : Di w m ⟨a, k, v, r, h, l⟩ B cp ao R L) :
    Calls Tryz.prog 16 #[.int .i64 m, .agg #[.int .i64 a, .int .i64 k, .int .i64 v, .int .i64 r, .string h, .slice ao l.length cp], .int .i64 page, .agg (R.cells L)] w fun e w' => Res w w' e (doP m ⟨a, k, v, r, h, l⟩ page R).1 (doP m ⟨a, k, v, r, h, l⟩ page R).2 := by
  unfold doP
  cases hq : imP page R.images with
  | some q => exact do_img w m a k v r page h cp ao l.length R L hD.rk.at_ q hq
  | none =>
    dsimp only
    by_cases hc : ownK R.kind = true ∧ page = R.page ∧ a < R.lsn
    · rw [if_pos hc]
      exact do_own w m a k v r page h B cp ao l R L hD hq hc.1 hc.2.1 hc.2.2
    · rw [if_neg hc]
      exact do_as w m a k v r page h B cp ao l R L hD hq hc
end Go.Proofs.YtpnbhddmdfcjdaaGreat
