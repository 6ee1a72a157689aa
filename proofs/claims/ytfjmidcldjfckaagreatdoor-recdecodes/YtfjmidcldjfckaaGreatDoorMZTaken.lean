/- The document's record of a body, as far as it can be taken up. -/
import Derived.Test.YtfjmidcldjfckaaGreatDoorMZTk
import Derived.Deep.LoopGhost
import Derived.Deep.DeepCutAuto
namespace Go.Proofs.YtfjmidcldjfckaaGreatDoor
open Go.RowKit

theorem fb_new (w : World) : Fb (w.alloc (.cells (Rc.none.cells Loc.none) 28)) w.heap.size Rc.none Loc.none :=
  ⟨Bx.new w _ _, fun i _ => by simp⟩
set_option maxRecDepth 100000 in
set_option maxHeartbeats 3200000 in
theorem ztaken_any (w : World) (t : ByteArray) (ht : t.size ≤ 65535) (R : Rc) (V : Prop) (hV : V → R.valid ∧ (∀ i ∈ R.images, i.body.lsn < 9223372036854775808) ∧ R.lay = bl t) :
    Calls Tryz.prog 13 #[.string t] w fun e w' => TkQ w w' e R V := by
  have HVV := hide hV
  clear hV
  have HF2 := hide (fb_new w)
  have HO2 := hide (onlyA w (.cells (Rc.none.cells Loc.none) 28))
  obtain ⟨Wa, hWa⟩ : ∃ Wa, w.alloc (.cells (Rc.none.cells Loc.none) 28) = Wa := ⟨_, rfl⟩
  rw [hWa] at HF2 HO2
  have hza : Wa.heap.size = w.heap.size + 1 := by rw [← hWa]; simp
  have HX0 := hide (XS.new Wa t (by omega))
  have HOb := hide (onlyA Wa (.cells #[.string t, .int .i64 0, .int .i64 0] 74))
  obtain ⟨Wb, hWb⟩ : ∃ Wb, Wa.alloc (.cells #[.string t, .int .i64 0, .int .i64 0] 74) = Wb := ⟨_, rfl⟩
  rw [hWb] at HX0 HOb
  have hzb : Wb.heap.size = w.heap.size + 2 := by rw [← hWb]; simp [hza]
  have HF5 := hide (fb_new Wb)
  have HOc := hide (onlyA Wb (.cells (Rc.none.cells Loc.none) 28))
  obtain ⟨W0, hW0⟩ : ∃ W0, Wb.alloc (.cells (Rc.none.cells Loc.none) 28) = W0 := ⟨_, rfl⟩
  rw [hW0] at HF5 HOc
  rw [hza] at HX0
  rw [hzb] at HF5
  have HXS0 := hide (HX0.out.kept HOc.out (fun h => h))
  have HA0 := hide ((HF2.out.kept HOb.out (fun h => h)).kept HOc.out (fun h => h))
  have HW : Hid (((w.alloc (.cells #[.int .i64 0, .int .i64 0, .int .i64 0, .int .u8 0, .int .i64 0, .int .i64 0, .int .i64 0, .int .i64 0, .int .i64 0, .int .i64 0, .string ⟨#[]⟩, .slice none 0 0, .slice none 0 0, .slice none 0 0, .slice none 0 0, .slice none 0 0] 28)).alloc (.cells #[.string t, .int .i64 0, .int .i64 0] 74)).alloc (.cells #[.int .i64 0, .int .i64 0, .int .i64 0, .int .u8 0, .int .i64 0, .int .i64 0, .int .i64 0, .int .i64 0, .int .i64 0, .int .i64 0, .string ⟨#[]⟩, .slice none 0 0, .slice none 0 0, .slice none 0 0, .slice none 0 0, .slice none 0 0] 28) = W0) := by unfold Hid; rw [← hW0, ← hWb, ← hWa]; rfl
  have HO0 := hide (o2 HO2.out (o2 HOb.out HOc.out))
  obtain ⟨b, hb⟩ : ∃ b, w.heap.size = b := ⟨_, rfl⟩
  rw [hb] at HXS0 HA0 HF5
  have HBB := hide hb
  have r0 : Hid (Rc.none = Rc.none) := rfl
  clear hWa hWb hW0 hza hzb hb HX0 HF2 HO2 HOb HOc
  go_enter Tryz.func13, Tryz.ntmps13
  go_wp2_with fail
  rw [HW.out, HBB.out]
  have HF0 := HF5
  have HP0 : Hid (Only (fun k => k = b + 1 ∨ k = b + 2) W0 W0) := Only.refl _ _
  obtain ⟨⟨z0, s1⟩, hz0⟩ : ∃ q, rN top (bl t, 0) = q := ⟨_, rfl⟩
  have q0 := xn_any W0 (b + 1) (bl t, 0) top HXS0.out
  rw [hz0] at q0
  have E0 := hide hz0
  refine Calls.mono q0 ?_
  clear q0 hz0
  rintro e w1 ⟨rfl, hx, ho⟩
  simp only at hx ⊢
  have HFa := hide (HF0.out.kept ho (by omega))
  have HAa := hide (HA0.out.kept ho (by omega))
  have HXa := hide hx
  have HOa : Hid (Only (fun k => k = b + 1 ∨ k = b + 2) W0 w1) := HP0.out.trans ho (fun _ _ h => .inl h)
  have ci := HFa.out.bx.c0
  have fi := HFa.out.fz 0 (by omega)
  clear hx ho
  go_wp2_with fail
  obtain ⟨W1, hW⟩ : ∃ W, w1.setCell ⟨b + 2, 0, none⟩ (.int .i64 z0) = W := ⟨_, rfl⟩
  have HF1 := hide (HFa.out.set_lsn z0)
  have hst := Only.setCell (S := fun k => k = b + 2) w1 ⟨b + 2, 0, none⟩ (.int .i64 z0) rfl
  rw [hW] at HF1 hst ⊢
  have HXS1 := hide (HXa.out.kept hst (by omega))
  have HA1 := hide (HAa.out.kept hst (by omega))
  have HP1 : Hid (Only (fun k => k = b + 1 ∨ k = b + 2) W0 W1) := HOa.out.trans hst (fun _ _ h => .inr h)
  obtain ⟨r1, hr⟩ : ∃ r, { Rc.none with lsn := z0 } = r := ⟨_, rfl⟩
  rw [hr] at HF1
  have G1 := hide hr
  clear hr hW hst ci fi HFa HAa HXa HOa
  obtain ⟨⟨z1, s2⟩, hz1⟩ : ∃ q, rN top s1 = q := ⟨_, rfl⟩
  have q1 := xn_any W1 (b + 1) s1 top HXS1.out
  rw [hz1] at q1
  have E1 := hide hz1
  refine Calls.mono q1 ?_
  clear q1 hz1
  rintro e w2 ⟨rfl, hx, ho⟩
  simp only at hx ⊢
  have HFa := hide (HF1.out.kept ho (by omega))
  have HAa := hide (HA1.out.kept ho (by omega))
  have HXa := hide hx
  have HOa : Hid (Only (fun k => k = b + 1 ∨ k = b + 2) W0 w2) := HP1.out.trans ho (fun _ _ h => .inl h)
  have ci := HFa.out.bx.c1
  have fi := HFa.out.fz 1 (by omega)
  clear hx ho
  go_wp2_with fail
  obtain ⟨W2, hW⟩ : ∃ W, w2.setCell ⟨b + 2, 1, none⟩ (.int .i64 z1) = W := ⟨_, rfl⟩
  have HF2 := hide (HFa.out.set_prev z1)
  have hst := Only.setCell (S := fun k => k = b + 2) w2 ⟨b + 2, 1, none⟩ (.int .i64 z1) rfl
  rw [hW] at HF2 hst ⊢
  have HXS2 := hide (HXa.out.kept hst (by omega))
  have HA2 := hide (HAa.out.kept hst (by omega))
  have HP2 : Hid (Only (fun k => k = b + 1 ∨ k = b + 2) W0 W2) := HOa.out.trans hst (fun _ _ h => .inr h)
  obtain ⟨r2, hr⟩ : ∃ r, { r1 with prev := z1 } = r := ⟨_, rfl⟩
  rw [hr] at HF2
  have G2 := hide hr
  clear hr hW hst ci fi HFa HAa HXa HOa
  obtain ⟨⟨z2, s3⟩, hz2⟩ : ∃ q, rN top s2 = q := ⟨_, rfl⟩
  have q2 := xn_any W2 (b + 1) s2 top HXS2.out
  rw [hz2] at q2
  have E2 := hide hz2
  refine Calls.mono q2 ?_
  clear q2 hz2
  rintro e w3 ⟨rfl, hx, ho⟩
  simp only at hx ⊢
  have HFa := hide (HF2.out.kept ho (by omega))
  have HAa := hide (HA2.out.kept ho (by omega))
  have HXa := hide hx
  have HOa : Hid (Only (fun k => k = b + 1 ∨ k = b + 2) W0 w3) := HP2.out.trans ho (fun _ _ h => .inl h)
  have ci := HFa.out.bx.c2
  have fi := HFa.out.fz 2 (by omega)
  clear hx ho
  go_wp2_with fail
  obtain ⟨W3, hW⟩ : ∃ W, w3.setCell ⟨b + 2, 2, none⟩ (.int .i64 z2) = W := ⟨_, rfl⟩
  have HF3 := hide (HFa.out.set_next z2)
  have hst := Only.setCell (S := fun k => k = b + 2) w3 ⟨b + 2, 2, none⟩ (.int .i64 z2) rfl
  rw [hW] at HF3 hst ⊢
  have HXS3 := hide (HXa.out.kept hst (by omega))
  have HA3 := hide (HAa.out.kept hst (by omega))
  have HP3 : Hid (Only (fun k => k = b + 1 ∨ k = b + 2) W0 W3) := HOa.out.trans hst (fun _ _ h => .inr h)
  obtain ⟨r3, hr⟩ : ∃ r, { r2 with next := z2 } = r := ⟨_, rfl⟩
  rw [hr] at HF3
  have G3 := hide hr
  clear hr hW hst ci fi HFa HAa HXa HOa
  obtain ⟨⟨z3, s4⟩, hz3⟩ : ∃ q, rN 13 s3 = q := ⟨_, rfl⟩
  have q3 := xn_any W3 (b + 1) s3 13 HXS3.out
  rw [hz3] at q3
  have hk8 : z3 % 256 = z3 := by
    have h1 := rN_bd 13 s3
    have h2 := rN_le 13 s3 (by omega)
    rw [hz3] at h1 h2
    simp only at h1 h2
    omega
  have E3 := hide hz3
  refine Calls.mono q3 ?_
  clear q3 hz3
  rintro e w4 ⟨rfl, hx, ho⟩
  simp only at hx ⊢
  have HFa := hide (HF3.out.kept ho (by omega))
  have HAa := hide (HA3.out.kept ho (by omega))
  have HXa := hide hx
  have HOa : Hid (Only (fun k => k = b + 1 ∨ k = b + 2) W0 w4) := HP3.out.trans ho (fun _ _ h => .inl h)
  have ci := HFa.out.bx.c3
  have fi := HFa.out.fz 3 (by omega)
  clear hx ho
  go_wp2_with fail
  obtain ⟨W4, hW⟩ : ∃ W, w4.setCell ⟨b + 2, 3, none⟩ (.int .u8 z3) = W := ⟨_, rfl⟩
  have HF4 := hide (HFa.out.set_kind z3)
  have hst := Only.setCell (S := fun k => k = b + 2) w4 ⟨b + 2, 3, none⟩ (.int .u8 z3) rfl
  rw [hW] at HF4 hst ⊢
  have HXS4 := hide (HXa.out.kept hst (by omega))
  have HA4 := hide (HAa.out.kept hst (by omega))
  have HP4 : Hid (Only (fun k => k = b + 1 ∨ k = b + 2) W0 W4) := HOa.out.trans hst (fun _ _ h => .inr h)
  obtain ⟨r4, hr⟩ : ∃ r, { r3 with kind := z3 } = r := ⟨_, rfl⟩
  rw [hr] at HF4
  have G4 := hide hr
  clear hr hW hst ci fi HFa HAa HXa HOa
  obtain ⟨⟨z4, s5⟩, hz4⟩ : ∃ q, rN top s4 = q := ⟨_, rfl⟩
  have q4 := xn_any W4 (b + 1) s4 top HXS4.out
  rw [hz4] at q4
  have E4 := hide hz4
  refine Calls.mono q4 ?_
  clear q4 hz4
  rintro e w5 ⟨rfl, hx, ho⟩
  simp only at hx ⊢
  have HFa := hide (HF4.out.kept ho (by omega))
  have HAa := hide (HA4.out.kept ho (by omega))
  have HXa := hide hx
  have HOa : Hid (Only (fun k => k = b + 1 ∨ k = b + 2) W0 w5) := HP4.out.trans ho (fun _ _ h => .inl h)
  have ci := HFa.out.bx.c4
  have fi := HFa.out.fz 4 (by omega)
  clear hx ho
  go_wp2_with fail
  obtain ⟨W5, hW⟩ : ∃ W, w5.setCell ⟨b + 2, 4, none⟩ (.int .i64 z4) = W := ⟨_, rfl⟩
  have HF5 := hide (HFa.out.set_xid z4)
  have hst := Only.setCell (S := fun k => k = b + 2) w5 ⟨b + 2, 4, none⟩ (.int .i64 z4) rfl
  rw [hW] at HF5 hst ⊢
  have HXS5 := hide (HXa.out.kept hst (by omega))
  have HA5 := hide (HAa.out.kept hst (by omega))
  have HP5 : Hid (Only (fun k => k = b + 1 ∨ k = b + 2) W0 W5) := HOa.out.trans hst (fun _ _ h => .inr h)
  obtain ⟨r5, hr⟩ : ∃ r, { r4 with xid := z4 } = r := ⟨_, rfl⟩
  rw [hr] at HF5
  have G5 := hide hr
  clear hr hW hst ci fi HFa HAa HXa HOa
  obtain ⟨⟨z5, s6⟩, hz5⟩ : ∃ q, rN top s5 = q := ⟨_, rfl⟩
  have q5 := xn_any W5 (b + 1) s5 top HXS5.out
  rw [hz5] at q5
  have E5 := hide hz5
  refine Calls.mono q5 ?_
  clear q5 hz5
  rintro e w6 ⟨rfl, hx, ho⟩
  simp only at hx ⊢
  have HFa := hide (HF5.out.kept ho (by omega))
  have HAa := hide (HA5.out.kept ho (by omega))
  have HXa := hide hx
  have HOa : Hid (Only (fun k => k = b + 1 ∨ k = b + 2) W0 w6) := HP5.out.trans ho (fun _ _ h => .inl h)
  have ci := HFa.out.bx.c5
  have fi := HFa.out.fz 5 (by omega)
  clear hx ho
  go_wp2_with fail
  obtain ⟨W6, hW⟩ : ∃ W, w6.setCell ⟨b + 2, 5, none⟩ (.int .i64 z5) = W := ⟨_, rfl⟩
  have HF6 := hide (HFa.out.set_page z5)
  have hst := Only.setCell (S := fun k => k = b + 2) w6 ⟨b + 2, 5, none⟩ (.int .i64 z5) rfl
  rw [hW] at HF6 hst ⊢
  have HXS6 := hide (HXa.out.kept hst (by omega))
  have HA6 := hide (HAa.out.kept hst (by omega))
  have HP6 : Hid (Only (fun k => k = b + 1 ∨ k = b + 2) W0 W6) := HOa.out.trans hst (fun _ _ h => .inr h)
  obtain ⟨r6, hr⟩ : ∃ r, { r5 with page := z5 } = r := ⟨_, rfl⟩
  rw [hr] at HF6
  have G6 := hide hr
  clear hr hW hst ci fi HFa HAa HXa HOa
  obtain ⟨⟨z6, s7⟩, hz6⟩ : ∃ q, rN top s6 = q := ⟨_, rfl⟩
  have q6 := xn_any W6 (b + 1) s6 top HXS6.out
  rw [hz6] at q6
  have E6 := hide hz6
  refine Calls.mono q6 ?_
  clear q6 hz6
  rintro e w7 ⟨rfl, hx, ho⟩
  simp only at hx ⊢
  have HFa := hide (HF6.out.kept ho (by omega))
  have HAa := hide (HA6.out.kept ho (by omega))
  have HXa := hide hx
  have HOa : Hid (Only (fun k => k = b + 1 ∨ k = b + 2) W0 w7) := HP6.out.trans ho (fun _ _ h => .inl h)
  have ci := HFa.out.bx.c6
  have fi := HFa.out.fz 6 (by omega)
  clear hx ho
  go_wp2_with fail
  obtain ⟨W7, hW⟩ : ∃ W, w7.setCell ⟨b + 2, 6, none⟩ (.int .i64 z6) = W := ⟨_, rfl⟩
  have HF7 := hide (HFa.out.set_slot z6)
  have hst := Only.setCell (S := fun k => k = b + 2) w7 ⟨b + 2, 6, none⟩ (.int .i64 z6) rfl
  rw [hW] at HF7 hst ⊢
  have HXS7 := hide (HXa.out.kept hst (by omega))
  have HA7 := hide (HAa.out.kept hst (by omega))
  have HP7 : Hid (Only (fun k => k = b + 1 ∨ k = b + 2) W0 W7) := HOa.out.trans hst (fun _ _ h => .inr h)
  obtain ⟨r7, hr⟩ : ∃ r, { r6 with slot := z6 } = r := ⟨_, rfl⟩
  rw [hr] at HF7
  have G7 := hide hr
  clear hr hW hst ci fi HFa HAa HXa HOa
  obtain ⟨⟨z7, s8⟩, hz7⟩ : ∃ q, rN top s7 = q := ⟨_, rfl⟩
  have q7 := xn_any W7 (b + 1) s7 top HXS7.out
  rw [hz7] at q7
  have E7 := hide hz7
  refine Calls.mono q7 ?_
  clear q7 hz7
  rintro e w8 ⟨rfl, hx, ho⟩
  simp only at hx ⊢
  have HFa := hide (HF7.out.kept ho (by omega))
  have HAa := hide (HA7.out.kept ho (by omega))
  have HXa := hide hx
  have HOa : Hid (Only (fun k => k = b + 1 ∨ k = b + 2) W0 w8) := HP7.out.trans ho (fun _ _ h => .inl h)
  have ci := HFa.out.bx.c7
  have fi := HFa.out.fz 7 (by omega)
  clear hx ho
  go_wp2_with fail
  obtain ⟨W8, hW⟩ : ∃ W, w8.setCell ⟨b + 2, 7, none⟩ (.int .i64 z7) = W := ⟨_, rfl⟩
  have HF8 := hide (HFa.out.set_old z7)
  have hst := Only.setCell (S := fun k => k = b + 2) w8 ⟨b + 2, 7, none⟩ (.int .i64 z7) rfl
  rw [hW] at HF8 hst ⊢
  have HXS8 := hide (HXa.out.kept hst (by omega))
  have HA8 := hide (HAa.out.kept hst (by omega))
  have HP8 : Hid (Only (fun k => k = b + 1 ∨ k = b + 2) W0 W8) := HOa.out.trans hst (fun _ _ h => .inr h)
  obtain ⟨r8, hr⟩ : ∃ r, { r7 with old := z7 } = r := ⟨_, rfl⟩
  rw [hr] at HF8
  have G8 := hide hr
  clear hr hW hst ci fi HFa HAa HXa HOa
  obtain ⟨⟨z8, s9⟩, hz8⟩ : ∃ q, rN top s8 = q := ⟨_, rfl⟩
  have q8 := xn_any W8 (b + 1) s8 top HXS8.out
  rw [hz8] at q8
  have E8 := hide hz8
  refine Calls.mono q8 ?_
  clear q8 hz8
  rintro e w9 ⟨rfl, hx, ho⟩
  simp only at hx ⊢
  have HFa := hide (HF8.out.kept ho (by omega))
  have HAa := hide (HA8.out.kept ho (by omega))
  have HXa := hide hx
  have HOa : Hid (Only (fun k => k = b + 1 ∨ k = b + 2) W0 w9) := HP8.out.trans ho (fun _ _ h => .inl h)
  have ci := HFa.out.bx.c8
  have fi := HFa.out.fz 8 (by omega)
  clear hx ho
  go_wp2_with fail
  obtain ⟨W9, hW⟩ : ∃ W, w9.setCell ⟨b + 2, 8, none⟩ (.int .i64 z8) = W := ⟨_, rfl⟩
  have HF9 := hide (HFa.out.set_new z8)
  have hst := Only.setCell (S := fun k => k = b + 2) w9 ⟨b + 2, 8, none⟩ (.int .i64 z8) rfl
  rw [hW] at HF9 hst ⊢
  have HXS9 := hide (HXa.out.kept hst (by omega))
  have HA9 := hide (HAa.out.kept hst (by omega))
  have HP9 : Hid (Only (fun k => k = b + 1 ∨ k = b + 2) W0 W9) := HOa.out.trans hst (fun _ _ h => .inr h)
  obtain ⟨r9, hr⟩ : ∃ r, { r8 with new := z8 } = r := ⟨_, rfl⟩
  rw [hr] at HF9
  have G9 := hide hr
  clear hr hW hst ci fi HFa HAa HXa HOa
  obtain ⟨⟨z9, s10⟩, hz9⟩ : ∃ q, rN top s9 = q := ⟨_, rfl⟩
  have q9 := xn_any W9 (b + 1) s9 top HXS9.out
  rw [hz9] at q9
  have E9 := hide hz9
  refine Calls.mono q9 ?_
  clear q9 hz9
  rintro e w10 ⟨rfl, hx, ho⟩
  simp only at hx ⊢
  have HFa := hide (HF9.out.kept ho (by omega))
  have HAa := hide (HA9.out.kept ho (by omega))
  have HXa := hide hx
  have HOa : Hid (Only (fun k => k = b + 1 ∨ k = b + 2) W0 w10) := HP9.out.trans ho (fun _ _ h => .inl h)
  have ci := HFa.out.bx.c9
  have fi := HFa.out.fz 9 (by omega)
  clear hx ho
  go_wp2_with fail
  obtain ⟨W10, hW⟩ : ∃ W, w10.setCell ⟨b + 2, 9, none⟩ (.int .i64 z9) = W := ⟨_, rfl⟩
  have HF10 := hide (HFa.out.set_redo z9)
  have hst := Only.setCell (S := fun k => k = b + 2) w10 ⟨b + 2, 9, none⟩ (.int .i64 z9) rfl
  rw [hW] at HF10 hst ⊢
  have HXS10 := hide (HXa.out.kept hst (by omega))
  have HA10 := hide (HAa.out.kept hst (by omega))
  have HP10 : Hid (Only (fun k => k = b + 1 ∨ k = b + 2) W0 W10) := HOa.out.trans hst (fun _ _ h => .inr h)
  obtain ⟨r10, hr⟩ : ∃ r, { r9 with redo := z9 } = r := ⟨_, rfl⟩
  rw [hr] at HF10
  have G10 := hide hr
  clear hr hW hst ci fi HFa HAa HXa HOa
  obtain ⟨⟨z10, s11⟩, hz10⟩ : ∃ q, rT 512 s10 = q := ⟨_, rfl⟩
  have q10 := xt_any W10 (b + 1) s10 512 HXS10.out
  rw [hz10] at q10
  have E10 := hide hz10
  refine Calls.mono q10 ?_
  clear q10 hz10
  rintro e w11 ⟨rfl, hx, ho⟩
  simp only at hx ⊢
  have HFa := hide (HF10.out.kept ho (by omega))
  have HAa := hide (HA10.out.kept ho (by omega))
  have HXa := hide hx
  have HOa : Hid (Only (fun k => k = b + 1 ∨ k = b + 2) W0 w11) := HP10.out.trans ho (fun _ _ h => .inl h)
  have ci := HFa.out.bx.c10
  have fi := HFa.out.fz 10 (by omega)
  clear hx ho
  go_wp2_with fail
  obtain ⟨W11, hW⟩ : ∃ W, w11.setCell ⟨b + 2, 10, none⟩ (.string (str z10)) = W := ⟨_, rfl⟩
  have HF11 := hide (HFa.out.set_data (str z10))
  have hst := Only.setCell (S := fun k => k = b + 2) w11 ⟨b + 2, 10, none⟩ (.string (str z10)) rfl
  rw [hW] at HF11 hst ⊢
  have HXS11 := hide (HXa.out.kept hst (by omega))
  have HA11 := hide (HAa.out.kept hst (by omega))
  have HP11 : Hid (Only (fun k => k = b + 1 ∨ k = b + 2) W0 W11) := HOa.out.trans hst (fun _ _ h => .inr h)
  obtain ⟨r11, hr⟩ : ∃ r, { r10 with data := (str z10) } = r := ⟨_, rfl⟩
  rw [hr] at HF11
  have G11 := hide hr
  clear hr hW hst ci fi HFa HAa HXa HOa
  have hxl := HXS11.out.lt
  have q11 := znumbers_any W11 (b + 1) s11 255 HXS11.out (by omega) (by omega)
  obtain ⟨⟨z11, s12⟩, hz11⟩ : ∃ q, rL (rN top) 255 s11 = q := ⟨_, rfl⟩
  rw [hz11] at q11
  have E11 := hide hz11
  refine Calls.mono q11 ?_
  clear q11 hz11
  rintro e w12 hq
  obtain ⟨v, rfl, l11, hown, hll, hle⟩ := hq.ex
  have hx := hq.xs
  have ho := hq.only
  simp only at hx hle
  obtain ⟨B11, a11, c11, rfl, hZ, hfit, hbs⟩ := own_zs hown (by omega)
  have HZ11 := hide hZ
  have HOW11 := hide hown
  have HLE11 := hide hle
  have HLL11 := hide hll
  have HFT11 := hide hfit
  have HBS11 := hide hbs
  have HOC11 := hide ho
  have HFa := hide (HF11.out.kept ho (by omega))
  have HAa := hide (HA11.out.kept ho (by omega))
  have HXa := hide hx
  have HOa : Hid (Only (fun k => k = b + 1 ∨ k = b + 2) W0 w12) := HP11.out.trans ho (fun _ _ h => .inl h)
  have ci := HFa.out.bx.c11
  have fi := HFa.out.fz 11 (by omega)
  clear hx ho hq hle hll hfit hbs hown hZ hxl
  go_wp2_with fail
  obtain ⟨W12, hW⟩ : ∃ W, w12.setCell ⟨b + 2, 11, none⟩ (.slice a11 l11.length c11) = W := ⟨_, rfl⟩
  have HF12 := hide (HFa.out.set_slots l11 B11 c11 a11)
  have hst := Only.setCell (S := fun k => k = b + 2) w12 ⟨b + 2, 11, none⟩ (.slice a11 l11.length c11) rfl
  rw [hW] at HF12 hst ⊢
  have HXS12 := hide (HXa.out.kept hst (by omega))
  have HA12 := hide (HAa.out.kept hst (by omega))
  have HST11 := hide hst
  have HP12 : Hid (Only (fun k => k = b + 1 ∨ k = b + 2) W0 W12) := HOa.out.trans hst (fun _ _ h => .inr h)
  obtain ⟨r12, hr⟩ : ∃ r, { r11 with slots := l11 } = r := ⟨_, rfl⟩
  rw [hr] at HF12
  have G12 := hide hr
  clear hr hW hst ci fi HFa HAa HXa HOa
  have hxl := HXS12.out.lt
  have q12 := znumbers_any W12 (b + 1) s12 255 HXS12.out (by omega) (by omega)
  obtain ⟨⟨z12, s13⟩, hz12⟩ : ∃ q, rL (rN top) 255 s12 = q := ⟨_, rfl⟩
  rw [hz12] at q12
  have E12 := hide hz12
  refine Calls.mono q12 ?_
  clear q12 hz12
  rintro e w13 hq
  obtain ⟨v, rfl, l12, hown, hll, hle⟩ := hq.ex
  have hx := hq.xs
  have ho := hq.only
  simp only at hx hle
  obtain ⟨B12, a12, c12, rfl, hZ, hfit, hbs⟩ := own_zs hown (by omega)
  have HZ12 := hide hZ
  have HOW12 := hide hown
  have HLE12 := hide hle
  have HLL12 := hide hll
  have HFT12 := hide hfit
  have HBS12 := hide hbs
  have HOC12 := hide ho
  have HFa := hide (HF12.out.kept ho (by omega))
  have HAa := hide (HA12.out.kept ho (by omega))
  have HXa := hide hx
  have HOa : Hid (Only (fun k => k = b + 1 ∨ k = b + 2) W0 w13) := HP12.out.trans ho (fun _ _ h => .inl h)
  have ci := HFa.out.bx.c12
  have fi := HFa.out.fz 12 (by omega)
  clear hx ho hq hle hll hfit hbs hown hZ hxl
  go_wp2_with fail
  obtain ⟨W13, hW⟩ : ∃ W, w13.setCell ⟨b + 2, 12, none⟩ (.slice a12 l12.length c12) = W := ⟨_, rfl⟩
  have HF13 := hide (HFa.out.set_more l12 B12 c12 a12)
  have hst := Only.setCell (S := fun k => k = b + 2) w13 ⟨b + 2, 12, none⟩ (.slice a12 l12.length c12) rfl
  rw [hW] at HF13 hst ⊢
  have HXS13 := hide (HXa.out.kept hst (by omega))
  have HA13 := hide (HAa.out.kept hst (by omega))
  have HST12 := hide hst
  have HP13 : Hid (Only (fun k => k = b + 1 ∨ k = b + 2) W0 W13) := HOa.out.trans hst (fun _ _ h => .inr h)
  obtain ⟨r13, hr⟩ : ∃ r, { r12 with more := l12 } = r := ⟨_, rfl⟩
  rw [hr] at HF13
  have G13 := hide hr
  clear hr hW hst ci fi HFa HAa HXa HOa
  obtain ⟨LL, hLL⟩ : ∃ LL : Loc, { { Loc.none with a1 := a11, c1 := c11, b1 := B11 } with a2 := a12, c2 := c12, b2 := B12 } = LL := ⟨_, rfl⟩
  have hr13 : r13 = ⟨z0, z1, z2, z3, z4, z5, z6, z7, z8, z9, str z10, l11, l12, [], [], []⟩ := by
    rw [← G13.out, ← G12.out, ← G11.out, ← G10.out, ← G9.out, ← G8.out, ← G7.out, ← G6.out, ← G5.out, ← G4.out, ← G3.out, ← G2.out, ← G1.out]
    rfl
  have HVH : Hid (V → r13 = { R with images := [], pages := [], txns := [] } ∧ s13 = (R.rem13, 0)) := by
    intro hv
    obtain ⟨v1, v2, v3⟩ := HVV.out hv
    obtain ⟨⟨e0, e1, e2, e3, e4, e5, e6, e7, e8, e9⟩, e10, e11, e12, e13⟩ := taken_head R v1 v3 E0.out E1.out E2.out E3.out E4.out E5.out E6.out E7.out E8.out E9.out E10.out E11.out HLE11.out E12.out HLE12.out
    refine ⟨?_, e13⟩
    rw [hr13, e0, e1, e2, e3, e4, e5, e6, e7, e8, e9, e10, e11, e12]
  have hW0b : b + 3 ≤ W0.heap.size := by have := HF0.out.bx.lt; omega
  have T13 : Hid (Tk w W13 b r13 LL s13) := by
    have k1 := HP11.out.size
    have k2 := HP12.out.size
    have k3 := HP13.out.size
    have hbw := HBB.out
    have z11 : Zs W13 B11 a11 l11 := ((HZ11.out.kept HST11.out (fun h0 e => by have := HBS11.out h0; omega)).kept HOC12.out (fun h0 e => by have := HBS11.out h0; omega)).kept HST12.out (fun h0 e => by have := HBS11.out h0; omega)
    have z12 : Zs W13 B12 a12 l12 := HZ12.out.kept HST12.out (fun h0 e => by have := HBS12.out h0; omega)
    have kd := rN_bd 13 s3
    have kl := rN_le 13 s3 (by omega)
    rw [E3.out] at kd kl
    have ds := rT_most 512 s10 (by omega)
    rw [E10.out] at ds
    simp only at kd kl ds
    have hfb := HF13.out
    rw [hLL] at hfb
    refine ⟨hfb, HA13.out, HXS13.out, ?_, HO0.out.trans HP13.out (fun i hi e => by omega), HBB.out, by omega⟩
    rw [hr13, ← hLL]
    exact ⟨z11, z12, Ims.nil _ _ _ _, Prs.nil _ _ _, Prs.nil _ _ _, HFT11.out, HFT12.out, fun h0 => by have := HBS11.out h0; show b + 3 ≤ B11; omega, fun h0 => by have := HBS12.out h0; show b + 3 ≤ B12; omega, fun h0 => absurd h0 (by simp), fun h0 => absurd h0 (by simp), fun h0 => absurd h0 (by simp), by show (str z10).size ≤ _; rw [str_size]; omega, ⟨kd.1, by show z3 ≤ 255; omega⟩⟩
  have HQI : Hid (r13.images = [] ∧ r13.pages = [] ∧ r13.txns = [] ∧ (LL.a3 = none ∧ LL.c3 = 0) ∧ (LL.a4 = none ∧ LL.c4 = 0) ∧ (LL.a5 = none ∧ LL.c5 = 0)) := by
    unfold Hid
    rw [hr13, ← hLL]
    exact ⟨rfl, rfl, rfl, ⟨rfl, rfl⟩, ⟨rfl, rfl⟩, ⟨rfl, rfl⟩⟩
  have hbw : w.heap.size = b := HBB.out
  clear hr13 hLL hW0b hk8 HF0 HF1 HF2 HF3 HF4 HF5 HF6 HF7 HF8 HF9 HF10 HF11 HF12 HF13 HA0 HA1 HA2 HA3 HA4 HA5 HA6 HA7 HA8 HA9 HA10 HA11 HA12 HA13 HXS0 HXS1 HXS2 HXS3 HXS4 HXS5 HXS6 HXS7 HXS8 HXS9 HXS10 HXS11 HXS12 HXS13 HP0 HP1 HP2 HP3 HP4 HP5 HP6 HP7 HP8 HP9 HP10 HP11 HP12 HP13 E0 E1 E2 E3 E4 E5 E6 E7 E8 E9 E10 E11 E12 G1 G2 G3 G4 G5 G6 G7 G8 G9 G10 G11 G12 G13 HZ11 HOW11 HLE11 HLL11 HFT11 HBS11 HOC11 HST11 HZ12 HOW12 HLE12 HLL12 HFT12 HBS12 HOC12 HST12 HW HO0 r0
  obtain ⟨⟨n0, s14⟩, hn⟩ : ∃ q, rN 4 s13 = q := ⟨_, rfl⟩
  have q13 := xn_any W13 (b + 1) s13 4 T13.out.xs
  have hn1 := rN_bd 4 s13
  have hn2 := rN_le 4 s13 (by omega)
  rw [hn] at q13 hn1 hn2
  simp only at hn1 hn2
  obtain ⟨n, rfl⟩ := Int.eq_ofNat_of_zero_le hn1.1
  have HV14 : Hid (V → n = R.images.length ∧ s14 = (((R.images.drop 0).map imL).flatten ++ R.rem14, 0)) := by
    intro hv
    have h1 := many_head (k := R.images.length) (by have := (HVV.out hv).1.short.images; omega) (by omega) (HVH.out hv).2 hn
    exact ⟨by omega, by rw [h1.2, List.drop_zero]; rfl⟩
  refine Calls.mono q13 ?_
  clear q13 hn hn1
  rintro e w14 ⟨rfl, hx, ho⟩
  simp only at hx ⊢
  have T14 := hide (T13.out.call hx ho)
  have hbg := T14.out.big
  clear hx ho T13
  go_wp2_with fail
  go_loopg [7] n (fun g y wr => ∃ (j : Nat) (acc : List Lm) (s' : St) (ao : Option Addr) (cp B : Nat), j ≤ n ∧ g = n - j ∧ y = .int .i64 (j : Int) ∧ Hid (ImS w14 wr b r13 LL s' acc ao j cp B) ∧ Hid (V → acc.map (·.1) = R.images.take j ∧ s' = (((R.images.drop j).map imL).flatten ++ R.rem14, 0)))
  case atStart => exact ⟨0, [], s14, none, 0, LL.b3, by omega, by omega, rfl, hide (ImS.start T14.out HQI.out.1 HQI.out.2.2.2.1), fun hv => ⟨by simp, (HV14.out hv).2⟩⟩
  case round =>
    obtain ⟨j, acc, s', ao, cp, B, hj, hg, rfl, HM, HV⟩ := hrel
    have c2 := HM.out.xs.c2
    by_cases hc : j < n ∧ s'.2 = 0
    · have hj1 : (j : Int) < (n : Int) := by omega
      have hx' : (s'.2 == 0) = true := by simpa using hc.2
      have hjn : j < n := hc.1
      clear hc
      obtain ⟨⟨z, s2⟩, h1⟩ : ∃ a, rN top s' = a := ⟨_, rfl⟩
      obtain ⟨⟨d, s3⟩, h2⟩ : ∃ a, rT 512 s2 = a := ⟨_, rfl⟩
      have hd := rT_most 512 s2 (by omega)
      rw [h2] at hd
      simp only at hd
      have H1 := hide h1
      have H2 := hide h2
      have q1 := xn_any wr (b + 1) s' top HM.out.xs
      rw [h1] at q1
      clear h1 h2
      go_wp2_with fail
      refine Calls.mono q1 ?_
      clear q1 c2
      rintro e x1 ⟨rfl, hx, ho⟩
      simp only at hx ⊢
      have M1 := hide (HM.out.call hbg hx ho)
      clear hx ho
      have q2 := xt_any x1 (b + 1) s2 512 M1.out.xs
      rw [H2.out] at q2
      go_wp2_with fail
      refine Calls.mono q2 ?_
      clear q2
      rintro e x2 ⟨rfl, hx, ho⟩
      simp only at hx ⊢
      have M2 := hide (M1.out.call hbg hx ho)
      clear hx ho M1
      obtain ⟨X, hX⟩ : ∃ X, str d = X := ⟨_, rfl⟩
      have hXs : X.size = d.length := by rw [← hX, str_size]
      obtain ⟨c, hcc⟩ : ∃ c, c = 512 - d.length := ⟨_, rfl⟩
      have hc2 : (512 : Int) - (X.size : Int) = (c : Int) := by omega
      have hXb : X.size ≤ 512 := by omega
      obtain ⟨O, hmk0, hcv0⟩ := zeros_at c (by omega)
      have hmk := hmk0 x2
      have hcv := hcv0 x2 x2.heap.size (x2.alloc O) rfl (Only.refl _ _)
      obtain ⟨Y, hY⟩ : ∃ Y, str (List.replicate c 0) = Y := ⟨_, rfl⟩
      rw [hY] at hcv
      have hYs : Y.size ≤ 512 := by rw [← hY, str_size, List.length_replicate]; omega
      have hyb : X.size + Y.size ≤ 9223372036854775807 := by omega
      obtain ⟨C, hC⟩ : ∃ C, X ++ Y = C := ⟨_, rfl⟩
      have HCB : Hid (bl C = d ++ List.replicate (512 - d.length) 0) := by
        unfold Hid
        rw [← hC, ← hX, ← hY, str_cat, bl_str, hcc]
      have M3 := hide (M2.out.more (onlyA x2 O))
      obtain ⟨⟨pg, ec⟩, hp⟩ : ∃ a, dec (bl C) = a := ⟨_, rfl⟩
      have q3 := ydecode_any (x2.alloc O) C
      rw [hp] at q3
      have hpb := dec_bounds (bl C)
      rw [hp] at hpb
      simp only at hpb q3
      have HPB := hide hpb
      have HP := hide hp
      rw [hX]
      clear hX hXs hcc hmk0 hcv0 hY hp hpb M2
      go_wp2_with fail
      refine Calls.mono q3 ?_
      clear q3 hmk hcv hc2 hXb hYs hyb hC
      rintro e x4 hres
      obtain ⟨D, a4, c4, rfl, hS, hF, ho4, hge⟩ := hres
      have M4 := hide (M3.out.more ho4)
      have HS4 := hide hS
      have HF4 := hide hF
      have HGE := hide hge
      have HVI : Hid (V → ec = 0 ∧ ∃ hjl : j < R.images.length, R.images[j] = ⟨z, pg⟩ ∧ s3 = (((R.images.drop (j + 1)).map imL).flatten ++ R.rem14, 0)) := by
        intro hv
        have hl : j < R.images.length := by rw [← (HV14.out hv).1]; exact hjn
        obtain ⟨v1, v2, v3⟩ := HVV.out hv
        obtain ⟨e1, e2, e3⟩ := im_head R v1 v2 hl (HV.out hv).2 H1.out H2.out
        rw [← HCB.out, HP.out] at e3
        injection e3 with e3 e4
        exact ⟨e4, hl, by rw [e1, e3], e2⟩
      clear hS hF hge ho4
      go_upto_region 23 with fail
      obtain ⟨x5, hx5⟩ : ∃ x5, x4.alloc (.cells #[.int .i64 pg.lsn, .int .i64 pg.kind, .int .i64 pg.level, .int .i64 pg.right, .string pg.high, .slice a4 pg.items.length c4] 45) = x5 := ⟨_, rfl⟩
      have HPN := hide (Pag.new x4 (.int .i64 pg.lsn) (.int .i64 pg.kind) (.int .i64 pg.level) (.int .i64 pg.right) (.string pg.high) (.slice a4 pg.items.length c4))
      have M5 := hide (M4.out.more (onlyA x4 (.cells #[.int .i64 pg.lsn, .int .i64 pg.kind, .int .i64 pg.level, .int .i64 pg.right, .string pg.high, .slice a4 pg.items.length c4] 45)))
      have HS5 := hide (HS4.out.more (onlyA x4 (.cells #[.int .i64 pg.lsn, .int .i64 pg.kind, .int .i64 pg.level, .int .i64 pg.right, .string pg.high, .slice a4 pg.items.length c4] 45)))
      rw [hx5] at HPN M5 HS5
      rw [hx5]
      obtain ⟨px, hpx⟩ : ∃ px, x4.heap.size = px := ⟨_, rfl⟩
      rw [hpx] at HPN
      simp only [hpx]
      clear hx5 hpx HS4 M4
      by_cases hec : ec = 0
      · have hecb : (ec != 0) = false := by simp [hec]
        clear hec
        have c13 := M5.out.cell
        have hfz := HPN.out
        obtain ⟨k0, k1, k2, k3, k4, k5⟩ : x5.cell? ⟨px, 0, none⟩ = some (.int .i64 pg.lsn) ∧ x5.cell? ⟨px, 1, none⟩ = some (.int .i64 pg.kind) ∧ x5.cell? ⟨px, 2, none⟩ = some (.int .i64 pg.level) ∧ x5.cell? ⟨px, 3, none⟩ = some (.int .i64 pg.right) ∧ x5.cell? ⟨px, 4, none⟩ = some (.string pg.high) ∧ x5.cell? ⟨px, 5, none⟩ = some (.slice a4 pg.items.length c4) := ⟨hfz.c0, hfz.c1, hfz.c2, hfz.c3, hfz.c4, hfz.c5⟩
        clear hfz
        have hlm : LmAt x5 w14.heap.size (.slice ao j cp) (⟨z, pg⟩, (D, a4, c4)) := by
          refine ⟨HS5.out, HF4.out, fun h0 => Nat.le_trans M3.out.only.size (HGE.out h0), fun h0 e => ?_, HPB.out.2, HPB.out.1⟩
          have h3 := (World.ownsRow.lt M3.out.li.own D e).2
          have h4 := HGE.out h0
          omega
        obtain ⟨ao', cp', x7, hr7, hc7, hf7, hM7⟩ := M5.out.push hbg (by omega) (⟨z, pg⟩, (D, a4, c4)) hlm 24
        have R7 := hide hr7
        have M7 := hide hM7
        clear hr7 hM7 hlm
        go_upto_region 25 with fail
        go_wp2_with (at_builtin; go_must (refine Lib.wpList_append_run _ rfl (.tmp 90) (.tmp 94) _ _ rfl _ _ rfl rfl _ _ R7.out ?_))
        go_roundg (n - (j + 1))
        case measure => omega
        case rel =>
          exact ⟨j + 1, acc ++ [(⟨z, pg⟩, (D, a4, c4))], s3, ao', cp', B, by omega, by omega, by go_num, M7, fun hv => by
            obtain ⟨_, hl, e1, e2⟩ := HVI.out hv
            refine ⟨?_, e2⟩
            rw [← take_more R.images j hl, e1, ← (HV.out hv).1]
            simp⟩
      · have hecb : (ec != 0) = true := by simp [hec]
        have HEC := hide hec
        clear hec
        have HRES := hide M5.out.res.there
        have HON := hide (T14.out.only.trans M5.out.only (fun i hi e => by omega))
        go_upto_region 24 with fail
        go_wp2_with (refine wpList_build_rec rfl rfl ?_; go_frame; refine wpList_put_rec rfl (.tmp 2) (.tmp 88) rfl b rfl Rc.none Loc.none rfl HRES.out ?_; intro W99 HW99; go_frame; go_step; go_step; go_step; go_step; go_step; go_step; go_step; go_step; refine bodyPost_ret (results_rec rfl rfl HW99.out.load) rfl ?_; exact ⟨⟨Rc.none, Loc.none, false, rfl, Lst.none _ _, fun hv => absurd (HVI.out hv).1 HEC.out, fun i hi => by cases hi⟩, HON.out.trans HW99.out.only (fun i hi e => by omega)⟩)
    · go_upto_region 18 with fail
      go_cut [68] (fun tt wx => tt = .bool false ∧ wx = wr)
      case first =>
        by_cases hjn : j < n
        · have hj1 : (j : Int) < (n : Int) := by omega
          have hx' : (s'.2 == 0) = false := by simpa using (fun e => hc ⟨hjn, e⟩)
          go_wp2_with fail
          go_meet
          exact ⟨rfl, rfl⟩
        · have hj1 : ¬ (j : Int) < (n : Int) := by omega
          go_wp2_with fail
          go_meet
          exact ⟨rfl, rfl⟩
      case rest =>
        obtain ⟨rfl, hwx⟩ := hcut
        obtain rfl := hwx.symm
        clear c2
        have HVE : Hid (V → acc.map (·.1) = R.images ∧ s' = (R.rem14, 0)) := by
          intro hv
          obtain ⟨e1, e2⟩ := HV.out hv
          have e3 := (HV14.out hv).1
          have e4 : j = R.images.length := by
            have h0 : s'.2 = 0 := by rw [e2]
            have : ¬ j < n := fun h => hc ⟨h, h0⟩
            omega
          rw [e4] at e1 e2
          exact ⟨by rw [e1, List.take_length], by rw [e2, List.drop_length]; rfl⟩
        obtain ⟨Bx3, hT⟩ := ImS.done T14.out HM.out (by omega)
        have HVQ : Hid (V → { r13 with images := acc.map (·.1) } = { R with pages := [], txns := [] } ∧ s' = (R.rem14, 0)) := by
          intro hv
          rw [(HVH.out hv).1, (HVE.out hv).1]
          exact ⟨rfl, (HVE.out hv).2⟩
        have HQ5 : Hid (({ r13 with images := acc.map (·.1) } : Rc).pages = [] ∧ ({ r13 with images := acc.map (·.1) } : Rc).txns = [] ∧ (({ LL with a3 := ao, c3 := cp, b3 := Bx3 } : Loc).a4 = none ∧ ({ LL with a3 := ao, c3 := cp, b3 := Bx3 } : Loc).c4 = 0) ∧ (({ LL with a3 := ao, c3 := cp, b3 := Bx3 } : Loc).a5 = none ∧ ({ LL with a3 := ao, c3 := cp, b3 := Bx3 } : Loc).c5 = 0)) := ⟨HQI.out.2.1, HQI.out.2.2.1, HQI.out.2.2.2.2.1, HQI.out.2.2.2.2.2⟩
        obtain ⟨q5, hq5⟩ : ∃ q : Rc, ({ r13 with images := acc.map (·.1) } : Rc) = q := ⟨_, rfl⟩
        obtain ⟨L5, hL5⟩ : ∃ q : Loc, ({ LL with a3 := ao, c3 := cp, b3 := Bx3 } : Loc) = q := ⟨_, rfl⟩
        rw [hq5, hL5] at hT HQ5
        rw [hq5] at HVQ
        have T5 := hide hT
        clear hT hq5 hL5 HVE HM HV HQI HVH HV14 T14 hc
        go_wp2_with fail
        obtain ⟨⟨n20, s15⟩, hn⟩ : ∃ q, rN 8192 s' = q := ⟨_, rfl⟩
        have qn1 := xn_any wr (b + 1) s' 8192 T5.out.xs
        have hn1 := rN_bd 8192 s'
        have hn2 := rN_le 8192 s' (by omega)
        rw [hn] at qn1 hn1 hn2
        simp only at hn1 hn2
        obtain ⟨n2, rfl⟩ := Int.eq_ofNat_of_zero_le hn1.1
        have HVN : Hid (V → n2 = R.pages.length ∧ s15 = (((R.pages.drop 0).map prL).flatten ++ R.rem15, 0)) := by
          intro hv
          have h1 := many_head (k := R.pages.length) (by have := (HVV.out hv).1.short.pages; omega) (by omega) (HVQ.out hv).2 hn
          exact ⟨by omega, by (rw [h1.2, List.drop_zero]) <;> rfl⟩
        refine Calls.mono qn1 ?_
        clear qn1 hn hn1
        rintro e w15 ⟨rfl, hx, ho⟩
        simp only at hx ⊢
        have T6 := hide (T5.out.call hx ho)
        have hbg := T6.out.big
        clear hx ho T5
        go_wp2_with fail
        go_loopg [12] n2 (fun g y wr => ∃ (j : Nat) (acc : List (Int × Int)) (s' : St) (ao : Option Addr) (cp B : Nat), j ≤ n2 ∧ g = n2 - j ∧ y = .int .i64 (j : Int) ∧ Hid (PgS w15 wr b q5 L5 s' acc ao j cp B) ∧ Hid (V → acc = R.pages.take j ∧ s' = (((R.pages.drop j).map prL).flatten ++ R.rem15, 0)))
        case atStart => exact ⟨0, [], s15, none, 0, L5.b4, by omega, by omega, rfl, hide (PgS.start T6.out HQ5.out.1 HQ5.out.2.2.1), fun hv => ⟨by simp, (HVN.out hv).2⟩⟩
        case round =>
          obtain ⟨j, acc, s', ao, cp, B, hj, hg, rfl, HM, HV⟩ := hrel
          have c2 := HM.out.xs.c2
          by_cases hc : j < n2 ∧ s'.2 = 0
          · have hj1 : (j : Int) < (n2 : Int) := by omega
            have hx' : (s'.2 == 0) = true := by simpa using hc.2
            have hjn : j < n2 := hc.1
            clear hc
            obtain ⟨⟨z1, s2⟩, h1⟩ : ∃ a, rN top s' = a := ⟨_, rfl⟩
            obtain ⟨⟨z2, s3⟩, h2⟩ : ∃ a, rN top s2 = a := ⟨_, rfl⟩
            have H2 := hide h2
            have HD := hide (HM.out.more (Only.drew _ wr))
            have q1 := xn_any wr.drew (b + 1) s' top HD.out.xs
            rw [h1] at q1
            have Q1 := hide q1
            have HVn : Hid (V → acc ++ [(z1, z2)] = R.pages.take (j + 1) ∧ s3 = (((R.pages.drop (j + 1)).map prL).flatten ++ R.rem15, 0)) := by
              intro hv
              have hl : j < R.pages.length := by rw [← (HVN.out hv).1]; exact hjn
              obtain ⟨v1, v2, v3⟩ := HVV.out hv
              obtain ⟨e1, e2⟩ := pr_head R.pages v1.rng.pages hl (HV.out hv).2 h1 h2
              refine ⟨?_, e2⟩
              rw [← take_more R.pages j hl, ← e1, ← (HV.out hv).1]
            clear h1 h2 q1
            go_upto_region 30 with fail
            clear c2
            refine wp_region_noPanic ?_
            refine wp_region_held_drew (S := fun _ => True) (by kernel_rfl) (trivial) (fun hHeld => ?_)
            refine wpAnyH_take (i := 0) (oi := { dst := some 111, op := Op.fieldAddr 28 (Operand.tmp 5) 14, type := 0, pos := "ref.go:151", after := #[], guard := none }) (v := .pointer (some ⟨(b + 1 + 1), 14, none⟩)) rfl (by kernel_rfl) (by kernel_rfl) (by kernel_rfl) (fun _ _ _ h => h) (Or.inl ⟨by rfl, fun w' hSw => by clear hSw; go_simp⟩) (by assumption) ?_
            simp only [Act.put, List.setIfInBounds_toArray, List.set_cons_zero, List.set_cons_succ]
            refine wpAnyH_take (i := 2) (oi := { dst := some 113, op := Op.move (Operand.tmp 4), type := 72, pos := "ref.go:151", after := #[], guard := none }) (v := .pointer (some ⟨(b + 1), 0, none⟩)) rfl (by kernel_rfl) (by kernel_rfl) (by kernel_rfl) (fun _ _ _ h => h) (Or.inl ⟨by rfl, fun w' hSw => by clear hSw; go_simp⟩) (by assumption) ?_
            simp only [Act.put, List.setIfInBounds_toArray, List.set_cons_zero, List.set_cons_succ]
            refine wpAnyH_take (i := 4) (oi := { dst := some 115, op := Op.move (Operand.tmp 4), type := 72, pos := "ref.go:151", after := #[], guard := none }) (v := .pointer (some ⟨(b + 1), 0, none⟩)) rfl (by kernel_rfl) (by kernel_rfl) (by kernel_rfl) (fun _ _ _ h => h) (Or.inl ⟨by rfl, fun w' hSw => by clear hSw; go_simp⟩) (by assumption) ?_
            simp only [Act.put, List.setIfInBounds_toArray, List.set_cons_zero, List.set_cons_succ]
            refine wpAnyH_ready (rs := [1, 3]) (by kernel_rfl) (by simp) ?_
            refine AllReadyH.cons (o := { dst := some 112, op := Op.load 25 (Operand.tmp 111), type := 25, pos := "ref.go:151", after := #[{ on := 0, ground := Ground.data }], guard := none }) rfl (fun K hK => ?_) (AllReadyH.cons (o := { dst := some 114, op := Op.call { callee := Callee.value (Operand.func 36), args := #[Operand.tmp 113, Operand.const (Value.int IntKind.i64 4611686018427387904)], argTypes := #[72, 3] }, type := 3, pos := "ref.go:151", after := #[{ on := 2, ground := Ground.data }], guard := none }) rfl (fun K hK => ?_) (AllReadyH.nil))
            · have cL := HD.out.cell
              go_simp
              clear cL
              refine hK.out _ _ (trivial) (fun hHeld => ?_)
              clear hK K
              try simp only [Act.put, List.setIfInBounds_toArray, List.set_cons_zero, List.set_cons_succ]
              refine wpAnyH_ready (rs := [3]) (by kernel_rfl) (by simp) ?_
              refine AllReadyH.cons (o := { dst := some 114, op := Op.call { callee := Callee.value (Operand.func 36), args := #[Operand.tmp 113, Operand.const (Value.int IntKind.i64 4611686018427387904)], argTypes := #[72, 3] }, type := 3, pos := "ref.go:151", after := #[{ on := 2, ground := Ground.data }], guard := none }) rfl (fun K hK => ?_) (AllReadyH.nil)
              go_simp
              refine Calls.mono Q1.out ?_
              rintro e x1 ⟨rfl, hx, ho⟩
              simp only at hx ⊢
              have P1 := hide (HD.out.call hbg hx ho)
              clear hx ho
              refine hK.out _ _ (trivial) (fun hHeld => ?_)
              clear hK K
              try simp only [Act.put, List.setIfInBounds_toArray, List.set_cons_zero, List.set_cons_succ]
              refine wpAnyH_ready (rs := [5]) (by kernel_rfl) (by simp) ?_
              refine AllReadyH.cons (o := { dst := some 116, op := Op.call { callee := Callee.value (Operand.func 36), args := #[Operand.tmp 115, Operand.const (Value.int IntKind.i64 4611686018427387904)], argTypes := #[72, 3] }, type := 3, pos := "ref.go:151", after := #[{ on := 4, ground := Ground.data }, { on := 3, ground := Ground.chain }], guard := none }) rfl (fun K hK => ?_) (AllReadyH.nil)
              go_simp
              have q2 := xn_any x1 (b + 1) s2 top P1.out.xs
              rw [H2.out] at q2
              refine Calls.mono q2 ?_
              clear q2
              rintro e x2 ⟨rfl, hx, ho⟩
              simp only at hx ⊢
              have P2 := hide (P1.out.call hbg hx ho)
              clear hx ho
              refine hK.out _ _ (trivial) (fun hHeld => ?_)
              clear hK K
              try simp only [Act.put, List.setIfInBounds_toArray, List.set_cons_zero, List.set_cons_succ]
              refine wpAnyH_take (i := 6) (oi := { dst := some 117, op := Op.build 50 #[(0, Operand.tmp 114), (1, Operand.tmp 116)], type := 50, pos := "ref.go:151", after := #[{ on := 3, ground := Ground.data }, { on := 5, ground := Ground.data }], guard := none }) (v := .agg #[.int .i64 z1, .int .i64 z2]) rfl (by kernel_rfl) (by kernel_rfl) (by kernel_rfl) (fun _ _ _ h => h) (Or.inl ⟨by rfl, fun w' hSw => by clear hSw; go_simp⟩) (by assumption) ?_
              simp only [Act.put, List.setIfInBounds_toArray, List.set_cons_zero, List.set_cons_succ]
              refine wpAnyH_ready (rs := [7]) (by kernel_rfl) (by simp) ?_
              refine AllReadyH.cons (o := { dst := some 118, op := Op.buildSlice 25 1 #[(0, Operand.tmp 117)], type := 25, pos := "ref.go:151", after := #[{ on := 6, ground := Ground.data }], guard := none }) rfl (fun K hK => ?_) (AllReadyH.nil)
              go_simp
              obtain ⟨ao', cp', x4, hr4, hc4, hf4, hM4⟩ := P2.out.push hbg (by omega) (z1, z2) 25
              have R4 := hide hr4
              have M4 := hide hM4
              have C4 := hide hc4
              have F4 := hide hf4
              clear hr4 hM4 hc4 hf4
              refine hK.out _ _ (trivial) (fun hHeld => ?_)
              clear hK K
              try simp only [Act.put, List.setIfInBounds_toArray, List.set_cons_zero, List.set_cons_succ]
              refine wpAnyH_ready (rs := [8]) (by kernel_rfl) (by simp) ?_
              refine AllReadyH.cons (o := { dst := some 119, op := Op.call { callee := Callee.builtin Builtin.append, args := #[Operand.tmp 112, Operand.tmp 118], argTypes := #[25, 25] }, type := 25, pos := "ref.go:151", after := #[{ on := 1, ground := Ground.data }, { on := 7, ground := Ground.data }, { on := 5, ground := Ground.chain }], guard := none }) rfl (fun K hK => ?_) (AllReadyH.nil)
              rw [if_pos (by rfl)]
              refine Lib.wp_append_run _ (.tmp 112) (.tmp 118) _ _ rfl _ _ rfl rfl _ _ R4.out ?_
              refine hK.out _ _ (trivial) (fun hHeld => ?_)
              clear hK K
              try simp only [Act.put, List.setIfInBounds_toArray, List.set_cons_zero, List.set_cons_succ]
              refine wpAnyH_take (i := 9) (oi := { dst := some 120, op := Op.fieldAddr 28 (Operand.tmp 5) 14, type := 0, pos := "ref.go:151", after := #[{ on := 0, ground := Ground.phase }, { on := 1, ground := Ground.phase }, { on := 2, ground := Ground.phase }, { on := 3, ground := Ground.phase }, { on := 4, ground := Ground.phase }, { on := 5, ground := Ground.phase }, { on := 6, ground := Ground.phase }, { on := 7, ground := Ground.phase }, { on := 8, ground := Ground.phase }], guard := none }) (v := .pointer (some ⟨(b + 1 + 1), 14, none⟩)) rfl (by kernel_rfl) (by kernel_rfl) (by kernel_rfl) (fun _ _ _ h => h) (Or.inl ⟨by rfl, fun w' hSw => by clear hSw; go_simp⟩) (by assumption) ?_
              simp only [Act.put, List.setIfInBounds_toArray, List.set_cons_zero, List.set_cons_succ]
              refine wpAnyH_ready (rs := [10]) (by kernel_rfl) (by simp) ?_
              refine AllReadyH.cons (o := { dst := none, op := Op.store 25 (Operand.tmp 120) (Operand.tmp 119), type := 0, pos := "ref.go:151", after := #[{ on := 9, ground := Ground.data }, { on := 8, ground := Ground.data }, { on := 8, ground := Ground.chain }, { on := 0, ground := Ground.phase }, { on := 1, ground := Ground.phase }, { on := 2, ground := Ground.phase }, { on := 3, ground := Ground.phase }, { on := 4, ground := Ground.phase }, { on := 5, ground := Ground.phase }, { on := 6, ground := Ground.phase }, { on := 7, ground := Ground.phase }, { on := 8, ground := Ground.phase }], guard := none }) rfl (fun K hK => ?_) (AllReadyH.nil)
              have c4 := C4.out
              have f4 := F4.out
              go_simp
              clear c4 f4
              refine hK.out _ _ (trivial) (fun hHeld => ?_)
              clear hK K
              try simp only [Act.put, List.setIfInBounds_toArray, List.set_cons_zero, List.set_cons_succ]
              refine wpAnyH_done (by kernel_rfl) ?_ _
              refine NoPanic.normal ?_
              go_wp2_with fail
              go_roundg (n2 - (j + 1))
              case measure => omega
              case rel => exact ⟨j + 1, acc ++ [(z1, z2)], s3, ao', cp', B, by omega, by omega, by go_num, M4, HVn⟩
            · go_simp
              refine Calls.mono Q1.out ?_
              rintro e x1 ⟨rfl, hx, ho⟩
              simp only at hx ⊢
              have P1 := hide (HD.out.call hbg hx ho)
              clear hx ho
              refine hK.out _ _ (trivial) (fun hHeld => ?_)
              clear hK K
              try simp only [Act.put, List.setIfInBounds_toArray, List.set_cons_zero, List.set_cons_succ]
              refine wpAnyH_ready (rs := [1, 5]) (by kernel_rfl) (by simp) ?_
              refine AllReadyH.cons (o := { dst := some 112, op := Op.load 25 (Operand.tmp 111), type := 25, pos := "ref.go:151", after := #[{ on := 0, ground := Ground.data }], guard := none }) rfl (fun K hK => ?_) (AllReadyH.cons (o := { dst := some 116, op := Op.call { callee := Callee.value (Operand.func 36), args := #[Operand.tmp 115, Operand.const (Value.int IntKind.i64 4611686018427387904)], argTypes := #[72, 3] }, type := 3, pos := "ref.go:151", after := #[{ on := 4, ground := Ground.data }, { on := 3, ground := Ground.chain }], guard := none }) rfl (fun K hK => ?_) (AllReadyH.nil))
              · have cL := P1.out.cell
                go_simp
                clear cL
                refine hK.out _ _ (trivial) (fun hHeld => ?_)
                clear hK K
                try simp only [Act.put, List.setIfInBounds_toArray, List.set_cons_zero, List.set_cons_succ]
                refine wpAnyH_ready (rs := [5]) (by kernel_rfl) (by simp) ?_
                refine AllReadyH.cons (o := { dst := some 116, op := Op.call { callee := Callee.value (Operand.func 36), args := #[Operand.tmp 115, Operand.const (Value.int IntKind.i64 4611686018427387904)], argTypes := #[72, 3] }, type := 3, pos := "ref.go:151", after := #[{ on := 4, ground := Ground.data }, { on := 3, ground := Ground.chain }], guard := none }) rfl (fun K hK => ?_) (AllReadyH.nil)
                go_simp
                have q2 := xn_any x1 (b + 1) s2 top P1.out.xs
                rw [H2.out] at q2
                refine Calls.mono q2 ?_
                clear q2
                rintro e x2 ⟨rfl, hx, ho⟩
                simp only at hx ⊢
                have P2 := hide (P1.out.call hbg hx ho)
                clear hx ho
                refine hK.out _ _ (trivial) (fun hHeld => ?_)
                clear hK K
                try simp only [Act.put, List.setIfInBounds_toArray, List.set_cons_zero, List.set_cons_succ]
                refine wpAnyH_take (i := 6) (oi := { dst := some 117, op := Op.build 50 #[(0, Operand.tmp 114), (1, Operand.tmp 116)], type := 50, pos := "ref.go:151", after := #[{ on := 3, ground := Ground.data }, { on := 5, ground := Ground.data }], guard := none }) (v := .agg #[.int .i64 z1, .int .i64 z2]) rfl (by kernel_rfl) (by kernel_rfl) (by kernel_rfl) (fun _ _ _ h => h) (Or.inl ⟨by rfl, fun w' hSw => by clear hSw; go_simp⟩) (by assumption) ?_
                simp only [Act.put, List.setIfInBounds_toArray, List.set_cons_zero, List.set_cons_succ]
                refine wpAnyH_ready (rs := [7]) (by kernel_rfl) (by simp) ?_
                refine AllReadyH.cons (o := { dst := some 118, op := Op.buildSlice 25 1 #[(0, Operand.tmp 117)], type := 25, pos := "ref.go:151", after := #[{ on := 6, ground := Ground.data }], guard := none }) rfl (fun K hK => ?_) (AllReadyH.nil)
                go_simp
                obtain ⟨ao', cp', x4, hr4, hc4, hf4, hM4⟩ := P2.out.push hbg (by omega) (z1, z2) 25
                have R4 := hide hr4
                have M4 := hide hM4
                have C4 := hide hc4
                have F4 := hide hf4
                clear hr4 hM4 hc4 hf4
                refine hK.out _ _ (trivial) (fun hHeld => ?_)
                clear hK K
                try simp only [Act.put, List.setIfInBounds_toArray, List.set_cons_zero, List.set_cons_succ]
                refine wpAnyH_ready (rs := [8]) (by kernel_rfl) (by simp) ?_
                refine AllReadyH.cons (o := { dst := some 119, op := Op.call { callee := Callee.builtin Builtin.append, args := #[Operand.tmp 112, Operand.tmp 118], argTypes := #[25, 25] }, type := 25, pos := "ref.go:151", after := #[{ on := 1, ground := Ground.data }, { on := 7, ground := Ground.data }, { on := 5, ground := Ground.chain }], guard := none }) rfl (fun K hK => ?_) (AllReadyH.nil)
                rw [if_pos (by rfl)]
                refine Lib.wp_append_run _ (.tmp 112) (.tmp 118) _ _ rfl _ _ rfl rfl _ _ R4.out ?_
                refine hK.out _ _ (trivial) (fun hHeld => ?_)
                clear hK K
                try simp only [Act.put, List.setIfInBounds_toArray, List.set_cons_zero, List.set_cons_succ]
                refine wpAnyH_take (i := 9) (oi := { dst := some 120, op := Op.fieldAddr 28 (Operand.tmp 5) 14, type := 0, pos := "ref.go:151", after := #[{ on := 0, ground := Ground.phase }, { on := 1, ground := Ground.phase }, { on := 2, ground := Ground.phase }, { on := 3, ground := Ground.phase }, { on := 4, ground := Ground.phase }, { on := 5, ground := Ground.phase }, { on := 6, ground := Ground.phase }, { on := 7, ground := Ground.phase }, { on := 8, ground := Ground.phase }], guard := none }) (v := .pointer (some ⟨(b + 1 + 1), 14, none⟩)) rfl (by kernel_rfl) (by kernel_rfl) (by kernel_rfl) (fun _ _ _ h => h) (Or.inl ⟨by rfl, fun w' hSw => by clear hSw; go_simp⟩) (by assumption) ?_
                simp only [Act.put, List.setIfInBounds_toArray, List.set_cons_zero, List.set_cons_succ]
                refine wpAnyH_ready (rs := [10]) (by kernel_rfl) (by simp) ?_
                refine AllReadyH.cons (o := { dst := none, op := Op.store 25 (Operand.tmp 120) (Operand.tmp 119), type := 0, pos := "ref.go:151", after := #[{ on := 9, ground := Ground.data }, { on := 8, ground := Ground.data }, { on := 8, ground := Ground.chain }, { on := 0, ground := Ground.phase }, { on := 1, ground := Ground.phase }, { on := 2, ground := Ground.phase }, { on := 3, ground := Ground.phase }, { on := 4, ground := Ground.phase }, { on := 5, ground := Ground.phase }, { on := 6, ground := Ground.phase }, { on := 7, ground := Ground.phase }, { on := 8, ground := Ground.phase }], guard := none }) rfl (fun K hK => ?_) (AllReadyH.nil)
                have c4 := C4.out
                have f4 := F4.out
                go_simp
                clear c4 f4
                refine hK.out _ _ (trivial) (fun hHeld => ?_)
                clear hK K
                try simp only [Act.put, List.setIfInBounds_toArray, List.set_cons_zero, List.set_cons_succ]
                refine wpAnyH_done (by kernel_rfl) ?_ _
                refine NoPanic.normal ?_
                go_wp2_with fail
                go_roundg (n2 - (j + 1))
                case measure => omega
                case rel => exact ⟨j + 1, acc ++ [(z1, z2)], s3, ao', cp', B, by omega, by omega, by go_num, M4, HVn⟩
              · go_simp
                have q2 := xn_any x1 (b + 1) s2 top P1.out.xs
                rw [H2.out] at q2
                refine Calls.mono q2 ?_
                clear q2
                rintro e x2 ⟨rfl, hx, ho⟩
                simp only at hx ⊢
                have P2 := hide (P1.out.call hbg hx ho)
                clear hx ho
                refine hK.out _ _ (trivial) (fun hHeld => ?_)
                clear hK K
                try simp only [Act.put, List.setIfInBounds_toArray, List.set_cons_zero, List.set_cons_succ]
                refine wpAnyH_take (i := 6) (oi := { dst := some 117, op := Op.build 50 #[(0, Operand.tmp 114), (1, Operand.tmp 116)], type := 50, pos := "ref.go:151", after := #[{ on := 3, ground := Ground.data }, { on := 5, ground := Ground.data }], guard := none }) (v := .agg #[.int .i64 z1, .int .i64 z2]) rfl (by kernel_rfl) (by kernel_rfl) (by kernel_rfl) (fun _ _ _ h => h) (Or.inl ⟨by rfl, fun w' hSw => by clear hSw; go_simp⟩) (by assumption) ?_
                simp only [Act.put, List.setIfInBounds_toArray, List.set_cons_zero, List.set_cons_succ]
                refine wpAnyH_ready (rs := [1, 7]) (by kernel_rfl) (by simp) ?_
                refine AllReadyH.cons (o := { dst := some 112, op := Op.load 25 (Operand.tmp 111), type := 25, pos := "ref.go:151", after := #[{ on := 0, ground := Ground.data }], guard := none }) rfl (fun K hK => ?_) (AllReadyH.cons (o := { dst := some 118, op := Op.buildSlice 25 1 #[(0, Operand.tmp 117)], type := 25, pos := "ref.go:151", after := #[{ on := 6, ground := Ground.data }], guard := none }) rfl (fun K hK => ?_) (AllReadyH.nil))
                · have cL := P2.out.cell
                  go_simp
                  clear cL
                  refine hK.out _ _ (trivial) (fun hHeld => ?_)
                  clear hK K
                  try simp only [Act.put, List.setIfInBounds_toArray, List.set_cons_zero, List.set_cons_succ]
                  refine wpAnyH_ready (rs := [7]) (by kernel_rfl) (by simp) ?_
                  refine AllReadyH.cons (o := { dst := some 118, op := Op.buildSlice 25 1 #[(0, Operand.tmp 117)], type := 25, pos := "ref.go:151", after := #[{ on := 6, ground := Ground.data }], guard := none }) rfl (fun K hK => ?_) (AllReadyH.nil)
                  go_simp
                  obtain ⟨ao', cp', x4, hr4, hc4, hf4, hM4⟩ := P2.out.push hbg (by omega) (z1, z2) 25
                  have R4 := hide hr4
                  have M4 := hide hM4
                  have C4 := hide hc4
                  have F4 := hide hf4
                  clear hr4 hM4 hc4 hf4
                  refine hK.out _ _ (trivial) (fun hHeld => ?_)
                  clear hK K
                  try simp only [Act.put, List.setIfInBounds_toArray, List.set_cons_zero, List.set_cons_succ]
                  refine wpAnyH_ready (rs := [8]) (by kernel_rfl) (by simp) ?_
                  refine AllReadyH.cons (o := { dst := some 119, op := Op.call { callee := Callee.builtin Builtin.append, args := #[Operand.tmp 112, Operand.tmp 118], argTypes := #[25, 25] }, type := 25, pos := "ref.go:151", after := #[{ on := 1, ground := Ground.data }, { on := 7, ground := Ground.data }, { on := 5, ground := Ground.chain }], guard := none }) rfl (fun K hK => ?_) (AllReadyH.nil)
                  rw [if_pos (by rfl)]
                  refine Lib.wp_append_run _ (.tmp 112) (.tmp 118) _ _ rfl _ _ rfl rfl _ _ R4.out ?_
                  refine hK.out _ _ (trivial) (fun hHeld => ?_)
                  clear hK K
                  try simp only [Act.put, List.setIfInBounds_toArray, List.set_cons_zero, List.set_cons_succ]
                  refine wpAnyH_take (i := 9) (oi := { dst := some 120, op := Op.fieldAddr 28 (Operand.tmp 5) 14, type := 0, pos := "ref.go:151", after := #[{ on := 0, ground := Ground.phase }, { on := 1, ground := Ground.phase }, { on := 2, ground := Ground.phase }, { on := 3, ground := Ground.phase }, { on := 4, ground := Ground.phase }, { on := 5, ground := Ground.phase }, { on := 6, ground := Ground.phase }, { on := 7, ground := Ground.phase }, { on := 8, ground := Ground.phase }], guard := none }) (v := .pointer (some ⟨(b + 1 + 1), 14, none⟩)) rfl (by kernel_rfl) (by kernel_rfl) (by kernel_rfl) (fun _ _ _ h => h) (Or.inl ⟨by rfl, fun w' hSw => by clear hSw; go_simp⟩) (by assumption) ?_
                  simp only [Act.put, List.setIfInBounds_toArray, List.set_cons_zero, List.set_cons_succ]
                  refine wpAnyH_ready (rs := [10]) (by kernel_rfl) (by simp) ?_
                  refine AllReadyH.cons (o := { dst := none, op := Op.store 25 (Operand.tmp 120) (Operand.tmp 119), type := 0, pos := "ref.go:151", after := #[{ on := 9, ground := Ground.data }, { on := 8, ground := Ground.data }, { on := 8, ground := Ground.chain }, { on := 0, ground := Ground.phase }, { on := 1, ground := Ground.phase }, { on := 2, ground := Ground.phase }, { on := 3, ground := Ground.phase }, { on := 4, ground := Ground.phase }, { on := 5, ground := Ground.phase }, { on := 6, ground := Ground.phase }, { on := 7, ground := Ground.phase }, { on := 8, ground := Ground.phase }], guard := none }) rfl (fun K hK => ?_) (AllReadyH.nil)
                  have c4 := C4.out
                  have f4 := F4.out
                  go_simp
                  clear c4 f4
                  refine hK.out _ _ (trivial) (fun hHeld => ?_)
                  clear hK K
                  try simp only [Act.put, List.setIfInBounds_toArray, List.set_cons_zero, List.set_cons_succ]
                  refine wpAnyH_done (by kernel_rfl) ?_ _
                  refine NoPanic.normal ?_
                  go_wp2_with fail
                  go_roundg (n2 - (j + 1))
                  case measure => omega
                  case rel => exact ⟨j + 1, acc ++ [(z1, z2)], s3, ao', cp', B, by omega, by omega, by go_num, M4, HVn⟩
                · go_simp
                  obtain ⟨ao', cp', x4, hr4, hc4, hf4, hM4⟩ := P2.out.push hbg (by omega) (z1, z2) 25
                  have R4 := hide hr4
                  have M4 := hide hM4
                  have C4 := hide hc4
                  have F4 := hide hf4
                  clear hr4 hM4 hc4 hf4
                  refine hK.out _ _ (trivial) (fun hHeld => ?_)
                  clear hK K
                  try simp only [Act.put, List.setIfInBounds_toArray, List.set_cons_zero, List.set_cons_succ]
                  refine wpAnyH_ready (rs := [1]) (by kernel_rfl) (by simp) ?_
                  refine AllReadyH.cons (o := { dst := some 112, op := Op.load 25 (Operand.tmp 111), type := 25, pos := "ref.go:151", after := #[{ on := 0, ground := Ground.data }], guard := none }) rfl (fun K hK => ?_) (AllReadyH.nil)
                  have cL := (P2.out.more (onlyA x2 (.cells #[.int .i64 z1, .int .i64 z2] 50))).cell
                  go_simp
                  clear cL
                  refine hK.out _ _ (trivial) (fun hHeld => ?_)
                  clear hK K
                  try simp only [Act.put, List.setIfInBounds_toArray, List.set_cons_zero, List.set_cons_succ]
                  refine wpAnyH_ready (rs := [8]) (by kernel_rfl) (by simp) ?_
                  refine AllReadyH.cons (o := { dst := some 119, op := Op.call { callee := Callee.builtin Builtin.append, args := #[Operand.tmp 112, Operand.tmp 118], argTypes := #[25, 25] }, type := 25, pos := "ref.go:151", after := #[{ on := 1, ground := Ground.data }, { on := 7, ground := Ground.data }, { on := 5, ground := Ground.chain }], guard := none }) rfl (fun K hK => ?_) (AllReadyH.nil)
                  rw [if_pos (by rfl)]
                  refine Lib.wp_append_run _ (.tmp 112) (.tmp 118) _ _ rfl _ _ rfl rfl _ _ R4.out ?_
                  refine hK.out _ _ (trivial) (fun hHeld => ?_)
                  clear hK K
                  try simp only [Act.put, List.setIfInBounds_toArray, List.set_cons_zero, List.set_cons_succ]
                  refine wpAnyH_take (i := 9) (oi := { dst := some 120, op := Op.fieldAddr 28 (Operand.tmp 5) 14, type := 0, pos := "ref.go:151", after := #[{ on := 0, ground := Ground.phase }, { on := 1, ground := Ground.phase }, { on := 2, ground := Ground.phase }, { on := 3, ground := Ground.phase }, { on := 4, ground := Ground.phase }, { on := 5, ground := Ground.phase }, { on := 6, ground := Ground.phase }, { on := 7, ground := Ground.phase }, { on := 8, ground := Ground.phase }], guard := none }) (v := .pointer (some ⟨(b + 1 + 1), 14, none⟩)) rfl (by kernel_rfl) (by kernel_rfl) (by kernel_rfl) (fun _ _ _ h => h) (Or.inl ⟨by rfl, fun w' hSw => by clear hSw; go_simp⟩) (by assumption) ?_
                  simp only [Act.put, List.setIfInBounds_toArray, List.set_cons_zero, List.set_cons_succ]
                  refine wpAnyH_ready (rs := [10]) (by kernel_rfl) (by simp) ?_
                  refine AllReadyH.cons (o := { dst := none, op := Op.store 25 (Operand.tmp 120) (Operand.tmp 119), type := 0, pos := "ref.go:151", after := #[{ on := 9, ground := Ground.data }, { on := 8, ground := Ground.data }, { on := 8, ground := Ground.chain }, { on := 0, ground := Ground.phase }, { on := 1, ground := Ground.phase }, { on := 2, ground := Ground.phase }, { on := 3, ground := Ground.phase }, { on := 4, ground := Ground.phase }, { on := 5, ground := Ground.phase }, { on := 6, ground := Ground.phase }, { on := 7, ground := Ground.phase }, { on := 8, ground := Ground.phase }], guard := none }) rfl (fun K hK => ?_) (AllReadyH.nil)
                  have c4 := C4.out
                  have f4 := F4.out
                  go_simp
                  clear c4 f4
                  refine hK.out _ _ (trivial) (fun hHeld => ?_)
                  clear hK K
                  try simp only [Act.put, List.setIfInBounds_toArray, List.set_cons_zero, List.set_cons_succ]
                  refine wpAnyH_done (by kernel_rfl) ?_ _
                  refine NoPanic.normal ?_
                  go_wp2_with fail
                  go_roundg (n2 - (j + 1))
                  case measure => omega
                  case rel => exact ⟨j + 1, acc ++ [(z1, z2)], s3, ao', cp', B, by omega, by omega, by go_num, M4, HVn⟩
          · go_upto_region 28 with fail
            go_cut [108] (fun tt wx => tt = .bool false ∧ wx = wr)
            case first =>
              by_cases hjn : j < n2
              · have hj1 : (j : Int) < (n2 : Int) := by omega
                have hx' : (s'.2 == 0) = false := by simpa using (fun e => hc ⟨hjn, e⟩)
                go_wp2_with fail
                go_meet
                exact ⟨rfl, rfl⟩
              · have hj1 : ¬ (j : Int) < (n2 : Int) := by omega
                go_wp2_with fail
                go_meet
                exact ⟨rfl, rfl⟩
            case rest =>
              obtain ⟨rfl, hwx⟩ := hcut
              obtain rfl := hwx.symm
              clear c2
              have HVE : Hid (V → acc = R.pages ∧ s' = (R.rem15, 0)) := by
                intro hv
                obtain ⟨e1, e2⟩ := HV.out hv
                have e3 := (HVN.out hv).1
                have e4 : j = R.pages.length := by
                  have h0 : s'.2 = 0 := by rw [e2]
                  have : ¬ j < n2 := fun h => hc ⟨h, h0⟩
                  omega
                rw [e4] at e1 e2
                exact ⟨by rw [e1, List.take_length], by rw [e2, List.drop_length]; rfl⟩
              obtain ⟨Bx, hT⟩ := PgS.done T6.out HM.out (by omega)
              have HVQ6 : Hid (V → ({ q5 with pages := acc } : Rc) = { R with txns := [] } ∧ s' = (R.rem15, 0)) := by
                intro hv
                rw [(HVQ.out hv).1, (HVE.out hv).1]
                exact ⟨rfl, (HVE.out hv).2⟩
              have HQ6 : Hid (({ q5 with pages := acc } : Rc).txns = [] ∧ (({ L5 with a4 := ao, c4 := cp, b4 := Bx } : Loc).a5 = none ∧ ({ L5 with a4 := ao, c4 := cp, b4 := Bx } : Loc).c5 = 0)) := ⟨HQ5.out.2.1, HQ5.out.2.2.2⟩
              obtain ⟨q6, hq6⟩ : ∃ q : Rc, ({ q5 with pages := acc } : Rc) = q := ⟨_, rfl⟩
              obtain ⟨L6, hL6⟩ : ∃ q : Loc, ({ L5 with a4 := ao, c4 := cp, b4 := Bx } : Loc) = q := ⟨_, rfl⟩
              rw [hq6, hL6] at hT HQ6
              rw [hq6] at HVQ6
              have T7 := hide hT
              clear hT hq6 hL6 HVE HM HV HQ5 HVQ HVN T6 hc hbg
              go_wp2_with fail
              obtain ⟨⟨n30, s16⟩, hn⟩ : ∃ q, rN 1024 s' = q := ⟨_, rfl⟩
              have qn1 := xn_any wr (b + 1) s' 1024 T7.out.xs
              have hn1 := rN_bd 1024 s'
              have hn2 := rN_le 1024 s' (by omega)
              rw [hn] at qn1 hn1 hn2
              simp only at hn1 hn2
              obtain ⟨n3, rfl⟩ := Int.eq_ofNat_of_zero_le hn1.1
              have HVN : Hid (V → n3 = R.txns.length ∧ s16 = (((R.txns.drop 0).map prL).flatten ++ [], 0)) := by
                intro hv
                have h1 := many_head (k := R.txns.length) (by have := (HVV.out hv).1.short.txns; omega) (by omega) (HVQ6.out hv).2 hn
                exact ⟨by omega, by (rw [h1.2, List.drop_zero]) <;> rfl⟩
              refine Calls.mono qn1 ?_
              clear qn1 hn hn1
              rintro e w16 ⟨rfl, hx, ho⟩
              simp only at hx ⊢
              have T8 := hide (T7.out.call hx ho)
              have hbg := T8.out.big
              clear hx ho T7
              go_wp2_with fail
              go_loopg [13] n3 (fun g y wr => ∃ (j : Nat) (acc : List (Int × Int)) (s' : St) (ao : Option Addr) (cp B : Nat), j ≤ n3 ∧ g = n3 - j ∧ y = .int .i64 (j : Int) ∧ Hid (TxS w16 wr b q6 L6 s' acc ao j cp B) ∧ Hid (V → acc = R.txns.take j ∧ s' = (((R.txns.drop j).map prL).flatten ++ [], 0)))
              case atStart => exact ⟨0, [], s16, none, 0, L6.b5, by omega, by omega, rfl, hide (TxS.start T8.out HQ6.out.1 HQ6.out.2), fun hv => ⟨by simp, (HVN.out hv).2⟩⟩
              case round =>
                obtain ⟨j, acc, s', ao, cp, B, hj, hg, rfl, HM, HV⟩ := hrel
                have c2 := HM.out.xs.c2
                by_cases hc : j < n3 ∧ s'.2 = 0
                · have hj1 : (j : Int) < (n3 : Int) := by omega
                  have hx' : (s'.2 == 0) = true := by simpa using hc.2
                  have hjn : j < n3 := hc.1
                  clear hc
                  obtain ⟨⟨z1, s2⟩, h1⟩ : ∃ a, rN top s' = a := ⟨_, rfl⟩
                  obtain ⟨⟨z2, s3⟩, h2⟩ : ∃ a, rN top s2 = a := ⟨_, rfl⟩
                  have H2 := hide h2
                  have HD := hide (HM.out.more (Only.drew _ wr))
                  have q1 := xn_any wr.drew (b + 1) s' top HD.out.xs
                  rw [h1] at q1
                  have Q1 := hide q1
                  have HVn : Hid (V → acc ++ [(z1, z2)] = R.txns.take (j + 1) ∧ s3 = (((R.txns.drop (j + 1)).map prL).flatten ++ [], 0)) := by
                    intro hv
                    have hl : j < R.txns.length := by rw [← (HVN.out hv).1]; exact hjn
                    obtain ⟨v1, v2, v3⟩ := HVV.out hv
                    obtain ⟨e1, e2⟩ := pr_head R.txns v1.rng.txns hl (HV.out hv).2 h1 h2
                    refine ⟨?_, e2⟩
                    rw [← take_more R.txns j hl, ← e1, ← (HV.out hv).1]
                  clear h1 h2 q1
                  go_upto_region 35 with fail
                  clear c2
                  refine wp_region_noPanic ?_
                  refine wp_region_held_drew (S := fun _ => True) (by kernel_rfl) (trivial) (fun hHeld => ?_)
                  refine wpAnyH_take (i := 0) (oi := { dst := some 135, op := Op.fieldAddr 28 (Operand.tmp 5) 15, type := 0, pos := "ref.go:155", after := #[], guard := none }) (v := .pointer (some ⟨(b + 1 + 1), 15, none⟩)) rfl (by kernel_rfl) (by kernel_rfl) (by kernel_rfl) (fun _ _ _ h => h) (Or.inl ⟨by rfl, fun w' hSw => by clear hSw; go_simp⟩) (by assumption) ?_
                  simp only [Act.put, List.setIfInBounds_toArray, List.set_cons_zero, List.set_cons_succ]
                  refine wpAnyH_take (i := 2) (oi := { dst := some 137, op := Op.move (Operand.tmp 4), type := 72, pos := "ref.go:155", after := #[], guard := none }) (v := .pointer (some ⟨(b + 1), 0, none⟩)) rfl (by kernel_rfl) (by kernel_rfl) (by kernel_rfl) (fun _ _ _ h => h) (Or.inl ⟨by rfl, fun w' hSw => by clear hSw; go_simp⟩) (by assumption) ?_
                  simp only [Act.put, List.setIfInBounds_toArray, List.set_cons_zero, List.set_cons_succ]
                  refine wpAnyH_take (i := 4) (oi := { dst := some 139, op := Op.move (Operand.tmp 4), type := 72, pos := "ref.go:155", after := #[], guard := none }) (v := .pointer (some ⟨(b + 1), 0, none⟩)) rfl (by kernel_rfl) (by kernel_rfl) (by kernel_rfl) (fun _ _ _ h => h) (Or.inl ⟨by rfl, fun w' hSw => by clear hSw; go_simp⟩) (by assumption) ?_
                  simp only [Act.put, List.setIfInBounds_toArray, List.set_cons_zero, List.set_cons_succ]
                  refine wpAnyH_ready (rs := [1, 3]) (by kernel_rfl) (by simp) ?_
                  refine AllReadyH.cons (o := { dst := some 136, op := Op.load 26 (Operand.tmp 135), type := 26, pos := "ref.go:155", after := #[{ on := 0, ground := Ground.data }], guard := none }) rfl (fun K hK => ?_) (AllReadyH.cons (o := { dst := some 138, op := Op.call { callee := Callee.value (Operand.func 36), args := #[Operand.tmp 137, Operand.const (Value.int IntKind.i64 4611686018427387904)], argTypes := #[72, 3] }, type := 3, pos := "ref.go:155", after := #[{ on := 2, ground := Ground.data }], guard := none }) rfl (fun K hK => ?_) (AllReadyH.nil))
                  · have cL := HD.out.cell
                    go_simp
                    clear cL
                    refine hK.out _ _ (trivial) (fun hHeld => ?_)
                    clear hK K
                    try simp only [Act.put, List.setIfInBounds_toArray, List.set_cons_zero, List.set_cons_succ]
                    refine wpAnyH_ready (rs := [3]) (by kernel_rfl) (by simp) ?_
                    refine AllReadyH.cons (o := { dst := some 138, op := Op.call { callee := Callee.value (Operand.func 36), args := #[Operand.tmp 137, Operand.const (Value.int IntKind.i64 4611686018427387904)], argTypes := #[72, 3] }, type := 3, pos := "ref.go:155", after := #[{ on := 2, ground := Ground.data }], guard := none }) rfl (fun K hK => ?_) (AllReadyH.nil)
                    go_simp
                    refine Calls.mono Q1.out ?_
                    rintro e x1 ⟨rfl, hx, ho⟩
                    simp only at hx ⊢
                    have P1 := hide (HD.out.call hbg hx ho)
                    clear hx ho
                    refine hK.out _ _ (trivial) (fun hHeld => ?_)
                    clear hK K
                    try simp only [Act.put, List.setIfInBounds_toArray, List.set_cons_zero, List.set_cons_succ]
                    refine wpAnyH_ready (rs := [5]) (by kernel_rfl) (by simp) ?_
                    refine AllReadyH.cons (o := { dst := some 140, op := Op.call { callee := Callee.value (Operand.func 36), args := #[Operand.tmp 139, Operand.const (Value.int IntKind.i64 4611686018427387904)], argTypes := #[72, 3] }, type := 3, pos := "ref.go:155", after := #[{ on := 4, ground := Ground.data }, { on := 3, ground := Ground.chain }], guard := none }) rfl (fun K hK => ?_) (AllReadyH.nil)
                    go_simp
                    have q2 := xn_any x1 (b + 1) s2 top P1.out.xs
                    rw [H2.out] at q2
                    refine Calls.mono q2 ?_
                    clear q2
                    rintro e x2 ⟨rfl, hx, ho⟩
                    simp only at hx ⊢
                    have P2 := hide (P1.out.call hbg hx ho)
                    clear hx ho
                    refine hK.out _ _ (trivial) (fun hHeld => ?_)
                    clear hK K
                    try simp only [Act.put, List.setIfInBounds_toArray, List.set_cons_zero, List.set_cons_succ]
                    refine wpAnyH_take (i := 6) (oi := { dst := some 141, op := Op.build 52 #[(0, Operand.tmp 138), (1, Operand.tmp 140)], type := 52, pos := "ref.go:155", after := #[{ on := 3, ground := Ground.data }, { on := 5, ground := Ground.data }], guard := none }) (v := .agg #[.int .i64 z1, .int .i64 z2]) rfl (by kernel_rfl) (by kernel_rfl) (by kernel_rfl) (fun _ _ _ h => h) (Or.inl ⟨by rfl, fun w' hSw => by clear hSw; go_simp⟩) (by assumption) ?_
                    simp only [Act.put, List.setIfInBounds_toArray, List.set_cons_zero, List.set_cons_succ]
                    refine wpAnyH_ready (rs := [7]) (by kernel_rfl) (by simp) ?_
                    refine AllReadyH.cons (o := { dst := some 142, op := Op.buildSlice 26 1 #[(0, Operand.tmp 141)], type := 26, pos := "ref.go:155", after := #[{ on := 6, ground := Ground.data }], guard := none }) rfl (fun K hK => ?_) (AllReadyH.nil)
                    go_simp
                    obtain ⟨ao', cp', x4, hr4, hc4, hf4, hM4⟩ := P2.out.push hbg (by omega) (z1, z2) 26
                    have R4 := hide hr4
                    have M4 := hide hM4
                    have C4 := hide hc4
                    have F4 := hide hf4
                    clear hr4 hM4 hc4 hf4
                    refine hK.out _ _ (trivial) (fun hHeld => ?_)
                    clear hK K
                    try simp only [Act.put, List.setIfInBounds_toArray, List.set_cons_zero, List.set_cons_succ]
                    refine wpAnyH_ready (rs := [8]) (by kernel_rfl) (by simp) ?_
                    refine AllReadyH.cons (o := { dst := some 143, op := Op.call { callee := Callee.builtin Builtin.append, args := #[Operand.tmp 136, Operand.tmp 142], argTypes := #[26, 26] }, type := 26, pos := "ref.go:155", after := #[{ on := 1, ground := Ground.data }, { on := 7, ground := Ground.data }, { on := 5, ground := Ground.chain }], guard := none }) rfl (fun K hK => ?_) (AllReadyH.nil)
                    rw [if_pos (by rfl)]
                    refine Lib.wp_append_run _ (.tmp 136) (.tmp 142) _ _ rfl _ _ rfl rfl _ _ R4.out ?_
                    refine hK.out _ _ (trivial) (fun hHeld => ?_)
                    clear hK K
                    try simp only [Act.put, List.setIfInBounds_toArray, List.set_cons_zero, List.set_cons_succ]
                    refine wpAnyH_take (i := 9) (oi := { dst := some 144, op := Op.fieldAddr 28 (Operand.tmp 5) 15, type := 0, pos := "ref.go:155", after := #[{ on := 0, ground := Ground.phase }, { on := 1, ground := Ground.phase }, { on := 2, ground := Ground.phase }, { on := 3, ground := Ground.phase }, { on := 4, ground := Ground.phase }, { on := 5, ground := Ground.phase }, { on := 6, ground := Ground.phase }, { on := 7, ground := Ground.phase }, { on := 8, ground := Ground.phase }], guard := none }) (v := .pointer (some ⟨(b + 1 + 1), 15, none⟩)) rfl (by kernel_rfl) (by kernel_rfl) (by kernel_rfl) (fun _ _ _ h => h) (Or.inl ⟨by rfl, fun w' hSw => by clear hSw; go_simp⟩) (by assumption) ?_
                    simp only [Act.put, List.setIfInBounds_toArray, List.set_cons_zero, List.set_cons_succ]
                    refine wpAnyH_ready (rs := [10]) (by kernel_rfl) (by simp) ?_
                    refine AllReadyH.cons (o := { dst := none, op := Op.store 26 (Operand.tmp 144) (Operand.tmp 143), type := 0, pos := "ref.go:155", after := #[{ on := 9, ground := Ground.data }, { on := 8, ground := Ground.data }, { on := 8, ground := Ground.chain }, { on := 0, ground := Ground.phase }, { on := 1, ground := Ground.phase }, { on := 2, ground := Ground.phase }, { on := 3, ground := Ground.phase }, { on := 4, ground := Ground.phase }, { on := 5, ground := Ground.phase }, { on := 6, ground := Ground.phase }, { on := 7, ground := Ground.phase }, { on := 8, ground := Ground.phase }], guard := none }) rfl (fun K hK => ?_) (AllReadyH.nil)
                    have c4 := C4.out
                    have f4 := F4.out
                    go_simp
                    clear c4 f4
                    refine hK.out _ _ (trivial) (fun hHeld => ?_)
                    clear hK K
                    try simp only [Act.put, List.setIfInBounds_toArray, List.set_cons_zero, List.set_cons_succ]
                    refine wpAnyH_done (by kernel_rfl) ?_ _
                    refine NoPanic.normal ?_
                    go_wp2_with fail
                    go_roundg (n3 - (j + 1))
                    case measure => omega
                    case rel => exact ⟨j + 1, acc ++ [(z1, z2)], s3, ao', cp', B, by omega, by omega, by go_num, M4, HVn⟩
                  · go_simp
                    refine Calls.mono Q1.out ?_
                    rintro e x1 ⟨rfl, hx, ho⟩
                    simp only at hx ⊢
                    have P1 := hide (HD.out.call hbg hx ho)
                    clear hx ho
                    refine hK.out _ _ (trivial) (fun hHeld => ?_)
                    clear hK K
                    try simp only [Act.put, List.setIfInBounds_toArray, List.set_cons_zero, List.set_cons_succ]
                    refine wpAnyH_ready (rs := [1, 5]) (by kernel_rfl) (by simp) ?_
                    refine AllReadyH.cons (o := { dst := some 136, op := Op.load 26 (Operand.tmp 135), type := 26, pos := "ref.go:155", after := #[{ on := 0, ground := Ground.data }], guard := none }) rfl (fun K hK => ?_) (AllReadyH.cons (o := { dst := some 140, op := Op.call { callee := Callee.value (Operand.func 36), args := #[Operand.tmp 139, Operand.const (Value.int IntKind.i64 4611686018427387904)], argTypes := #[72, 3] }, type := 3, pos := "ref.go:155", after := #[{ on := 4, ground := Ground.data }, { on := 3, ground := Ground.chain }], guard := none }) rfl (fun K hK => ?_) (AllReadyH.nil))
                    · have cL := P1.out.cell
                      go_simp
                      clear cL
                      refine hK.out _ _ (trivial) (fun hHeld => ?_)
                      clear hK K
                      try simp only [Act.put, List.setIfInBounds_toArray, List.set_cons_zero, List.set_cons_succ]
                      refine wpAnyH_ready (rs := [5]) (by kernel_rfl) (by simp) ?_
                      refine AllReadyH.cons (o := { dst := some 140, op := Op.call { callee := Callee.value (Operand.func 36), args := #[Operand.tmp 139, Operand.const (Value.int IntKind.i64 4611686018427387904)], argTypes := #[72, 3] }, type := 3, pos := "ref.go:155", after := #[{ on := 4, ground := Ground.data }, { on := 3, ground := Ground.chain }], guard := none }) rfl (fun K hK => ?_) (AllReadyH.nil)
                      go_simp
                      have q2 := xn_any x1 (b + 1) s2 top P1.out.xs
                      rw [H2.out] at q2
                      refine Calls.mono q2 ?_
                      clear q2
                      rintro e x2 ⟨rfl, hx, ho⟩
                      simp only at hx ⊢
                      have P2 := hide (P1.out.call hbg hx ho)
                      clear hx ho
                      refine hK.out _ _ (trivial) (fun hHeld => ?_)
                      clear hK K
                      try simp only [Act.put, List.setIfInBounds_toArray, List.set_cons_zero, List.set_cons_succ]
                      refine wpAnyH_take (i := 6) (oi := { dst := some 141, op := Op.build 52 #[(0, Operand.tmp 138), (1, Operand.tmp 140)], type := 52, pos := "ref.go:155", after := #[{ on := 3, ground := Ground.data }, { on := 5, ground := Ground.data }], guard := none }) (v := .agg #[.int .i64 z1, .int .i64 z2]) rfl (by kernel_rfl) (by kernel_rfl) (by kernel_rfl) (fun _ _ _ h => h) (Or.inl ⟨by rfl, fun w' hSw => by clear hSw; go_simp⟩) (by assumption) ?_
                      simp only [Act.put, List.setIfInBounds_toArray, List.set_cons_zero, List.set_cons_succ]
                      refine wpAnyH_ready (rs := [7]) (by kernel_rfl) (by simp) ?_
                      refine AllReadyH.cons (o := { dst := some 142, op := Op.buildSlice 26 1 #[(0, Operand.tmp 141)], type := 26, pos := "ref.go:155", after := #[{ on := 6, ground := Ground.data }], guard := none }) rfl (fun K hK => ?_) (AllReadyH.nil)
                      go_simp
                      obtain ⟨ao', cp', x4, hr4, hc4, hf4, hM4⟩ := P2.out.push hbg (by omega) (z1, z2) 26
                      have R4 := hide hr4
                      have M4 := hide hM4
                      have C4 := hide hc4
                      have F4 := hide hf4
                      clear hr4 hM4 hc4 hf4
                      refine hK.out _ _ (trivial) (fun hHeld => ?_)
                      clear hK K
                      try simp only [Act.put, List.setIfInBounds_toArray, List.set_cons_zero, List.set_cons_succ]
                      refine wpAnyH_ready (rs := [8]) (by kernel_rfl) (by simp) ?_
                      refine AllReadyH.cons (o := { dst := some 143, op := Op.call { callee := Callee.builtin Builtin.append, args := #[Operand.tmp 136, Operand.tmp 142], argTypes := #[26, 26] }, type := 26, pos := "ref.go:155", after := #[{ on := 1, ground := Ground.data }, { on := 7, ground := Ground.data }, { on := 5, ground := Ground.chain }], guard := none }) rfl (fun K hK => ?_) (AllReadyH.nil)
                      rw [if_pos (by rfl)]
                      refine Lib.wp_append_run _ (.tmp 136) (.tmp 142) _ _ rfl _ _ rfl rfl _ _ R4.out ?_
                      refine hK.out _ _ (trivial) (fun hHeld => ?_)
                      clear hK K
                      try simp only [Act.put, List.setIfInBounds_toArray, List.set_cons_zero, List.set_cons_succ]
                      refine wpAnyH_take (i := 9) (oi := { dst := some 144, op := Op.fieldAddr 28 (Operand.tmp 5) 15, type := 0, pos := "ref.go:155", after := #[{ on := 0, ground := Ground.phase }, { on := 1, ground := Ground.phase }, { on := 2, ground := Ground.phase }, { on := 3, ground := Ground.phase }, { on := 4, ground := Ground.phase }, { on := 5, ground := Ground.phase }, { on := 6, ground := Ground.phase }, { on := 7, ground := Ground.phase }, { on := 8, ground := Ground.phase }], guard := none }) (v := .pointer (some ⟨(b + 1 + 1), 15, none⟩)) rfl (by kernel_rfl) (by kernel_rfl) (by kernel_rfl) (fun _ _ _ h => h) (Or.inl ⟨by rfl, fun w' hSw => by clear hSw; go_simp⟩) (by assumption) ?_
                      simp only [Act.put, List.setIfInBounds_toArray, List.set_cons_zero, List.set_cons_succ]
                      refine wpAnyH_ready (rs := [10]) (by kernel_rfl) (by simp) ?_
                      refine AllReadyH.cons (o := { dst := none, op := Op.store 26 (Operand.tmp 144) (Operand.tmp 143), type := 0, pos := "ref.go:155", after := #[{ on := 9, ground := Ground.data }, { on := 8, ground := Ground.data }, { on := 8, ground := Ground.chain }, { on := 0, ground := Ground.phase }, { on := 1, ground := Ground.phase }, { on := 2, ground := Ground.phase }, { on := 3, ground := Ground.phase }, { on := 4, ground := Ground.phase }, { on := 5, ground := Ground.phase }, { on := 6, ground := Ground.phase }, { on := 7, ground := Ground.phase }, { on := 8, ground := Ground.phase }], guard := none }) rfl (fun K hK => ?_) (AllReadyH.nil)
                      have c4 := C4.out
                      have f4 := F4.out
                      go_simp
                      clear c4 f4
                      refine hK.out _ _ (trivial) (fun hHeld => ?_)
                      clear hK K
                      try simp only [Act.put, List.setIfInBounds_toArray, List.set_cons_zero, List.set_cons_succ]
                      refine wpAnyH_done (by kernel_rfl) ?_ _
                      refine NoPanic.normal ?_
                      go_wp2_with fail
                      go_roundg (n3 - (j + 1))
                      case measure => omega
                      case rel => exact ⟨j + 1, acc ++ [(z1, z2)], s3, ao', cp', B, by omega, by omega, by go_num, M4, HVn⟩
                    · go_simp
                      have q2 := xn_any x1 (b + 1) s2 top P1.out.xs
                      rw [H2.out] at q2
                      refine Calls.mono q2 ?_
                      clear q2
                      rintro e x2 ⟨rfl, hx, ho⟩
                      simp only at hx ⊢
                      have P2 := hide (P1.out.call hbg hx ho)
                      clear hx ho
                      refine hK.out _ _ (trivial) (fun hHeld => ?_)
                      clear hK K
                      try simp only [Act.put, List.setIfInBounds_toArray, List.set_cons_zero, List.set_cons_succ]
                      refine wpAnyH_take (i := 6) (oi := { dst := some 141, op := Op.build 52 #[(0, Operand.tmp 138), (1, Operand.tmp 140)], type := 52, pos := "ref.go:155", after := #[{ on := 3, ground := Ground.data }, { on := 5, ground := Ground.data }], guard := none }) (v := .agg #[.int .i64 z1, .int .i64 z2]) rfl (by kernel_rfl) (by kernel_rfl) (by kernel_rfl) (fun _ _ _ h => h) (Or.inl ⟨by rfl, fun w' hSw => by clear hSw; go_simp⟩) (by assumption) ?_
                      simp only [Act.put, List.setIfInBounds_toArray, List.set_cons_zero, List.set_cons_succ]
                      refine wpAnyH_ready (rs := [1, 7]) (by kernel_rfl) (by simp) ?_
                      refine AllReadyH.cons (o := { dst := some 136, op := Op.load 26 (Operand.tmp 135), type := 26, pos := "ref.go:155", after := #[{ on := 0, ground := Ground.data }], guard := none }) rfl (fun K hK => ?_) (AllReadyH.cons (o := { dst := some 142, op := Op.buildSlice 26 1 #[(0, Operand.tmp 141)], type := 26, pos := "ref.go:155", after := #[{ on := 6, ground := Ground.data }], guard := none }) rfl (fun K hK => ?_) (AllReadyH.nil))
                      · have cL := P2.out.cell
                        go_simp
                        clear cL
                        refine hK.out _ _ (trivial) (fun hHeld => ?_)
                        clear hK K
                        try simp only [Act.put, List.setIfInBounds_toArray, List.set_cons_zero, List.set_cons_succ]
                        refine wpAnyH_ready (rs := [7]) (by kernel_rfl) (by simp) ?_
                        refine AllReadyH.cons (o := { dst := some 142, op := Op.buildSlice 26 1 #[(0, Operand.tmp 141)], type := 26, pos := "ref.go:155", after := #[{ on := 6, ground := Ground.data }], guard := none }) rfl (fun K hK => ?_) (AllReadyH.nil)
                        go_simp
                        obtain ⟨ao', cp', x4, hr4, hc4, hf4, hM4⟩ := P2.out.push hbg (by omega) (z1, z2) 26
                        have R4 := hide hr4
                        have M4 := hide hM4
                        have C4 := hide hc4
                        have F4 := hide hf4
                        clear hr4 hM4 hc4 hf4
                        refine hK.out _ _ (trivial) (fun hHeld => ?_)
                        clear hK K
                        try simp only [Act.put, List.setIfInBounds_toArray, List.set_cons_zero, List.set_cons_succ]
                        refine wpAnyH_ready (rs := [8]) (by kernel_rfl) (by simp) ?_
                        refine AllReadyH.cons (o := { dst := some 143, op := Op.call { callee := Callee.builtin Builtin.append, args := #[Operand.tmp 136, Operand.tmp 142], argTypes := #[26, 26] }, type := 26, pos := "ref.go:155", after := #[{ on := 1, ground := Ground.data }, { on := 7, ground := Ground.data }, { on := 5, ground := Ground.chain }], guard := none }) rfl (fun K hK => ?_) (AllReadyH.nil)
                        rw [if_pos (by rfl)]
                        refine Lib.wp_append_run _ (.tmp 136) (.tmp 142) _ _ rfl _ _ rfl rfl _ _ R4.out ?_
                        refine hK.out _ _ (trivial) (fun hHeld => ?_)
                        clear hK K
                        try simp only [Act.put, List.setIfInBounds_toArray, List.set_cons_zero, List.set_cons_succ]
                        refine wpAnyH_take (i := 9) (oi := { dst := some 144, op := Op.fieldAddr 28 (Operand.tmp 5) 15, type := 0, pos := "ref.go:155", after := #[{ on := 0, ground := Ground.phase }, { on := 1, ground := Ground.phase }, { on := 2, ground := Ground.phase }, { on := 3, ground := Ground.phase }, { on := 4, ground := Ground.phase }, { on := 5, ground := Ground.phase }, { on := 6, ground := Ground.phase }, { on := 7, ground := Ground.phase }, { on := 8, ground := Ground.phase }], guard := none }) (v := .pointer (some ⟨(b + 1 + 1), 15, none⟩)) rfl (by kernel_rfl) (by kernel_rfl) (by kernel_rfl) (fun _ _ _ h => h) (Or.inl ⟨by rfl, fun w' hSw => by clear hSw; go_simp⟩) (by assumption) ?_
                        simp only [Act.put, List.setIfInBounds_toArray, List.set_cons_zero, List.set_cons_succ]
                        refine wpAnyH_ready (rs := [10]) (by kernel_rfl) (by simp) ?_
                        refine AllReadyH.cons (o := { dst := none, op := Op.store 26 (Operand.tmp 144) (Operand.tmp 143), type := 0, pos := "ref.go:155", after := #[{ on := 9, ground := Ground.data }, { on := 8, ground := Ground.data }, { on := 8, ground := Ground.chain }, { on := 0, ground := Ground.phase }, { on := 1, ground := Ground.phase }, { on := 2, ground := Ground.phase }, { on := 3, ground := Ground.phase }, { on := 4, ground := Ground.phase }, { on := 5, ground := Ground.phase }, { on := 6, ground := Ground.phase }, { on := 7, ground := Ground.phase }, { on := 8, ground := Ground.phase }], guard := none }) rfl (fun K hK => ?_) (AllReadyH.nil)
                        have c4 := C4.out
                        have f4 := F4.out
                        go_simp
                        clear c4 f4
                        refine hK.out _ _ (trivial) (fun hHeld => ?_)
                        clear hK K
                        try simp only [Act.put, List.setIfInBounds_toArray, List.set_cons_zero, List.set_cons_succ]
                        refine wpAnyH_done (by kernel_rfl) ?_ _
                        refine NoPanic.normal ?_
                        go_wp2_with fail
                        go_roundg (n3 - (j + 1))
                        case measure => omega
                        case rel => exact ⟨j + 1, acc ++ [(z1, z2)], s3, ao', cp', B, by omega, by omega, by go_num, M4, HVn⟩
                      · go_simp
                        obtain ⟨ao', cp', x4, hr4, hc4, hf4, hM4⟩ := P2.out.push hbg (by omega) (z1, z2) 26
                        have R4 := hide hr4
                        have M4 := hide hM4
                        have C4 := hide hc4
                        have F4 := hide hf4
                        clear hr4 hM4 hc4 hf4
                        refine hK.out _ _ (trivial) (fun hHeld => ?_)
                        clear hK K
                        try simp only [Act.put, List.setIfInBounds_toArray, List.set_cons_zero, List.set_cons_succ]
                        refine wpAnyH_ready (rs := [1]) (by kernel_rfl) (by simp) ?_
                        refine AllReadyH.cons (o := { dst := some 136, op := Op.load 26 (Operand.tmp 135), type := 26, pos := "ref.go:155", after := #[{ on := 0, ground := Ground.data }], guard := none }) rfl (fun K hK => ?_) (AllReadyH.nil)
                        have cL := (P2.out.more (onlyA x2 (.cells #[.int .i64 z1, .int .i64 z2] 52))).cell
                        go_simp
                        clear cL
                        refine hK.out _ _ (trivial) (fun hHeld => ?_)
                        clear hK K
                        try simp only [Act.put, List.setIfInBounds_toArray, List.set_cons_zero, List.set_cons_succ]
                        refine wpAnyH_ready (rs := [8]) (by kernel_rfl) (by simp) ?_
                        refine AllReadyH.cons (o := { dst := some 143, op := Op.call { callee := Callee.builtin Builtin.append, args := #[Operand.tmp 136, Operand.tmp 142], argTypes := #[26, 26] }, type := 26, pos := "ref.go:155", after := #[{ on := 1, ground := Ground.data }, { on := 7, ground := Ground.data }, { on := 5, ground := Ground.chain }], guard := none }) rfl (fun K hK => ?_) (AllReadyH.nil)
                        rw [if_pos (by rfl)]
                        refine Lib.wp_append_run _ (.tmp 136) (.tmp 142) _ _ rfl _ _ rfl rfl _ _ R4.out ?_
                        refine hK.out _ _ (trivial) (fun hHeld => ?_)
                        clear hK K
                        try simp only [Act.put, List.setIfInBounds_toArray, List.set_cons_zero, List.set_cons_succ]
                        refine wpAnyH_take (i := 9) (oi := { dst := some 144, op := Op.fieldAddr 28 (Operand.tmp 5) 15, type := 0, pos := "ref.go:155", after := #[{ on := 0, ground := Ground.phase }, { on := 1, ground := Ground.phase }, { on := 2, ground := Ground.phase }, { on := 3, ground := Ground.phase }, { on := 4, ground := Ground.phase }, { on := 5, ground := Ground.phase }, { on := 6, ground := Ground.phase }, { on := 7, ground := Ground.phase }, { on := 8, ground := Ground.phase }], guard := none }) (v := .pointer (some ⟨(b + 1 + 1), 15, none⟩)) rfl (by kernel_rfl) (by kernel_rfl) (by kernel_rfl) (fun _ _ _ h => h) (Or.inl ⟨by rfl, fun w' hSw => by clear hSw; go_simp⟩) (by assumption) ?_
                        simp only [Act.put, List.setIfInBounds_toArray, List.set_cons_zero, List.set_cons_succ]
                        refine wpAnyH_ready (rs := [10]) (by kernel_rfl) (by simp) ?_
                        refine AllReadyH.cons (o := { dst := none, op := Op.store 26 (Operand.tmp 144) (Operand.tmp 143), type := 0, pos := "ref.go:155", after := #[{ on := 9, ground := Ground.data }, { on := 8, ground := Ground.data }, { on := 8, ground := Ground.chain }, { on := 0, ground := Ground.phase }, { on := 1, ground := Ground.phase }, { on := 2, ground := Ground.phase }, { on := 3, ground := Ground.phase }, { on := 4, ground := Ground.phase }, { on := 5, ground := Ground.phase }, { on := 6, ground := Ground.phase }, { on := 7, ground := Ground.phase }, { on := 8, ground := Ground.phase }], guard := none }) rfl (fun K hK => ?_) (AllReadyH.nil)
                        have c4 := C4.out
                        have f4 := F4.out
                        go_simp
                        clear c4 f4
                        refine hK.out _ _ (trivial) (fun hHeld => ?_)
                        clear hK K
                        try simp only [Act.put, List.setIfInBounds_toArray, List.set_cons_zero, List.set_cons_succ]
                        refine wpAnyH_done (by kernel_rfl) ?_ _
                        refine NoPanic.normal ?_
                        go_wp2_with fail
                        go_roundg (n3 - (j + 1))
                        case measure => omega
                        case rel => exact ⟨j + 1, acc ++ [(z1, z2)], s3, ao', cp', B, by omega, by omega, by go_num, M4, HVn⟩
                · go_upto_region 33 with fail
                  go_cut [132] (fun tt wx => tt = .bool false ∧ wx = wr)
                  case first =>
                    by_cases hjn : j < n3
                    · have hj1 : (j : Int) < (n3 : Int) := by omega
                      have hx' : (s'.2 == 0) = false := by simpa using (fun e => hc ⟨hjn, e⟩)
                      go_wp2_with fail
                      go_meet
                      exact ⟨rfl, rfl⟩
                    · have hj1 : ¬ (j : Int) < (n3 : Int) := by omega
                      go_wp2_with fail
                      go_meet
                      exact ⟨rfl, rfl⟩
                  case rest =>
                    obtain ⟨rfl, hwx⟩ := hcut
                    obtain rfl := hwx.symm
                    clear c2
                    have HVE : Hid (V → acc = R.txns ∧ s' = ([], 0)) := by
                      intro hv
                      obtain ⟨e1, e2⟩ := HV.out hv
                      have e3 := (HVN.out hv).1
                      have e4 : j = R.txns.length := by
                        have h0 : s'.2 = 0 := by rw [e2]
                        have : ¬ j < n3 := fun h => hc ⟨h, h0⟩
                        omega
                      rw [e4] at e1 e2
                      exact ⟨by rw [e1, List.take_length], by rw [e2, List.drop_length]; rfl⟩
                    obtain ⟨Bx, hT⟩ := TxS.done T8.out HM.out (by omega)
                    have HVQ7 : Hid (V → ({ q6 with txns := acc } : Rc) = R ∧ s' = ([], 0)) := by
                      intro hv
                      rw [(HVQ6.out hv).1, (HVE.out hv).1]
                      exact ⟨rfl, (HVE.out hv).2⟩
                    obtain ⟨q7, hq7⟩ : ∃ q : Rc, ({ q6 with txns := acc } : Rc) = q := ⟨_, rfl⟩
                    obtain ⟨L7, hL7⟩ : ∃ q : Loc, ({ L6 with a5 := ao, c5 := cp, b5 := Bx } : Loc) = q := ⟨_, rfl⟩
                    rw [hq7, hL7] at hT
                    rw [hq7] at HVQ7
                    have T9 := hide hT
                    clear hT hq7 hL7 HVE HM HV HQ6 HVQ6 HVN T8 hc hbg
                    have HRG : Hid (∀ W, Only (fun k => k = b) wr W → W.rangeAt (b + 1 + 1) 0 (q7.cl L7)) := fun W hW => (T9.out.fb.kept hW (by omega)).bx.range
                    have HTR : Hid (∀ W, Only (fun _ => False) wr W → W.there b 0 16) := fun W hW => (T9.out.res.kept hW (fun h => h)).there
                    have HXD := hide (T9.out.xs.kept (Only.drew (fun _ => False) wr) (fun h => h))
                    have QE := hide (xe_any wr.drew (b + 1) s' HXD.out)
                    go_upto_region 36 with fail
                    refine wp_region_noPanic ?_
                    refine wp_region_held_drew (S := fun W => Only (fun k => k = b) wr W) (by kernel_rfl) (Only.drew _ _) (fun hHeld => ?_)
                    refine wpAnyH_take (i := 0) (oi := { dst := some 145, op := Op.load 28 (Operand.tmp 5), type := 28, pos := "ref.go:157", after := #[], guard := none }) (v := .agg (q7.cells L7)) rfl (by kernel_rfl) (by kernel_rfl) (by kernel_rfl) (fun _ _ _ h => h) (yieldsIf_load_mid (by rfl) 28 _ rfl _ _ rfl (q7.cl L7) _ (fun W hW => HRG.out W hW) Tryz.underlying28 rfl Tryz.sizeRec) (by assumption) ?_
                    simp only [Act.put, List.setIfInBounds_toArray, List.set_cons_zero, List.set_cons_succ]
                    refine wpAnyH_take (i := 1) (oi := { dst := some 146, op := Op.move (Operand.tmp 4), type := 72, pos := "ref.go:157", after := #[], guard := none }) (v := .pointer (some ⟨(b + 1), 0, none⟩)) rfl (by kernel_rfl) (by kernel_rfl) (by kernel_rfl) (fun _ _ _ h => h) (Or.inl ⟨by rfl, fun w' hSw => by clear hSw; go_simp⟩) (by assumption) ?_
                    simp only [Act.put, List.setIfInBounds_toArray, List.set_cons_zero, List.set_cons_succ]
                    refine wpAnyH_ready (rs := [2]) (by kernel_rfl) (by simp) ?_
                    refine AllReadyH.cons (o := { dst := some 147, op := Op.call { callee := Callee.value (Operand.func 40), args := #[Operand.tmp 146], argTypes := #[72] }, type := 29, pos := "ref.go:157", after := #[{ on := 1, ground := Ground.data }], guard := none }) rfl (fun K hK => ?_) (AllReadyH.nil)
                    go_simp
                    refine Calls.mono QE.out ?_
                    rintro e x1 ⟨⟨c, rfl, hce⟩, ho⟩
                    simp only
                    have HCE := hide hce
                    have OE := hide ((Only.drew (fun _ => False) wr).trans ho (fun _ _ h => h))
                    clear hce ho
                    refine hK.out _ _ (OE.out.mono (fun _ _ h => h.elim)) (fun hHeld => ?_)
                    clear hK K
                    try simp only [Act.put, List.setIfInBounds_toArray, List.set_cons_zero, List.set_cons_succ]
                    refine wpAnyH_take (i := 3) (oi := { dst := some 148, op := Op.binOp BinOp.eql 29 (Operand.tmp 147) (Operand.const (Value.int IntKind.i64 0)) 29, type := 4, pos := "ref.go:157", after := #[{ on := 2, ground := Ground.data }, { on := 4, ground := Ground.gcOnly Departure.lateStores }], guard := none }) (v := .bool (c == 0)) rfl (by kernel_rfl) (by kernel_rfl) (by kernel_rfl) (fun _ _ _ h => h) (Or.inl ⟨by rfl, fun w' hSw => by clear hSw; go_simp⟩) (by assumption) ?_
                    simp only [Act.put, List.setIfInBounds_toArray, List.set_cons_zero, List.set_cons_succ]
                    refine wpAnyH_ready (rs := [4]) (by kernel_rfl) (by simp) ?_
                    refine AllReadyH.cons (o := { dst := none, op := Op.store 28 (Operand.tmp 2) (Operand.tmp 145), type := 0, pos := "ref.go:157", after := #[{ on := 0, ground := Ground.data }, { on := 2, ground := Ground.chain }, { on := 0, ground := Ground.phase }, { on := 1, ground := Ground.textOnly Departure.lateStores }, { on := 2, ground := Ground.textOnly Departure.lateStoresUnsure }, { on := 3, ground := Ground.textOnly Departure.lateStores }], guard := none }) rfl (fun K hK => ?_) (AllReadyH.nil)
                    rw [if_pos (by rfl)]
                    refine wp_store_mid 28 (.tmp 2) (.tmp 145) rfl b 0 (q7.cells L7) rfl rfl (HTR.out _ OE.out) Tryz.sizeRec (by simp [Value.oneCell']) ?_
                    refine hK.out _ _ ((OE.out.mono (fun _ _ h => h.elim)).trans (only_setCells b (q7.cl L7) 0 x1) (fun _ _ h => h)) (fun hHeld => ?_)
                    clear hK K
                    simp only [Act.put]
                    refine wpAnyH_take (i := 5) (oi := { dst := some 3, op := Op.assign (Operand.tmp 148), type := 4, pos := "ref.go:157", after := #[{ on := 3, ground := Ground.data }, { on := 4, ground := Ground.chain }, { on := 0, ground := Ground.phase }, { on := 1, ground := Ground.phase }, { on := 2, ground := Ground.phase }, { on := 3, ground := Ground.phase }, { on := 4, ground := Ground.phase }], guard := none }) (v := .bool (c == 0)) rfl (by kernel_rfl) (by kernel_rfl) (by kernel_rfl) (fun _ _ _ h => h) (Or.inl ⟨by rfl, fun w' hSw => by clear hSw; go_simp⟩) (by assumption) ?_
                    simp only [Act.put, List.setIfInBounds_toArray, List.set_cons_zero, List.set_cons_succ]
                    refine wpAnyH_done (by kernel_rfl) ?_ _
                    refine NoPanic.normal ?_
                    have hld := load_set_rec x1 b q7 L7 (HTR.out _ OE.out)
                    have hsc := (OE.out.mono (T := fun k => k = b) (fun _ _ h => h.elim)).trans (only_setCells b (q7.cl L7) 0 x1) (fun _ _ h => h)
                    obtain ⟨W99, hW9⟩ : ∃ W, x1.setCells b 0 (q7.cl L7) = W := ⟨_, rfl⟩
                    rw [hW9] at hld hsc
                    rw [show x1.setCells b 0 (q7.cells L7).toList = W99 from hW9]
                    have HLD := hide hld
                    have HSC := hide hsc
                    clear hld hsc hW9
                    go_step
                    go_step
                    go_step
                    refine bodyPost_ret (results_rec rfl rfl HLD.out) rfl ?_
                    exact ⟨⟨q7, L7, (c == 0), rfl, ((T9.out.lst.kept HSC.out (fun k hk _ e => by omega)).lower (by omega)), fun hv => ⟨HCE.out.2 (HVQ7.out hv).2, (HVQ7.out hv).1⟩, T9.out.lst.images.lsn⟩, T9.out.only.trans HSC.out (fun i hi e => by omega)⟩
end Go.Proofs.YtfjmidcldjfckaaGreatDoor
