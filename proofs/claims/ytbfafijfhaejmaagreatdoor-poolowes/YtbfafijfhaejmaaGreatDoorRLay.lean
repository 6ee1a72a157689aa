/- What lay does. -/
import Derived.Test.YtbfafijfhaejmaaGreatDoorRLayA
namespace Go.Proofs.YtbfafijfhaejmaaGreatDoor
open Go.RowKit

set_option maxRecDepth 100000 in
set_option maxHeartbeats 1600000 in
theorem lay_any (w : World) (r : Rc) (L : Loc) (h : RcAt w r L) (k0 : 1 ≤ r.kind) (k1 : r.kind ≤ 13) (hr : r.inRange) (hs : r.short) (he : imErr r.images = 0) (Bt ct : Nat) (at' : Option Addr) (ht : Strs w Bt at' (bares r.images)) :
    Calls Tryz.prog 130 #[.agg (r.cells L), .slice at' r.images.length ct] w fun e w' => e = .returned (.string (str r.lay)) ∧ Only (fun _ => False) w w' := by
  have HR := hide h
  have HT := hide ht
  have HRG := hide hr
  have HE := hide he
  have HOX := hide (onlyA w (.cells (r.cells L) 59))
  have HB := hide (Bx.new w r L)
  obtain ⟨W0, hW0⟩ : ∃ W0, w.alloc (.cells (r.cells L) 59) = W0 := ⟨_, rfl⟩
  rw [hW0] at HOX HB
  have HW0 := hide hW0
  have HZ0 : Hid (W0.heap.size = w.heap.size + 1) := by unfold Hid; rw [← hW0]; simp
  have HR0 := hide (HR.out.go HOX.out)
  obtain ⟨T, hims⟩ := HR0.out.images
  have HI := hide hims
  obtain ⟨s1, s2, s3, s4, s5, s6⟩ := hs
  have hten := hr.ten
  simp only [List.mem_cons, List.not_mem_nil, or_false, forall_eq_or_imp, forall_eq] at hten
  obtain ⟨t0, t1, t2, t3, t4, t5, t6, t7, t8⟩ := hten
  have H10 : Hid (∀ z ∈ [r.lsn, r.prev, r.next, r.kind, r.xid, r.page, r.slot, r.old, r.new, r.redo], z ≤ top) := by
    intro z hz
    simp only [List.mem_cons, List.not_mem_nil, or_false] at hz
    rcases hz with rfl | rfl | rfl | rfl | rfl | rfl | rfl | rfl | rfl | rfl
    · exact t0.2
    · exact t1.2
    · exact t2.2
    · unfold top; omega
    · exact t4.2
    · exact t5.2
    · exact t6.2
    · exact t7.2
    · exact t8.2
    · exact t3.2
  have hk : wrap64 r.kind = r.kind := w64_id _ (by omega)
  clear h ht hr he hW0 hims t0 t1 t2 t3 t4 t5 t6 t7 t8
  go_enter Tryz.func130, Tryz.ntmps130
  go_wp2_with fail
  rw [HW0.out]
  refine (new_any W0).mono ?_
  rintro e w1 ⟨rfl, hw1⟩
  have HL1 := hide (Lw.new W0)
  rw [← hw1] at HL1
  have HB1 := hide (HB.out.more HL1.out.only)
  clear hw1
  rw [HZ0.out] at HL1 ⊢
  obtain ⟨B, hBe⟩ : ∃ B, w.heap.size + 1 = B := ⟨_, rfl⟩
  rw [hBe] at HL1 ⊢
  clear hBe
  obtain ⟨b0, b1, b2, b3, b4, b5, b6, b7, b8, b9, _, _, _, _, _, _, _⟩ := HB1.out
  go_wp2_with fail
  refine (lw_ten W0 w1 B HL1.out _ _ _ _ _ _ _ _ _ _ H10.out).mono ?_
  rintro e w2 ⟨rfl, hl2⟩
  obtain ⟨l2, e2⟩ : ∃ l2, nums [r.lsn, r.prev, r.next, r.kind, r.xid, r.page, r.slot, r.old, r.new, r.redo] = l2 := ⟨_, rfl⟩
  rw [e2] at hl2
  have E2 := hide e2
  have HL2 := hide hl2
  have c2 := (HB.out.more hl2.only).c10
  clear hl2 e2 b0 b1 b2 b3 b4 b5 b6 b7 b8 b9
  go_wp2_with fail
  refine (lw_text W0 w2 B _ _ HL2.out r.data s1 (by omega)).mono ?_
  rintro e w3 ⟨rfl, hl3⟩
  obtain ⟨l3, e3⟩ : ∃ l3, l2 ++ textL r.data = l3 := ⟨_, rfl⟩
  rw [e3] at hl3
  have E3 := hide e3
  have HL3 := hide hl3
  have c3 := (HB.out.more hl3.only).c11
  clear hl3 e3 c2
  go_wp2_with fail
  refine (lw_one W0 w3 B _ _ HL3.out (r.slots.length : Int) (by unfold top; omega) (by omega)).mono ?_
  rintro e w4 ⟨rfl, hl4⟩
  rw [Int.toNat_natCast] at hl4
  obtain ⟨l4, e4⟩ : ∃ l4, l3 ++ sev r.slots.length = l4 := ⟨_, rfl⟩
  rw [e4] at hl4
  have E4 := hide e4
  have HL4 := hide hl4
  have c4 := (HB.out.more hl4.only).c11
  clear hl4 e4 c3
  go_wp2_with fail
  refine (lw_old W0 w4 B _ _ HL4.out L.b1 L.c1 L.a1 r.slots HR0.out.slots (fun z hz => (HRG.out.slots z hz).2) (by omega)).mono ?_
  rintro e w5 ⟨rfl, hl5⟩
  obtain ⟨l5, e5⟩ : ∃ l5, l4 ++ nums r.slots = l5 := ⟨_, rfl⟩
  rw [e5] at hl5
  have E5 := hide e5
  have HL5 := hide (hl5.le (N' := 4000) (by omega))
  have c5 := (HB.out.more hl5.only).c12
  clear hl5 e5 c4
  go_wp2_with fail
  refine (lw_one W0 w5 B _ _ HL5.out (r.more.length : Int) (by unfold top; omega) (by omega)).mono ?_
  rintro e w6 ⟨rfl, hl6⟩
  rw [Int.toNat_natCast] at hl6
  obtain ⟨l6, e6⟩ : ∃ l6, l5 ++ sev r.more.length = l6 := ⟨_, rfl⟩
  rw [e6] at hl6
  have E6 := hide e6
  have HL6 := hide hl6
  have c6 := (HB.out.more hl6.only).c12
  clear hl6 e6 c5
  go_wp2_with fail
  refine (lw_old W0 w6 B _ _ HL6.out L.b2 L.c2 L.a2 r.more HR0.out.more (fun z hz => (HRG.out.more z hz).2) (by omega)).mono ?_
  rintro e w7 ⟨rfl, hl7⟩
  obtain ⟨l7, e7⟩ : ∃ l7, l6 ++ nums r.more = l7 := ⟨_, rfl⟩
  rw [e7] at hl7
  have E7 := hide e7
  have HL7 := hide (hl7.le (N' := 7000) (by omega))
  have c7 := (HB.out.more hl7.only).c13
  clear hl7 e7 c6
  go_wp2_with fail
  refine (lw_one W0 w7 B _ _ HL7.out (r.images.length : Int) (by unfold top; omega) (by omega)).mono ?_
  rintro e w8 ⟨rfl, hl8⟩
  rw [Int.toNat_natCast] at hl8
  obtain ⟨l8, e8⟩ : ∃ l8, l7 ++ sev r.images.length = l8 := ⟨_, rfl⟩
  rw [e8] at hl8
  have E8 := hide e8
  have HL8 := hide (hl8.le (N' := 8000) (by omega))
  have c8 := (HB.out.more hl8.only).c13
  clear hl8 e8 c7
  go_wp2_with fail
  go_loopw [70] (fun y wr => ∃ (j : Nat), j ≤ r.images.length ∧ y = .int .i64 (j : Int) ∧ Hid (Lw W0 wr B (l8 ++ ((r.images.take j).map imL).flatten) (8000 + 600 * j))) (fun y _ => r.images.length - (intOf y).toNat)
  case atStart => exact ⟨0, by omega, rfl, by simpa using HL8⟩
  case round =>
    obtain ⟨j, hj, rfl, HLr⟩ := hrel
    by_cases hlt : j < r.images.length
    · obtain ⟨o, e1, c1⟩ := (HI.out.more HLr.out.only).at_ (by omega)
      obtain ⟨D, a, c, k1, _⟩ := c1 j hlt
      have hj1 : (j : Int) < (r.images.length : Int) := by omega
      obtain ⟨z, hz⟩ : ∃ z, r.images[j] = z := ⟨_, rfl⟩
      have hmem : z ∈ r.images := by rw [← hz]; exact List.getElem_mem hlt
      have hpg := HRG.out.images z hmem
      have hvz := imErr_all HE.out z hmem
      have HTK : Hid (((r.images.take (j + 1)).map imL).flatten = ((r.images.take j).map imL).flatten ++ imL z) := by
        unfold Hid; rw [List.take_succ_eq_append_getElem hlt, hz]; simp
      have hbj : j < (bares r.images).length := by simpa [bares] using hlt
      obtain ⟨o2', e2', ct'⟩ := ((HT.out.more HOX.out).more HLr.out.only).at_ (by omega)
      have kt := ct' j hbj
      have hbz : (bares r.images)[j] = str (bare z.body.enc) := by simp [bares, hz]
      rw [hbz] at kt
      obtain ⟨X, hX⟩ : ∃ X, str (bare z.body.enc) = X := ⟨_, rfl⟩
      have hXs : X.size ≤ 512 := by
        rw [← hX, str_size]
        have := bare_len z.body.enc
        rw [enc_len _ hvz.2.2.2.2] at this
        exact this
      have HXT : Hid (imL z = sev z.page.toNat ++ textL X) := by unfold Hid imL textL; rw [← hX, str_size, bl_str]
      rw [hX] at kt
      rw [hz] at k1
      clear c1 hz ct' hmem hvz hbz hX
      obtain ⟨d0, d1, d2, d3, d4, d5, d6, _, _, _, _⟩ := k1
      rw [e1]
      rw [e2'] at HT ⊢
      have HBt : Bt < W0.heap.size := by
        have := (HT.out.more HOX.out).lt (by omega)
        exact this
      have hOA := onlyA wr (.cells #[.int .i64 z.page, .int .i64 z.body.lsn, .int .i64 z.body.kind, .int .i64 z.body.level, .int .i64 z.body.right, .string z.body.high, .slice a z.body.items.length c] 183)
      obtain ⟨W1, hW1⟩ : ∃ W1, wr.alloc (.cells #[.int .i64 z.page, .int .i64 z.body.lsn, .int .i64 z.body.kind, .int .i64 z.body.level, .int .i64 z.body.right, .string z.body.high, .slice a z.body.items.length c] 183) = W1 := ⟨_, rfl⟩
      have hz1 : W1.heap.size = wr.heap.size + 1 := by rw [← hW1]; simp
      rw [hW1] at hOA
      have H1 := hide (lw_one W0 W1 B _ _ (HLr.out.more hOA) z.page hpg.2 (by omega))
      rw [hz1] at H1
      have HW1 := hide hW1
      have HKT : Hid (∀ W, Only (fun _ => False) W0 W → W.cell? ⟨Bt, o2' + j, none⟩ = some (.string X)) := fun W hW => by
        have h1 := (HLr.out.only.cell (p := ⟨Bt, o2' + j, none⟩) HBt (fun h => h)).symm.trans kt
        exact (hW.cell (p := ⟨Bt, o2' + j, none⟩) HBt (fun h => h)).trans h1
      clear hOA hz1 hW1 kt
      have hjt : (j : Int) < (r.images.length : Int) := by omega
      go_wp2_with fail
      rw [HW1.out]
      refine H1.out.mono ?_
      rintro e wa ⟨rfl, hla⟩
      have HLa := hide hla
      have ka := HKT.out _ hla.only
      clear hla d0 d1 d2 d3 d4 d5 d6
      go_wp2_with fail
      refine (lw_text W0 wa B _ _ HLa.out X hXs (by omega)).mono ?_
      rintro e wb ⟨rfl, hlb⟩
      have HLb := hide hlb
      clear hlb ka
      go_wp2_with fail
      go_roundw
      case rel =>
        refine ⟨j + 1, by omega, by go_num, ?_⟩
        unfold Hid
        rw [HTK.out, HXT.out]
        have h1 := HLb.out.le (N' := 8000 + 600 * (j + 1)) (by omega)
        simpa using h1
      case measure => simp [intOf]; omega
    · have ej : r.images.take j = r.images := List.take_of_length_le (by omega)
      rw [ej] at HLr
      obtain ⟨l9, e9⟩ : ∃ l9, l8 ++ (r.images.map imL).flatten = l9 := ⟨_, rfl⟩
      rw [e9] at HLr
      have E9 := hide e9
      have HL9 := hide (HLr.out.le (N' := 11000) (by omega))
      have c9 := (HB.out.more HL9.out.only).c14
      clear e9 c8
      go_wp2_with fail
      refine (lw_one W0 _ B _ _ HL9.out (r.pages.length : Int) (by unfold top; omega) (by omega)).mono ?_
      rintro e wp ⟨rfl, hlp⟩
      rw [Int.toNat_natCast] at hlp
      obtain ⟨l10, e10⟩ : ∃ l10, l9 ++ sev r.pages.length = l10 := ⟨_, rfl⟩
      rw [e10] at hlp
      have E10 := hide e10
      have HL10 := hide (hlp.le (N' := 12000) (by omega))
      have c10 := (HB.out.more hlp.only).c14
      clear hlp e10 c9
      go_wp2_with fail
      go_loopw [96] (fun y wr => ∃ (j : Nat), j ≤ r.pages.length ∧ y = .int .i64 (j : Int) ∧ Hid (Lw W0 wr B (l10 ++ ((r.pages.take j).map prL).flatten) (12000 + 20 * j))) (fun y _ => r.pages.length - (intOf y).toNat)
      case atStart => exact ⟨0, by omega, rfl, by simpa using HL10⟩
      case round =>
        obtain ⟨j, hj, rfl, HLr⟩ := hrel
        by_cases hlt : j < r.pages.length
        · obtain ⟨o, e1, c1⟩ := (HR0.out.pages.more HLr.out.only).at_ (by omega)
          have k1 := c1 j hlt
          have hj1 : (j : Int) < (r.pages.length : Int) := by omega
          obtain ⟨z, hz⟩ : ∃ z, r.pages[j] = z := ⟨_, rfl⟩
          have hmem : z ∈ r.pages := by rw [← hz]; exact List.getElem_mem hlt
          have hpg := HRG.out.pages z hmem
          have HTK : Hid (((r.pages.take (j + 1)).map prL).flatten = ((r.pages.take j).map prL).flatten ++ prL (z.1, z.2)) := by
            unfold Hid; rw [List.take_succ_eq_append_getElem hlt, hz]; simp
          rw [hz] at k1
          clear c1 hz hmem
          obtain ⟨d0, d1⟩ := k1
          rw [e1]
          have hOA := onlyA wr (.cells #[.int .i64 z.1, .int .i64 z.2] 123)
          obtain ⟨W1, hW1⟩ : ∃ W1, wr.alloc (.cells #[.int .i64 z.1, .int .i64 z.2] 123) = W1 := ⟨_, rfl⟩
          have hz1 : W1.heap.size = wr.heap.size + 1 := by rw [← hW1]; simp
          rw [hW1] at hOA
          have H1 := hide (lw_two W0 W1 B _ _ (HLr.out.more hOA) z.1 z.2 hpg.1.2 hpg.2.2 (by omega))
          rw [hz1] at H1
          have HW1 := hide hW1
          clear hOA hz1 hW1
          go_wp2_with fail
          rw [HW1.out]
          refine H1.out.mono ?_
          rintro e wa ⟨rfl, hla⟩
          have HLa := hide hla
          clear hla d0 d1
          go_wp2_with fail
          go_roundw
          case rel =>
            refine ⟨j + 1, by omega, by go_num, ?_⟩
            unfold Hid
            rw [HTK.out]
            have h1 := HLa.out.le (N' := 12000 + 20 * (j + 1)) (by omega)
            simpa using h1
          case measure => simp [intOf]; omega
        · have ej : r.pages.take j = r.pages := List.take_of_length_le (by omega)
          rw [ej] at HLr
          obtain ⟨l11, eo⟩ : ∃ x, l10 ++ (r.pages.map prL).flatten = x := ⟨_, rfl⟩
          rw [eo] at HLr
          have EO_l11 := hide eo
          clear eo
          have HL11 := hide (HLr.out.le (N' := 180000) (by omega))
          have c11 := (HB.out.more HL11.out.only).c15
          go_wp2_with fail
          refine (lw_one W0 _ B _ _ HL11.out (r.txns.length : Int) (by unfold top; omega) (by omega)).mono ?_
          rintro e wq ⟨rfl, hlq⟩
          rw [Int.toNat_natCast] at hlq
          obtain ⟨l12, e12⟩ : ∃ l12, l11 ++ sev r.txns.length = l12 := ⟨_, rfl⟩
          rw [e12] at hlq
          have E12 := hide e12
          have HL12 := hide (hlq.le (N' := 190000) (by omega))
          have c12 := (HB.out.more hlq.only).c15
          clear hlq e12 c11
          go_wp2_with fail
          go_loopw [117] (fun y wr => ∃ (j : Nat), j ≤ r.txns.length ∧ y = .int .i64 (j : Int) ∧ Hid (Lw W0 wr B (l12 ++ ((r.txns.take j).map prL).flatten) (190000 + 20 * j))) (fun y _ => r.txns.length - (intOf y).toNat)
          case atStart => exact ⟨0, by omega, rfl, by simpa using HL12⟩
          case round =>
            obtain ⟨j, hj, rfl, HLr⟩ := hrel
            by_cases hlt : j < r.txns.length
            · obtain ⟨o, e1, c1⟩ := (HR0.out.txns.more HLr.out.only).at_ (by omega)
              have k1 := c1 j hlt
              have hj1 : (j : Int) < (r.txns.length : Int) := by omega
              obtain ⟨z, hz⟩ : ∃ z, r.txns[j] = z := ⟨_, rfl⟩
              have hmem : z ∈ r.txns := by rw [← hz]; exact List.getElem_mem hlt
              have hpg := HRG.out.txns z hmem
              have HTK : Hid (((r.txns.take (j + 1)).map prL).flatten = ((r.txns.take j).map prL).flatten ++ prL (z.1, z.2)) := by
                unfold Hid; rw [List.take_succ_eq_append_getElem hlt, hz]; simp
              rw [hz] at k1
              clear c1 hz hmem
              obtain ⟨d0, d1⟩ := k1
              rw [e1]
              have hOA := onlyA wr (.cells #[.int .i64 z.1, .int .i64 z.2] 188)
              obtain ⟨W1, hW1⟩ : ∃ W1, wr.alloc (.cells #[.int .i64 z.1, .int .i64 z.2] 188) = W1 := ⟨_, rfl⟩
              have hz1 : W1.heap.size = wr.heap.size + 1 := by rw [← hW1]; simp
              rw [hW1] at hOA
              have H1 := hide (lw_two W0 W1 B _ _ (HLr.out.more hOA) z.1 z.2 hpg.1.2 hpg.2.2 (by omega))
              rw [hz1] at H1
              have HW1 := hide hW1
              clear hOA hz1 hW1
              go_wp2_with fail
              rw [HW1.out]
              refine H1.out.mono ?_
              rintro e wa ⟨rfl, hla⟩
              have HLa := hide hla
              clear hla d0 d1
              go_wp2_with fail
              go_roundw
              case rel =>
                refine ⟨j + 1, by omega, by go_num, ?_⟩
                unfold Hid
                rw [HTK.out]
                have h1 := HLa.out.le (N' := 190000 + 20 * (j + 1)) (by omega)
                simpa using h1
              case measure => simp [intOf]; omega
            · have ej : r.txns.take j = r.txns := List.take_of_length_le (by omega)
              rw [ej] at HLr
              obtain ⟨l13, eo⟩ : ∃ x, l12 ++ (r.txns.map prL).flatten = x := ⟨_, rfl⟩
              rw [eo] at HLr
              have EO_l13 := hide eo
              clear eo
              go_wp2_with fail
              refine (lw_bytes W0 _ B _ _ HLr.out).mono ?_
              rintro e wz ⟨rfl, rfl⟩
              have HFIN : Hid (l13 = r.lay) := by
                unfold Hid Rc.lay
                rw [← EO_l13.out, ← E12.out, ← EO_l11.out, ← E10.out, ← E9.out, ← E8.out, ← E7.out, ← E6.out, ← E5.out, ← E4.out, ← E3.out, ← E2.out]
                simp only [List.append_assoc]
              go_wp2_with fail
              go_ret
              rw [HFIN.out]
              exact ⟨rfl, o2 HOX.out HLr.out.only⟩
end Go.Proofs.YtbfafijfhaejmaaGreatDoor
