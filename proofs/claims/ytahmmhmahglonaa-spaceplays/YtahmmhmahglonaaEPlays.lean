/- The walk of SpacePlays. -/
import Derived.Test.YtahmmhmahglonaaEBoth
namespace Go.Proofs.Ytahmmhmahglonaa
open Go.RowKit Go.Maps

set_option maxRecDepth 100000 in
set_option maxHeartbeats 6400000 in
theorem plays_law (w : World) (B : Nat) (ao : Option Addr) (n cap : Nat) (C : Nat → Bool) (X S : Nat → Int) (hI : Ops w B ao n C X S) (hn : n ≤ 5864062014634) (ask : Int) :
    Calls Try.prog 3 #[.slice ao n cap, .int .i64 ask] w fun e w' => e = .returned (.bool true) ∧ Only (fun _ => False) w w' := by
  have HI := hide hI
  have HN : Hid (∀ k, k ≤ n → k < maxLen) := fun k hk => by unfold maxLen; omega
  clear hI
  go_enter Try.func3, Try.ntmps3
  go_wp2_with fail
  refine (sk_new w).mono ?_
  rintro e w1 ⟨t, m, rfl, H1⟩
  have HP0 := hide (pa_start H1)
  clear H1
  go_wp2_with fail
  refine (inew_any w1).mono ?_
  rintro e W1 ⟨rfl, hW1⟩
  obtain ⟨r, hr⟩ : ∃ r, w1.heap.size = r := ⟨_, rfl⟩
  rw [hr, ← hW1] at HP0
  rw [hr]
  clear hr hW1
  go_wp2_with fail
  go_loopw [7] (fun y wr => ∃ (j : Nat) (f : Kn), j ≤ n ∧ y = .int .i64 (j : Int) ∧ Hid (Pa w wr t m r (r + 1) j j f f)) (fun y _ => n - (intOf y).toNat)
  case atStart => exact ⟨0, _, by omega, rfl, HP0⟩
  case round =>
    clear HP0
    obtain ⟨j, f, hj, rfl, HP⟩ := hrel
    by_cases hlt : j < n
    · obtain ⟨o, e1, hc⟩ := (HI.out.more HP.out.sk.only).at_ (by omega)
      obtain ⟨k0, k1, k2⟩ := hc j hlt
      obtain ⟨hx, hs⟩ := HI.out.wf j hlt
      obtain ⟨c, hC⟩ : ∃ c, C j = c := ⟨_, rfl⟩
      obtain ⟨x, hX⟩ : ∃ x, X j = x := ⟨_, rfl⟩
      obtain ⟨s, hS⟩ : ∃ s, S j = s := ⟨_, rfl⟩
      rw [hC] at k0
      rw [hX] at k1 hx
      rw [hS] at k2 hs
      have HX := hide hx
      subst e1
      clear hC hX hS hc hx hs
      have HB := hide (Bx.new HP.out c x s)
      have HP2 : Hid (Pa w (wr.alloc (.cells #[.bool c, .int .i64 x, .int .i64 s] 28)) t m r (r + 1) j j f f) := HP.out.more (Only.alloc _ _ _)
      go_upto_region 9 with fail
      obtain ⟨b, hb⟩ : ∃ b, wr.heap.size = b := ⟨_, rfl⟩
      obtain ⟨W, hW⟩ : ∃ W, W = wr.alloc (.cells #[.bool c, .int .i64 x, .int .i64 s] 28) := ⟨_, rfl⟩
      rw [hb] at HB ⊢
      rw [← hW] at HB HP2 ⊢
      clear hW hb k0 k1 k2 HP
      have b0 := HB.out.c0
      have b1 := HB.out.c1
      have b2 := HB.out.c2
      go_upto_if 34 with fail
      go_cut [34] (fun _ wc => ∃ f2, Hid (Pa w wc t m r (r + 1) (j + 1) (j + 1) f2 f2) ∧ Hid (Bx wc b m r c x s))
      case first =>
        cases c
        · have HTR := hide (pa_set HP2.out x s HX.out (HN.out _ (by omega)))
          go_wp2_with fail
          refine HTR.out.mono ?_
          clear HTR
          rintro e w3 ⟨rfl, H3, hkp⟩
          have HB3 := hide (HB.out.kept hkp)
          have HK3 := hide (pa_iset H3 x s (by omega))
          have d0 := HB3.out.c0
          have d1 := HB3.out.c1
          have d2 := HB3.out.c2
          clear H3 hkp HP2 HB b0 b1 b2
          go_wp2_with fail
          refine HK3.out.mono ?_
          clear HK3
          rintro e w4 ⟨rfl, H4, hkp⟩
          have HB4 := hide (HB3.out.kept hkp)
          have HP4 := hide H4
          clear H4 hkp HB3 d0 d1 d2
          go_wp2_with fail
          go_meet
          exact ⟨_, HP4, HB4⟩
        · have HTR := hide (pa_drop HP2.out x HX.out)
          go_wp2_with fail
          refine HTR.out.mono ?_
          clear HTR
          rintro e w3 ⟨rfl, H3, hkp⟩
          have HB3 := hide (HB.out.kept hkp)
          have HK3 := hide (pa_idrop H3 x (by omega))
          have d0 := HB3.out.c0
          have d1 := HB3.out.c1
          have d2 := HB3.out.c2
          clear H3 hkp HP2 HB b0 b1 b2
          go_wp2_with fail
          refine HK3.out.mono ?_
          clear HK3
          rintro e w4 ⟨rfl, H4, hkp⟩
          have HB4 := hide (HB3.out.kept hkp)
          have HP4 := hide H4
          clear H4 hkp HB3 d0 d1 d2
          go_wp2_with fail
          go_meet
          exact ⟨_, HP4, HB4⟩
      case rest =>
        obtain ⟨f2, HP3, HB3⟩ := hcut
        clear HB HP2 b0 b1 b2
        have hj1 : j + 1 ≤ 5864062014700 := by omega
        have b1 := HB3.out.c1
        go_wp2_with fail
        refine (pa_find HP3.out ask).mono ?_
        rintro e w6 ⟨p, ok, rfl, hF, H6, hO6⟩
        have HF := hide hF
        have HP6 := hide H6
        have HB6 := hide (HB3.out.kept (Only.kq hO6))
        clear hF H6 hO6 HP3 HB3 b1
        go_wp2_with fail
        refine (pa_ifind HP6.out HF.out hj1).mono ?_
        rintro e wx ⟨rfl, hw⟩
        obtain rfl := hw.symm
        clear hw
        have b1 := HB6.out.c1
        obtain ⟨hv, hhv⟩ : ∃ hv, (f2 x).getD 0 = hv := ⟨_, rfl⟩
        obtain ⟨hs, hhs⟩ : ∃ hs, (f2 x).isSome = hs := ⟨_, rfl⟩
        have HA1 := hide (pa_room HP6.out x HX.out)
        have HA2 := hide (pa_iroom HP6.out x hj1)
        rw [hhv, hhs] at HA1 HA2
        clear hhv hhs
        go_wp2_with fail
        refine HA1.out.mono ?_
        rintro e wx ⟨rfl, hw⟩
        obtain rfl := hw.symm
        clear hw HA1
        go_wp2_with fail
        refine HA2.out.mono ?_
        rintro e wx ⟨rfl, hw⟩
        obtain rfl := hw.symm
        clear hw HA2 b1
        go_wp2_with fail
        refine (pa_pages HP6.out hj1).mono ?_
        rintro e w7 ⟨al, cl, L, rfl, hL, hR, hLn, H7, hO7⟩
        have HL := hide hL
        have HP7 := hide H7
        obtain ⟨B1, hB1⟩ : ∃ B1, w6.heap.size = B1 := ⟨_, rfl⟩
        rw [hB1] at hR
        have HR := hide hR
        have HO7 := hide hO7
        have HB1 := hide hB1
        have hok : (ok != ok) = false := by simp
        have hhs : (hs != hs) = false := by simp
        clear hL H7 hR hO7 hB1
        go_wp2_with fail
        refine (pa_ipages HP7.out HL.out hj1).mono ?_
        rintro e w8 ⟨a2, c2, rfl, hR2, H8, hO8⟩
        have HR2 := hide hR2
        have HP8 := hide H8
        have HO8 := hide (HO7.out.trans hO8 (fun _ _ h => h))
        have HR8 := hide (HR.out.kept hO8 (fun _ _ => id))
        clear hR2 H8 hO8 HR HP7 HO7
        go_wp2_with fail
        refine (sameI_true w8 _ _ _ _ _ _ _ HR8.out HR2.out (by omega)).mono ?_
        rintro e w9 ⟨rfl, hO9⟩
        have HO9 := hide (HO8.out.trans hO9 (fun _ _ h => h))
        have HR9 := hide (HR8.out.kept hO9 (fun _ _ => id))
        clear hO9 HR8 HO8 HP8 HR2
        go_wp2_with fail
        go_loopw [18] (fun y wq => ∃ (k : Nat) (M : List Int), k ≤ L.length ∧ M.length = L.length ∧ y = .int .i64 (k : Int) ∧ Hid (Only (fun _ => False) w6 wq) ∧ Hid (IRow wq B1 (.slice al L.length cl) M)) (fun y _ => L.length - (intOf y).toNat)
        case atStart => exact ⟨0, L, by omega, rfl, rfl, HO9, HR9⟩
        case round =>
          clear HO9 HR9
          obtain ⟨k, M, hk, hML, rfl, HO, HR⟩ := hrel
          have HML := hide hML
          clear hML
          by_cases hlt2 : k < L.length
          · obtain ⟨g, e1, hg1, _, hc⟩ := HR.out.at_ (j := k) (by have := HML.out; omega)
            obtain ⟨z, hz⟩ : ∃ z, M[k]'(by have := HML.out; omega) = z := ⟨_, rfl⟩
            rw [hz] at hc
            subst e1
            have hfz := HR.out.free k
            obtain ⟨hR3, hO3⟩ := HR.out.store k (-1)
            have HR3 := hide hR3
            have HO3 : Hid (Only (fun _ => False) w6 (wr.setCell ⟨g, k, none⟩ (.int .i64 (-1)))) := HO.out.trans hO3 (fun i hi e => by have := HB1.out; omega)
            have hk0 : (0 : Int) ≤ (k : Int) := by omega
            have hk1 : (k : Int) < (L.length : Int) := by omega
            clear hR3 hO3 hz
            go_wp2_with fail
            exact ⟨⟨k + 1, M.set k (-1), by omega, by rw [List.length_set]; exact HML.out, by go_num, HO3, HR3⟩, by simp [intOf]; omega⟩
          · have HP9 := hide (HP6.out.more HO.out)
            clear HR
            go_wp2_with fail
            refine (pa_pages HP9.out hj1).mono ?_
            rintro e v1 ⟨a5, c5, L5, rfl, hL5, hR5, hLn5, H5, hO5⟩
            have HL5 := hide hL5
            have HP5 := hide H5
            have HR5 := hide hR5
            clear hL5 H5 hR5 hO5 HP9
            go_wp2_with fail
            refine (pa_ipages HP5.out HL5.out hj1).mono ?_
            rintro e v2 ⟨a4, c4, rfl, hR4, H4, hO4⟩
            have HR4 := hide hR4
            have HP4 := hide H4
            have HR54 := hide (HR5.out.kept hO4 (fun _ _ => id))
            clear hR4 H4 hO4 HR5 HP5
            go_wp2_with fail
            refine (sameI_true v2 _ _ _ _ _ _ _ HR54.out HR4.out (by omega)).mono ?_
            rintro e v3 ⟨rfl, hO3⟩
            have HPE := hide (HP4.out.more hO3)
            clear hO3 HR4 HR54 HP4
            go_wp2_with fail
            go_roundw
            case rel => exact ⟨j + 1, f2, by omega, by go_num, HPE⟩
            case measure => simp [intOf]; omega
    · go_wp2_with fail
      refine (eawake_any wr).mono ?_
      rintro e w9 ⟨rfl, hO⟩
      go_wp2_with fail
      go_ret
      exact ⟨rfl, HP.out.sk.only.trans hO (fun _ _ h => h)⟩
end Go.Proofs.Ytahmmhmahglonaa
