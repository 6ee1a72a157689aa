/- The walk of LocksOne. -/
import Derived.Test.YtmmhmgndokaklaaLLawA
namespace Go.Proofs.Ytmmhmgndokaklaa
open Go.RowKit Go.Maps

set_option maxRecDepth 100000 in
set_option maxHeartbeats 3200000 in
theorem one_law (w : World) (B : Nat) (ao : Option Addr) (n cap : Nat) (C : Nat → Bool) (X : Nat → Int) (S : Nat → ByteArray) (hI : Ops w B ao n C X S) (hn : n ≤ 4398046510976) :
    Calls Try.prog 7 #[.slice ao n cap] w fun e w' => e = .returned (.bool true) ∧ Only (fun _ => False) w w' := by
  have HI := hide hI
  clear hI
  go_enter Try.func7, Try.ntmps7
  go_wp2_with fail
  refine (lk_new w).mono ?_
  rintro e w1 ⟨t, h, m, rfl, H1⟩
  have HK1 := hide H1
  clear H1
  go_wp2_with fail
  go_loopw [4] (fun y wr => ∃ (j : Nat) (T : Tb), j ≤ n ∧ y = .int .i64 (j : Int) ∧ Hid (Lk w wr t h m j T)) (fun y _ => n - (intOf y).toNat)
  case atStart => exact ⟨0, _, by omega, rfl, HK1⟩
  case round =>
    clear HK1
    obtain ⟨j, T, hj, rfl, HK⟩ := hrel
    by_cases hlt : j < n
    · obtain ⟨o, e1, hc⟩ := (HI.out.more HK.out.only).at_ (by omega)
      obtain ⟨k0, k1, k2⟩ := hc j hlt
      obtain ⟨hx, hs⟩ := HI.out.wf j hlt
      obtain ⟨c, hC⟩ : ∃ c, C j = c := ⟨_, rfl⟩
      obtain ⟨x, hX⟩ : ∃ x, X j = x := ⟨_, rfl⟩
      obtain ⟨s, hS⟩ : ∃ s, S j = s := ⟨_, rfl⟩
      rw [hC] at k0
      rw [hX] at k1 hx
      rw [hS] at k2 hs
      have HX := hide hx
      have HS := hide hs
      subst e1
      clear hC hX hS hc hx hs
      have HB := hide (Box.new HK.out c x s)
      have HK2 : Hid (Lk w (wr.alloc (.cells #[.bool c, .int .i64 x, .string s] 29)) t h m j T) := HK.out.more (Only.alloc _ _ _)
      go_upto_region 8 with fail
      obtain ⟨b, hb⟩ : ∃ b, wr.heap.size = b := ⟨_, rfl⟩
      obtain ⟨W, hW⟩ : ∃ W, W = wr.alloc (.cells #[.bool c, .int .i64 x, .string s] 29) := ⟨_, rfl⟩
      rw [hb] at HB ⊢
      rw [← hW] at HB HK2 ⊢
      clear hW hb k0 k1 k2 HK
      have b0 := HB.out.c0
      have b1 := HB.out.c1
      have b2 := HB.out.c2
      go_wp2_with fail
      refine (lk_holder HK2.out s HS.out).mono ?_
      rintro e wx ⟨rfl, hw⟩
      obtain rfl := hw.symm
      clear hw
      obtain ⟨ho, hho⟩ : ∃ ho, T.hold s = ho := ⟨_, rfl⟩
      rw [hho]
      have HHO := hide hho
      clear hho
      cases c
      · obtain ⟨ok, hok⟩ : ∃ ok, (T.tryR x s).1 = ok := ⟨_, rfl⟩
        obtain ⟨ec, hec⟩ : ∃ ec, (T.tryR x s).2.1 = ec := ⟨_, rfl⟩
        obtain ⟨T2, hT2⟩ : ∃ T2, (T.tryR x s).2.2 = T2 := ⟨_, rfl⟩
        have HTR := hide (lk_try HK2.out x s HX.out HS.out (by omega))
        rw [hok, hec, hT2] at HTR
        have HR1 := hide hok
        have HR2 := hide hec
        have HR3 := hide hT2
        clear hok hec hT2
        go_wp2_with fail
        refine HTR.out.mono ?_
        clear HTR
        rintro e w3 ⟨rfl, H3, hkp⟩
        have HK3 := hide H3
        have HB3 := hide (HB.out.kept hkp)
        have d0 := HB3.out.c0
        have d1 := HB3.out.c1
        have d2 := HB3.out.c2
        clear H3 hkp HK2 HB b0 b1 b2
        go_wp2_with fail
        refine (lk_holder HK3.out s HS.out).mono ?_
        rintro e wx ⟨rfl, hw⟩
        obtain rfl := hw.symm
        clear hw
        cases ho with
        | none =>
          obtain ⟨a1, a2, a3⟩ := Tb.tryR_none (who := x) HHO.out
          rw [HR1.out] at a1
          rw [HR2.out] at a2
          rw [HR3.out] at a3
          rw [a1, a2, a3]
          simp only [Option.getD_none, Option.isSome_none, Option.getD_some, Option.isSome_some]
          clear a1 a2 a3
          go_wp2_with fail
          go_roundw
          case rel => exact ⟨j + 1, T2, by omega, by go_num, HK3⟩
          case measure => simp [intOf]; omega
        | some y =>
          by_cases hy : y = x
          · obtain ⟨a1, a2, a3⟩ := Tb.tryR_own (HHO.out.trans (by rw [hy]))
            rw [HR1.out] at a1
            rw [HR2.out] at a2
            rw [HR3.out] at a3
            rw [a1, a2, a3, hy]
            simp only [Option.getD_some, Option.isSome_some]
            clear a1 a2 a3 hy
            go_wp2_with fail
            go_roundw
            case rel => exact ⟨j + 1, T2, by omega, by go_num, HK3⟩
            case measure => simp [intOf]; omega
          · obtain ⟨a1, a3⟩ := Tb.tryR_other HHO.out hy
            rw [HR1.out] at a1
            rw [HR3.out] at a3
            rw [a1, a3]
            simp only [Option.getD_some, Option.isSome_some]
            have hyb : (y == x) = false := by simp [hy]
            clear a1 a3 hy
            go_wp2_with fail
            go_roundw
            case rel => exact ⟨j + 1, T2, by omega, by go_num, HK3⟩
            case measure => simp [intOf]; omega
      · have HTR := hide (lk_release HK2.out x HX.out (by omega))
        go_wp2_with fail
        refine HTR.out.mono ?_
        clear HTR
        rintro e w3 ⟨v, L, rfl, _, _, _, H3, hkp⟩
        have HK3 := hide H3
        have HB3 := hide (HB.out.kept hkp)
        have d0 := HB3.out.c0
        have d1 := HB3.out.c1
        have d2 := HB3.out.c2
        clear H3 hkp HK2 HB b0 b1 b2
        go_wp2_with fail
        refine (lk_holder HK3.out s HS.out).mono ?_
        rintro e wx ⟨rfl, hw⟩
        obtain rfl := hw.symm
        clear hw
        cases ho with
        | none =>
          rw [Tb.freed_none (.inl HHO.out)]
          simp only [Option.getD_none, Option.isSome_none]
          go_wp2_with fail
          go_roundw
          case rel => exact ⟨j + 1, _, by omega, by go_num, hide (HK3.out.mono (by omega))⟩
          case measure => simp [intOf]; omega
        | some y =>
          by_cases hy : y = x
          · rw [Tb.freed_none (.inr (HHO.out.trans (by rw [hy])))]
            subst hy
            simp only [Option.getD_none, Option.isSome_none, Option.getD_some, Option.isSome_some]
            go_wp2_with fail
            go_roundw
            case rel => exact ⟨j + 1, _, by omega, by go_num, hide (HK3.out.mono (by omega))⟩
            case measure => simp [intOf]; omega
          · rw [Tb.freed_hold.2 ⟨HHO.out, hy⟩]
            simp only [Option.getD_some, Option.isSome_some]
            have hyb : (y != x) = true := by simp [hy]
            clear hy
            go_wp2_with fail
            go_roundw
            case rel => exact ⟨j + 1, _, by omega, by go_num, hide (HK3.out.mono (by omega))⟩
            case measure => simp [intOf]; omega
    · go_wp2_with fail
      refine (lawake_any wr).mono ?_
      rintro e w9 ⟨rfl, hO⟩
      go_wp2_with fail
      go_ret
      exact ⟨rfl, HK.out.only.trans hO (fun _ _ h => h)⟩
end Go.Proofs.Ytmmhmgndokaklaa
