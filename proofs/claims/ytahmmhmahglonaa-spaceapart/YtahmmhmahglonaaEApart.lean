/- The walk of SpaceApart. -/
import Derived.Test.YtahmmhmahglonaaEAwake
import Derived.BigQuiet
import Derived.Deep.RegionWith
namespace Go.Proofs.Ytahmmhmahglonaa
open Go.RowKit Go.Maps

/-- What is known of one page is what another map knows of it. -/
theorem Kn.set_other (f : Kn) {p q : Int} (r : Int) (h : ¬ p = q) : (f.set p r) q = f q := by
  unfold Kn.set
  rw [if_neg (fun e => h e.symm)]
theorem Kn.drop_other (f : Kn) {p q : Int} (h : ¬ p = q) : (f.drop p) q = f q := by
  unfold Kn.drop
  rw [if_neg (fun e => h e.symm)]
set_option maxRecDepth 100000 in
set_option maxHeartbeats 3200000 in
theorem apart_law (w : World) (B B2 : Nat) (ao ao2 : Option Addr) (n cap n2 cap2 : Nat) (C C2 : Nat → Bool) (X X2 S S2 : Nat → Int) (hI : Ops w B ao n C X S) (hI2 : Ops w B2 ao2 n2 C2 X2 S2) (page : Int) (hp : N64 page) (hn : n ≤ 5864062014634) (hn2 : n2 ≤ 5864062014634) :
    Calls Try.prog 6 #[.slice ao n cap, .slice ao2 n2 cap2, .int .i64 page] w fun e w' => e = .returned (.bool true) ∧ Only (fun _ => False) w w' := by
  have HI := hide hI
  have HI2 := hide hI2
  have HP := hide hp
  have HN : Hid (∀ k, k ≤ n + n2 → k < maxLen) := fun k hk => by unfold maxLen; omega
  clear hI hI2 hp
  go_enter Try.func6, Try.ntmps6
  go_wp2_with fail
  refine (sk_new w).mono ?_
  rintro e w1 ⟨t, m, rfl, H1⟩
  have HK1 := hide H1
  clear H1
  go_wp2_with fail
  go_loopw [8] (fun y wr => ∃ (j : Nat) (f : Kn), j ≤ n ∧ y = .int .i64 (j : Int) ∧ Hid (Sk w wr t m j f)) (fun y _ => n - (intOf y).toNat)
  case atStart => exact ⟨0, _, by omega, rfl, HK1⟩
  case round =>
    clear HK1
    obtain ⟨j, f, hj, rfl, HK⟩ := hrel
    by_cases hlt : j < n
    · obtain ⟨o, e1, hc⟩ := (HI.out.more HK.out.only).at_ (by omega)
      obtain ⟨k0, k1, k2⟩ := hc j hlt
      obtain ⟨hx, hs⟩ := HI.out.wf j hlt
      obtain ⟨c, hC⟩ : ∃ c, C j = c := ⟨_, rfl⟩
      obtain ⟨x, hX⟩ : ∃ x, X j = x := ⟨_, rfl⟩
      obtain ⟨s, hS⟩ : ∃ s, S j = s := ⟨_, rfl⟩
      rw [hC] at k0
      rw [hX] at k1 hx
      rw [hS] at k2 hs
      have HX := hide hx
      subst e1
      clear hC hX hS hc hx hs
      cases c
      · have HS := hide (sk_set (HK.out.more (Only.drew _ _)) x s HX.out (HN.out _ (by omega)))
        have k1d : wr.drew.cell? ⟨B, o + j * 3 + 1, none⟩ = some (.int .i64 x) := k1
        have k2d : wr.drew.cell? ⟨B, o + j * 3 + 2, none⟩ = some (.int .i64 s) := k2
        go_upto_region 9 with fail
        go_region_with (go_at_call 11; refine HS.out.mono ?_; rintro e w2 ⟨rfl, H2, _⟩; have HK2 := hide H2; clear H2)
        all_goals go_wp2_with fail
        all_goals exact ⟨⟨j + 1, _, by omega, by go_num, HK2⟩, by simp [intOf]; omega⟩
      · have HS := hide (sk_drop HK.out x HX.out)
        go_wp2_with fail
        refine HS.out.mono ?_
        rintro e w2 ⟨rfl, H2, _⟩
        have HK2 := hide H2
        clear H2
        go_wp2_with fail
        exact ⟨⟨j + 1, _, by omega, by go_num, HK2⟩, by simp [intOf]; omega⟩
    · have HJ : Hid (j ≤ n) := hj
      go_wp2_with fail
      refine (sk_room HK.out page HP.out).mono ?_
      rintro e wx ⟨rfl, hw⟩
      obtain rfl := hw.symm
      clear hw
      obtain ⟨a, ha⟩ : ∃ a, (f page).getD 0 = a := ⟨_, rfl⟩
      obtain ⟨is, his⟩ : ∃ is, (f page).isSome = is := ⟨_, rfl⟩
      rw [ha, his]
      have HA := hide ha
      have HIS := hide his
      clear ha his
      go_wp2_with fail
      go_loopw [11] (fun y wq => ∃ (k : Nat) (g : Kn), k ≤ n2 ∧ y = .int .i64 (k : Int) ∧ Hid (Sk w wq t m (j + k) g) ∧ Hid (g page = f page)) (fun y _ => n2 - (intOf y).toNat)
      case atStart => exact ⟨0, f, by omega, rfl, HK, rfl⟩
      case round =>
        clear HK
        obtain ⟨k, g, hk, rfl, HK, HG⟩ := hrel
        by_cases hlt2 : k < n2
        · obtain ⟨o, e1, hc⟩ := (HI2.out.more HK.out.only).at_ (by omega)
          obtain ⟨k0, k1, k2⟩ := hc k hlt2
          obtain ⟨hx, hs⟩ := HI2.out.wf k hlt2
          obtain ⟨c, hC⟩ : ∃ c, C2 k = c := ⟨_, rfl⟩
          obtain ⟨x, hX⟩ : ∃ x, X2 k = x := ⟨_, rfl⟩
          obtain ⟨s, hS⟩ : ∃ s, S2 k = s := ⟨_, rfl⟩
          rw [hC] at k0
          rw [hX] at k1 hx
          rw [hS] at k2 hs
          have HX := hide hx
          subst e1
          clear hC hX hS hc hx hs
          by_cases he : x = page
          · have hb : (x == page) = true := by simp [he]
            clear he
            have HK2 := hide (HK.out.mono (n' := j + (k + 1)) (by omega))
            go_wp2_with fail
            exact ⟨⟨k + 1, g, by omega, by go_num, HK2, HG⟩, by simp [intOf]; omega⟩
          · have hb : (x == page) = false := by simp [he]
            have HE := hide he
            clear he
            cases c
            · have HS := hide (sk_set (HK.out.more (Only.drew _ _)) x s HX.out (HN.out _ (by have := HJ.out; omega)))
              have k1d : wr.drew.cell? ⟨B2, o + k * 3 + 1, none⟩ = some (.int .i64 x) := k1
              have k2d : wr.drew.cell? ⟨B2, o + k * 3 + 2, none⟩ = some (.int .i64 s) := k2
              have HG2 : Hid ((g.set x s) page = f page) := (Kn.set_other g s HE.out).trans HG.out
              go_upto_region 17 with fail
              go_region_with (go_at_call 11; refine HS.out.mono ?_; rintro e w2 ⟨rfl, H2, _⟩; have HK2 := hide H2; clear H2)
              all_goals go_wp2_with fail
              all_goals exact ⟨⟨k + 1, _, by omega, by go_num, HK2, HG2⟩, by simp [intOf]; omega⟩
            · have HS := hide (sk_drop HK.out x HX.out)
              have HG2 : Hid ((g.drop x) page = f page) := (Kn.drop_other g HE.out).trans HG.out
              go_wp2_with fail
              refine HS.out.mono ?_
              rintro e w2 ⟨rfl, H2, _⟩
              have HK2 := hide H2
              clear H2
              go_wp2_with fail
              exact ⟨⟨k + 1, _, by omega, by go_num, HK2, HG2⟩, by simp [intOf]; omega⟩
        · go_wp2_with fail
          refine (sk_room HK.out page HP.out).mono ?_
          rintro e wx ⟨rfl, hw⟩
          obtain rfl := hw.symm
          clear hw
          rw [HG.out, HA.out, HIS.out]
          have HO := hide HK.out.only
          go_wp2_with (go_at_call 20; refine (eawake_any _).mono ?_; rintro e w9 ⟨rfl, hO9⟩)
          go_ret
          exact ⟨rfl, HO.out.trans hO9 (fun _ _ h => h)⟩
end Go.Proofs.Ytahmmhmahglonaa
