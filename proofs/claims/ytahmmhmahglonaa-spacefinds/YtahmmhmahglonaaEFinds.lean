/- The walk of SpaceFinds. -/
import Derived.Test.YtahmmhmahglonaaEAwake
import Derived.BigQuiet
import Derived.Deep.RegionWith
namespace Go.Proofs.Ytahmmhmahglonaa
open Go.RowKit Go.Maps

theorem PgIs.at_ {f : Kn} {L : List Int} (h : PgIs f L) {j : Nat} (hj : j < L.length) : ∃ b, f L[j] = some b := (h.mem _).1 (List.getElem_mem hj)
theorem PgIs.rise {f : Kn} {L : List Int} (h : PgIs f L) {j : Nat} (hj : j + 1 < L.length) : L[j] < L[j + 1] := List.pairwise_iff_getElem.1 h.up j (j + 1) (by omega) hj (by omega)
theorem FdIs.less {f : Kn} {room less p q : Int} {also : Bool} (h : FdIs f room p true) (k : FdIs f less q also) (hl : less ≤ room) : also = true ∧ q ≤ p := by
  obtain ⟨⟨b, h1, h2⟩, _⟩ := h.is rfl
  cases also with
  | false => have := (k.no rfl).2 _ _ h1; omega
  | true => exact ⟨rfl, (k.is rfl).2 _ _ h1 (by omega)⟩
theorem Only.drewN (S : Nat → Prop) (w : World) (n : Nat) : Only S w (w.drewN n) := ⟨rfl, rfl, rfl, Nat.le_refl _, fun _ _ _ => rfl⟩
set_option maxRecDepth 100000 in
set_option maxHeartbeats 3200000 in
theorem finds_law (w : World) (B : Nat) (ao : Option Addr) (n cap : Nat) (C : Nat → Bool) (X S : Nat → Int) (hI : Ops w B ao n C X S) (hn : n ≤ 5864062014634) (room less : Int) :
    Calls Try.prog 4 #[.slice ao n cap, .int .i64 room, .int .i64 less] w fun e w' => e = .returned (.bool true) ∧ Only (fun _ => False) w w' := by
  have HI := hide hI
  have HN : Hid (∀ k, k ≤ n → k < maxLen) := fun k hk => by unfold maxLen; omega
  clear hI
  go_enter Try.func4, Try.ntmps4
  go_wp2_with fail
  refine (sk_new w).mono ?_
  rintro e w1 ⟨t, m, rfl, H1⟩
  have HK1 := hide H1
  clear H1
  go_wp2_with fail
  go_loopw [8] (fun y wr => ∃ (j : Nat) (f : Kn), j ≤ n ∧ y = .int .i64 (j : Int) ∧ Hid (Sk w wr t m j f)) (fun y _ => n - (intOf y).toNat)
  case atStart => exact ⟨0, _, by omega, rfl, HK1⟩
  case round =>
    clear HK1
    obtain ⟨j, f, hj, rfl, HK⟩ := hrel
    by_cases hlt : j < n
    · obtain ⟨o, e1, hc⟩ := (HI.out.more HK.out.only).at_ (by omega)
      obtain ⟨k0, k1, k2⟩ := hc j hlt
      obtain ⟨hx, hs⟩ := HI.out.wf j hlt
      obtain ⟨c, hC⟩ : ∃ c, C j = c := ⟨_, rfl⟩
      obtain ⟨x, hX⟩ : ∃ x, X j = x := ⟨_, rfl⟩
      obtain ⟨s, hS⟩ : ∃ s, S j = s := ⟨_, rfl⟩
      rw [hC] at k0
      rw [hX] at k1 hx
      rw [hS] at k2 hs
      have HX := hide hx
      subst e1
      clear hC hX hS hc hx hs
      cases c
      · have HS := hide (sk_set (HK.out.more (Only.drew _ _)) x s HX.out (HN.out _ (by omega)))
        have k1d : wr.drew.cell? ⟨B, o + j * 3 + 1, none⟩ = some (.int .i64 x) := k1
        have k2d : wr.drew.cell? ⟨B, o + j * 3 + 2, none⟩ = some (.int .i64 s) := k2
        go_upto_region 9 with fail
        go_region_with (go_at_call 11; refine HS.out.mono ?_; rintro e w2 ⟨rfl, H2, _⟩; have HK2 := hide H2; clear H2)
        all_goals go_wp2_with fail
        all_goals exact ⟨⟨j + 1, _, by omega, by go_num, HK2⟩, by simp [intOf]; omega⟩
      · have HS := hide (sk_drop HK.out x HX.out)
        go_wp2_with fail
        refine HS.out.mono ?_
        rintro e w2 ⟨rfl, H2, _⟩
        have HK2 := hide H2
        clear H2
        go_wp2_with fail
        exact ⟨⟨j + 1, _, by omega, by go_num, HK2⟩, by simp [intOf]; omega⟩
    · go_wp2_with fail
      refine (sk_find HK.out room).mono ?_
      rintro e w2 ⟨p, ok, rfl, hF, H2, _⟩
      have HF := hide hF
      have HK2 := hide H2
      clear hF H2 HK
      go_wp2_with fail
      refine (sk_pages HK2.out (by omega)).mono ?_
      rintro e w3 ⟨al, cl, L, rfl, hL, hR, hLn, H3, _⟩
      have HL := hide hL
      have HK3 := hide H3
      obtain ⟨B1, hB1⟩ : ∃ B1, w2.heap.size = B1 := ⟨_, rfl⟩
      rw [hB1] at hR
      have HR := hide hR
      clear hL H3 hR HK2 hB1
      go_wp2_with fail
      go_loopw [12] (fun y wq => ∃ (k : Nat), k ≤ L.length ∧ y = .int .i64 (k : Int) ∧ Hid (Sk w wq t m j f) ∧ Hid (IRow wq B1 (.slice al L.length cl) L)) (fun y _ => L.length - (intOf y).toNat)
      case atStart => exact ⟨0, by omega, rfl, HK3, HR⟩
      case round =>
        clear HK3 HR
        obtain ⟨k, hk, rfl, HK, HR⟩ := hrel
        by_cases hlt2 : k < L.length
        · obtain ⟨g, e1, _, _, hc⟩ := HR.out.at_ hlt2
          obtain ⟨b, hb⟩ := HL.out.at_ hlt2
          obtain ⟨z, hz⟩ : ∃ z, L[k] = z := ⟨_, rfl⟩
          rw [hz] at hc hb
          have HB := hide hb
          have HZ := hide hz
          have HZN : Hid (N64 z) := HK.out.sp.ok z b hb
          have HRM := hide (sk_room HK.out z HZN.out)
          rw [hb] at HRM
          simp only [Option.getD_some, Option.isSome_some] at HRM
          have HKd := hide (HK.out.more (Only.drew _ _))
          have HRd := hide (HR.out.kept (Only.drew (fun _ => False) _) (fun _ _ => id))
          have hk0 : (0 : Int) ≤ (k : Int) := by omega
          have hk1 : (k : Int) < (L.length : Int) := by omega
          clear hb hz
          subst e1
          have hcd : wr.drew.cell? ⟨g, k, none⟩ = some (.int .i64 z) := hc
          go_upto_region 16 with (go_at_call 15; refine HRM.out.mono ?_; rintro e wx ⟨rfl, hw⟩; obtain rfl := hw.symm; clear hw)
          by_cases h0 : (k : Int) ≤ 0
          · have d0 : decide ((0 : Int) < (k : Int)) = false := by simp; omega
            have d2 : decide (0 < k) = false := by simp; omega
            have d3 : decide ((k : Int) > 0) = false := by simp; omega
            have d4 : ¬ (0 < k) := by omega
            by_cases hr : room ≤ b
            · have d1 : decide (room ≤ b) = true := by simp; omega
              have d1' : decide (b ≥ room) = true := by simp; omega
              cases ok with
              | false => exact absurd ((HF.out.no rfl).2 z b HB.out) (by omega)
              | true =>
                have hpz := (HF.out.is rfl).2 z b HB.out hr
                have d5 : decide (z < p) = false := by simp; omega
                go_quiet (fail)
                obtain ⟨W, hW⟩ : ∃ W, W = wr.drewN nq := ⟨_, rfl⟩
                have HO : Hid (Only (fun _ => False) wr W) := by rw [hW]; exact Only.drewN _ _ _
                rw [← hW]
                clear hW
                go_wp2_with fail
                exact ⟨⟨k + 1, by omega, by go_num, hide (HK.out.more HO.out), hide (HR.out.kept HO.out (fun _ _ => id))⟩, by simp [intOf]; omega⟩
            · have d1 : decide (room ≤ b) = false := by simp; omega
              have d1' : decide (b ≥ room) = false := by simp; omega
              go_quiet (fail)
              obtain ⟨W, hW⟩ : ∃ W, W = wr.drewN nq := ⟨_, rfl⟩
              have HO : Hid (Only (fun _ => False) wr W) := by rw [hW]; exact Only.drewN _ _ _
              rw [← hW]
              clear hW
              go_wp2_with fail
              exact ⟨⟨k + 1, by omega, by go_num, hide (HK.out.more HO.out), hide (HR.out.kept HO.out (fun _ _ => id))⟩, by simp [intOf]; omega⟩
          · have d0 : decide ((0 : Int) < (k : Int)) = true := by simp; omega
            have d2 : decide (0 < k) = true := by simp; omega
            have d3 : decide ((k : Int) > 0) = true := by simp; omega
            have d4 : 0 < k := by omega
            obtain ⟨k1, hk1'⟩ : ∃ k1, k = k1 + 1 := ⟨k - 1, by omega⟩
            have hlt3 : k1 < L.length := by omega
            obtain ⟨g', e1', _, _, hc'⟩ := HR.out.at_ hlt3
            cases e1'
            obtain ⟨z1, hz1⟩ : ∃ z1, L[k1] = z1 := ⟨_, rfl⟩
            rw [hz1] at hc'
            have hlz : z1 < z := by
              have h1 := HL.out.rise (j := k1) (by omega)
              rw [hz1] at h1
              have h2 := HZ.out
              have h3 : L[k1 + 1] = L[k] := by congr 1; omega
              rw [h3, h2] at h1
              exact h1
            have d6 : decide (z ≤ z1) = false := by simp; omega
            have hs1 : (k : Int) - 1 = (k1 : Int) := by omega
            have hw1 : IntKind.i64.wrap (k1 : Int) = (k1 : Int) := by rw [IntKind.wrap_i64]; omega
            have hk10 : (0 : Int) ≤ (k1 : Int) := by omega
            have hk11 : (k1 : Int) < (L.length : Int) := by omega
            clear hz1 hk1' hlz
            by_cases hr : room ≤ b
            · have d1 : decide (room ≤ b) = true := by simp; omega
              have d1' : decide (b ≥ room) = true := by simp; omega
              cases ok with
              | false => exact absurd ((HF.out.no rfl).2 z b HB.out) (by omega)
              | true =>
                have hpz := (HF.out.is rfl).2 z b HB.out hr
                have d5 : decide (z < p) = false := by simp; omega
                go_quiet (fail)
                obtain ⟨W, hW⟩ : ∃ W, W = wr.drewN nq := ⟨_, rfl⟩
                have HO : Hid (Only (fun _ => False) wr W) := by rw [hW]; exact Only.drewN _ _ _
                rw [← hW]
                clear hW
                go_wp2_with fail
                exact ⟨⟨k + 1, by omega, by go_num, hide (HK.out.more HO.out), hide (HR.out.kept HO.out (fun _ _ => id))⟩, by simp [intOf]; omega⟩
            · have d1 : decide (room ≤ b) = false := by simp; omega
              have d1' : decide (b ≥ room) = false := by simp; omega
              go_quiet (fail)
              obtain ⟨W, hW⟩ : ∃ W, W = wr.drewN nq := ⟨_, rfl⟩
              have HO : Hid (Only (fun _ => False) wr W) := by rw [hW]; exact Only.drewN _ _ _
              rw [← hW]
              clear hW
              go_wp2_with fail
              exact ⟨⟨k + 1, by omega, by go_num, hide (HK.out.more HO.out), hide (HR.out.kept HO.out (fun _ _ => id))⟩, by simp [intOf]; omega⟩
        · obtain ⟨mn, hmn⟩ : ∃ mn, min less room = mn := ⟨_, rfl⟩
          have HMN : Hid (mn ≤ room) := by show mn ≤ room; omega
          have HFD := hide (sk_find HK.out mn)
          cases ok with
          | false =>
            go_wp2_with (go_at_call 13; refine HFD.out.mono ?_; rintro e w5 ⟨q, also, rfl, hF5, H5, _⟩; have HK5 := hide H5; clear H5)
            refine (eawake_any _).mono ?_
            rintro e w9 ⟨rfl, hO9⟩
            go_wp2_with fail
            go_ret
            exact ⟨rfl, HK5.out.only.trans hO9 (fun _ _ h => h)⟩
          | true =>
            obtain ⟨⟨b, hb, hrb⟩, _⟩ := HF.out.is rfl
            have HRM := hide (sk_room HK.out p (HK.out.sp.ok p b hb))
            rw [hb] at HRM
            simp only [Option.getD_some, Option.isSome_some] at HRM
            have d1 : decide (b < room) = false := by simp; omega
            have hbr : ¬ b < room := by omega
            clear hb
            go_wp2_with (first | (go_at_call 15; refine HRM.out.mono ?_; rintro e wx ⟨rfl, hw⟩; obtain rfl := hw.symm; clear hw) | (go_at_call 13; refine HFD.out.mono ?_; rintro e w5 ⟨q, also, rfl, hF5, H5, _⟩; obtain ⟨rfl, hqp⟩ := HF.out.less hF5 HMN.out; have HK5 := hide H5; clear H5))
            refine (eawake_any _).mono ?_
            rintro e w9 ⟨rfl, hO9⟩
            go_wp2_with fail
            go_ret
            exact ⟨rfl, HK5.out.only.trans hO9 (fun _ _ h => h)⟩
end Go.Proofs.Ytahmmhmahglonaa
