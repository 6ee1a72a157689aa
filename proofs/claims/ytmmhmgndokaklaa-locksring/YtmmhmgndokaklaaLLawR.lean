/- The walk of LocksRing. -/
import Derived.Test.YtmmhmgndokaklaaLLawA
import Derived.Deep.RegionWith
namespace Go.Proofs.Ytmmhmgndokaklaa
open Go.RowKit Go.Maps

theorem heldIs_pos {T : Tb} {who : Int} {L : List ByteArray} (h : HeldIs T who L) {k : ByteArray} (hk : T.hold k = some who) : 0 < L.length := List.length_pos_of_mem ((h.mem k).2 hk)
theorem nodup_le {V L : List Int} (hn : V.Nodup) (hs : ∀ x ∈ V, x ∈ L) : V.length ≤ L.length := hn.length_le_of_subset hs
set_option maxRecDepth 100000 in
set_option maxHeartbeats 3200000 in
theorem ring_law (w : World) (B : Nat) (ao : Option Addr) (n cap : Nat) (C : Nat → Bool) (X : Nat → Int) (S : Nat → ByteArray) (hI : Ops w B ao n C X S) (hn : n ≤ 4398046510976) :
    Calls Try.prog 4 #[.slice ao n cap] w fun e w' => e = .returned (.bool true) ∧ Only (fun _ => False) w w' := by
  have HI := hide hI
  clear hI
  go_enter Try.func4, Try.ntmps4
  go_wp2_with fail
  refine (lk_new w).mono ?_
  rintro e w1 ⟨t, h, m, rfl, H1⟩
  have HK1 := hide H1
  clear H1
  go_wp2_with fail
  go_loopw [4] (fun y wr => ∃ (j : Nat) (T : Tb), j ≤ n ∧ y = .int .i64 (j : Int) ∧ Hid (Lk w wr t h m j T)) (fun y _ => n - (intOf y).toNat)
  case atStart => exact ⟨0, _, by omega, rfl, HK1⟩
  case round =>
    clear HK1
    obtain ⟨j, T, hj, rfl, HK⟩ := hrel
    by_cases hlt : j < n
    · obtain ⟨o, e1, hc⟩ := (HI.out.more HK.out.only).at_ (by omega)
      obtain ⟨k0, k1, k2⟩ := hc j hlt
      obtain ⟨hx, hs⟩ := HI.out.wf j hlt
      obtain ⟨c, hC⟩ : ∃ c, C j = c := ⟨_, rfl⟩
      obtain ⟨x, hX⟩ : ∃ x, X j = x := ⟨_, rfl⟩
      obtain ⟨s, hS⟩ : ∃ s, S j = s := ⟨_, rfl⟩
      rw [hC] at k0
      rw [hX] at k1 hx
      rw [hS] at k2 hs
      have HX := hide hx
      have HS := hide hs
      subst e1
      clear hC hX hS hc hx hs
      go_upto_if 26 with fail
      go_cut [26] (fun _ wc => ∃ T2, Hid (Lk w wc t h m (j + 1) T2))
      case first =>
        cases c
        · have HTR := hide (lk_try (HK.out.more (Only.drew _ _)) x s HX.out HS.out (by omega))
          have k1d : wr.drew.cell? ⟨B, o + j * 3 + 1, none⟩ = some (.int .i64 x) := k1
          have k2d : wr.drew.cell? ⟨B, o + j * 3 + 2, none⟩ = some (.string s) := k2
          go_upto_region 9 with fail
          go_region_with (go_at_call 12; refine HTR.out.mono ?_; rintro e w3 ⟨rfl, H3, hkp⟩; have HK3 := hide H3; clear H3 hkp)
          all_goals go_wp2_with fail
          all_goals go_meet
          all_goals exact ⟨_, HK3⟩
        · have HTR := hide (lk_release HK.out x HX.out (by omega))
          go_wp2_with fail
          refine HTR.out.mono ?_
          rintro e w3 ⟨v, L, rfl, _, _, _, H3, hkp⟩
          have H4 := hide (H3.mono (n' := j + 1) (by omega))
          clear H3 hkp
          go_wp2_with fail
          go_meet
          exact ⟨_, H4⟩
      case rest =>
        obtain ⟨T2, HK2⟩ := hcut
        clear HK k0 k1 k2
        obtain ⟨rk, hrk⟩ := HK2.out.tab.ok.rank
        have HRK : Hid (∀ a b, T2.Next a b → rk b < rk a) := hrk
        clear hrk
        go_wp2_with fail
        refine (lk_waiting HK2.out (by omega)).mono ?_
        rintro e w4 ⟨v, L, rfl, hL, hIR, hLn, H4, hO4⟩
        obtain ⟨al, cl, rfl⟩ := hIR.form
        have HL := hide hL
        have HK4 := hide H4
        have HIR : Hid (IRow w4 w.heap.size (.slice al L.length cl) L) := hIR.base (by have := HK2.out.only.size; omega)
        clear hL hIR H4 hO4 HK2
        go_wp2_with fail
        go_loopw [6] (fun y wr => ∃ k : Nat, k ≤ L.length ∧ y = .int .i64 (k : Int) ∧ Hid (Lk w wr t h m (j + 1) T2) ∧ Hid (IRow wr w.heap.size (.slice al L.length cl) L)) (fun y _ => L.length - (intOf y).toNat)
        case atStart => exact ⟨0, by omega, rfl, HK4, HIR⟩
        case round =>
          clear HK4 HIR
          obtain ⟨k, hk, rfl, HK5, HIR⟩ := hrel
          by_cases hkl : k < L.length
          · obtain ⟨g, e1, hgb, hgl, hcg⟩ := HIR.out.at_ hkl
            obtain ⟨z, hz⟩ : ∃ z, L[k] = z := ⟨_, rfl⟩
            rw [hz] at hcg
            have hzm : z ∈ L := by rw [← hz]; exact List.getElem_mem hkl
            have HZE := hide hz
            obtain ⟨kz, hkz⟩ := (HL.out.mem z).1 hzm
            have HKZ := hide hkz
            have HZ64 : Hid (N64 z) := (HK5.out.tab.ok.w64 z kz hkz).1
            subst e1
            clear hz hzm hkz
            go_wp2_with fail
            go_loopw [7, 8] (fun va vn wr => ∃ (a : Int) (V : List Int), va = .int .i64 a ∧ vn = .int .i64 (V.length : Int) ∧ Hid (V.Nodup ∧ (∀ x ∈ V, x ∈ L) ∧ (∀ x ∈ V, rk a < rk x)) ∧ Hid (N64 a) ∧ Hid ((V = [] ∧ a = z) ∨ (rk a < rk z ∧ ∃ key, T2.hold key = some a)) ∧ Hid (Lk w wr t h m (j + 1) T2) ∧ Hid (IRow wr w.heap.size (.slice (some ⟨g, 0, none⟩) L.length cl) L)) (fun va _ _ => rk (intOf va))
            case atStart => exact ⟨z, [], rfl, rfl, ⟨List.nodup_nil, by simp, by simp⟩, HZ64, .inl ⟨rfl, rfl⟩, HK5, HIR⟩
            case round =>
              clear HK5 HIR
              obtain ⟨a, V, rfl, rfl, HV, HA64, HOR, HK6, HIR⟩ := hrel
              go_wp2_with fail
              refine (lk_waits HK6.out a HA64.out).mono ?_
              rintro e w6 ⟨rfl, H7, hO7⟩
              have HK7 := hide H7
              have HIR7 : Hid (IRow w6 w.heap.size (.slice (some ⟨g, 0, none⟩) L.length cl) L) := HIR.out.kept hO7 (fun _ _ => id)
              clear H7 hO7 HK6 HIR
              rcases some_or (T2.wait a) with hw | ⟨ka, hw⟩
              · rw [hw]
                simp only [Option.getD_none, Option.isSome_none]
                have HEX : Hid (∃ key, T2.hold key = some a) := by
                  rcases HOR.out with ⟨_, e⟩ | ⟨_, e⟩
                  · rw [e, HKZ.out] at hw; cases hw
                  · exact e
                clear hw
                go_wp2_with fail
                refine (lk_held HK7.out a (by omega)).mono ?_
                rintro e w8 ⟨v, L2, rfl, hL2, hS2, _, H8, hO8⟩
                obtain ⟨a2, c2, rfl⟩ := hS2.form
                obtain ⟨key, hkey⟩ := HEX.out
                have hpos := heldIs_pos hL2 hkey
                have HK8 := hide H8
                have HIR8 : Hid (IRow w8 w.heap.size (.slice (some ⟨g, 0, none⟩) L.length cl) L) := HIR7.out.kept hO8 (fun _ _ => id)
                have hlb : ((L2.length : Int) == 0) = false := by rw [beq_eq_false_iff_ne]; omega
                clear hL2 hS2 hO8 H8 hkey hpos
                go_wp2_with fail
                exact ⟨⟨k + 1, by omega, by go_num, HK8, HIR8⟩, by simp [intOf]; omega⟩
              · obtain ⟨b, hb⟩ := HK7.out.tab.ok.held a ka hw
                have HNX : Hid (T2.Next a b) := ⟨ka, hw, hb⟩
                have hka := (HK7.out.tab.ok.w64 a ka hw).2
                have HB64 : Hid (N64 b) := HK7.out.tab.ok.i64 ka b hb
                have ham : a ∈ L := (HL.out.mem a).2 ⟨ka, hw⟩
                have hrb := HRK.out a b HNX.out
                have hrz : rk a ≤ rk z := by
                  rcases HOR.out with ⟨_, e⟩ | ⟨e, _⟩
                  · rw [e]; omega
                  · omega
                have hav : a ∉ V := fun e => by have := HV.out.2.2 a e; omega
                have HV2 : Hid ((a :: V).Nodup ∧ (∀ x ∈ a :: V, x ∈ L) ∧ (∀ x ∈ a :: V, rk b < rk x)) := by
                  refine ⟨List.nodup_cons.2 ⟨hav, HV.out.1⟩, fun x hx => ?_, fun x hx => ?_⟩
                  · rcases List.mem_cons.1 hx with e | e
                    · rw [e]; exact ham
                    · exact HV.out.2.1 x e
                  · rcases List.mem_cons.1 hx with e | e
                    · rw [e]; exact hrb
                    · have := HV.out.2.2 x e; omega
                have hvl : V.length ≤ L.length := nodup_le HV.out.1 HV.out.2.1
                have hbz : (b == z) = false := by
                  simp
                  intro e
                  rw [e] at hrb
                  omega
                have HOR2 : Hid (((a :: V) = [] ∧ b = z) ∨ (rk b < rk z ∧ ∃ key, T2.hold key = some b)) := .inr ⟨by omega, ka, hb⟩
                have HRB := hide hrb
                obtain ⟨g', e1, _, _, hcg7⟩ := HIR7.out.at_ hkl
                cases e1
                rw [HZE.out] at hcg7
                rw [hw]
                simp only [Option.getD_some, Option.isSome_some]
                have HHB := hide hb
                clear hw hrb hrz hav ham hb
                go_wp2_with fail
                refine (lk_holder HK7.out ka hka).mono ?_
                rintro e wx ⟨rfl, hw⟩
                obtain rfl := hw.symm
                clear hw
                rw [HHB.out]
                simp only [Option.getD_some, Option.isSome_some]
                go_wp2_with fail
                exact ⟨⟨b, a :: V, rfl, by simp, HV2, HB64, HOR2, HK7, HIR7⟩, HRB.out⟩
          · go_wp2_with fail
            exact ⟨⟨j + 1, T2, by omega, by go_num, HK5⟩, by simp [intOf]; omega⟩
    · go_wp2_with fail
      refine (lawake_any wr).mono ?_
      rintro e w9 ⟨rfl, hO⟩
      go_wp2_with fail
      go_ret
      exact ⟨rfl, HK.out.only.trans hO (fun _ _ h => h)⟩
end Go.Proofs.Ytmmhmgndokaklaa
