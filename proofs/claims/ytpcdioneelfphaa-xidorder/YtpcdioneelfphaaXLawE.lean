/- The walk of XidOrder. -/
import Derived.Test.YtpcdioneelfphaaXLiv
namespace Go.Proofs.Ytpcdioneelfphaa
open Go.RowKit

/-- The counter, and those given since its limit, one behind the other. -/
structure Ord (w W : World) (m f : Int) (ao : Option Addr) (L cap : Nat) : Prop where
  cnt : Cnt W w.heap.size m (xadd m f (L : Int)) f
  liv : Liv W (w.heap.size + 1) ao L cap (fun k => xadd m f (k : Int))
  only : Only (fun _ => False) w W
theorem Ord.more {w W W' : World} {m f : Int} {ao : Option Addr} {L cap : Nat} (h : Ord w W m f ao L cap) (ho : Only (fun _ => False) W W') : Ord w W' m f ao L cap :=
  ⟨h.cnt.kept ho (fun h => h), h.liv.kept ho (fun _ _ h => h), h.only.trans ho (fun _ _ h => h)⟩
theorem Ord.quiet {w W W' : World} {m f : Int} {ao : Option Addr} {L cap : Nat} (h : Ord w W m f ao L cap) (hk : ∃ k, W' = W.drewN k) : Ord w W' m f ao L cap := by
  obtain ⟨k, rfl⟩ := hk
  exact h.more (onlyN _ _ _)
set_option maxRecDepth 100000 in
set_option maxHeartbeats 3200000 in
theorem order_good (w : World) (m next : Int) (B : Nat) (ao : Option Addr) (len cap : Nat) (A F : Nat → Int) (hI : Idd m next) (hops : Cls w B ao len A F) :
    Calls Try.prog 5 #[.int .i64 m, .int .i64 next, .slice ao len cap] w fun e w' => e = .returned (.bool true) ∧ Below w.heap.size w w' := by
  have HOP := hide hops
  have hlen := hops.len
  have h16 := hI.1.1
  have h1024 := hI.1.2.1
  have hg0 : xgap m next next = 0 := by have := gap_on hI (n := 0) (by omega) (by omega); rwa [xadd_zero hI] at this
  have hnew := new_good w m next next hI hI (by omega)
  have H0 := hide (xadd_zero hI)
  clear hops hg0 hI
  go_enter Try.func5, Try.ntmps5
  go_wp2_with fail
  refine hnew.mono ?_
  rintro e w1 ⟨rfl, hc1, ho1⟩
  have HS0 := hide (show Ord w w1 m next none 0 0 from ⟨by rw [show ((0 : Nat) : Int) = 0 from rfl, H0.out]; exact hc1, Liv.bare _ _ _, ho1⟩)
  clear hnew hc1 ho1
  go_wp2_with fail
  go_loopw [9, 10] (fun lv y wr => ∃ (i L : Nat) (f : Int) (av : Option Addr) (cv : Nat), i ≤ len ∧ y = .int .i64 (i : Int) ∧ lv = .slice av L cv ∧ (L : Int) ≤ m / 2 - 2 ∧ Hid (Ord w wr m f av L cv)) (fun _ y _ => len - (intOf y).toNat)
  case atStart => exact ⟨0, 0, next, none, 0, by omega, rfl, rfl, by omega, HS0⟩
  case round =>
    obtain ⟨i, L, f, av, cv, hi, rfl, rfl, hL, HS⟩ := hrel
    have HF := hide HS.out.cnt.idf
    by_cases hlt : i < len
    · obtain ⟨o, hao, hcs⟩ := (HOP.out.kept HS.out.only (fun _ h => h)).at_ (by omega)
      have hca := (hcs i hlt).1
      have hcf := (hcs i hlt).2
      clear hcs
      have HA := hide (HOP.out.wf i hlt)
      subst hao
      obtain ⟨ai, hai⟩ : ∃ a, A i = a := ⟨_, rfl⟩
      obtain ⟨fi, hfi⟩ : ∃ a, F i = a := ⟨_, rfl⟩
      rw [hai] at hca HA
      rw [hfi] at hcf HA
      clear hai hfi
      by_cases h0 : ai = 0
      · have h0b : (ai == 0) = true := by simpa using h0
        clear h0
        by_cases hz : (L : Int) = m / 2 - 2
        · have ht1 := take_none _ _ _ _ _ HS.out.cnt (by rw [gap_on HF.out (by omega) (by omega)]; exact hz)
          clear hz
          go_wp2_with fail
          refine ht1.mono ?_
          rintro e w5 ⟨rfl, hk5⟩
          have HS9 := hide (HS.out.quiet hk5)
          clear ht1 hk5 hca hcf
          go_wp2_with fail
          go_roundw
          case rel => exact ⟨i + 1, L, f, av, cv, by omega, by go_num, rfl, hL, HS9⟩
          case measure => simp [intOf]; omega
        · have hL1 : (L : Int) + 1 ≤ m / 2 - 2 := by omega
          have ht1 := take_good _ _ _ _ _ HS.out.cnt (by rw [gap_on HF.out (by omega) (by omega)]; exact hz)
          rw [xadd_add HF.out] at ht1
          have HAH := hide (fun k : Nat => fun (hk : k < L) => ahead (k := (k : Int)) (n := (L : Int)) HF.out (by omega) (by omega) hL)
          have HID := hide (fun n : Int => (xadd_id (n := n) HF.out).i64)
          obtain ⟨x, hx⟩ : ∃ x, xadd m f (L : Int) = x := ⟨_, rfl⟩
          simp only [hx] at HAH
          rw [hx] at ht1
          have HX := hide hx
          clear hz hx
          go_wp2_with fail
          refine ht1.mono ?_
          rintro e w5 ⟨rfl, hc5, ho5⟩
          have HC5 := hide hc5
          have HL5 := hide (HS.out.liv.kept ho5 (fun k hk e => by omega))
          have HO5 := hide (HS.out.only.trans ho5 (fun i hi h => by omega))
          clear ht1 hc5 ho5 hca hcf
          go_wp2_with fail
          go_loop [13] (fun y => ∃ k : Nat, k ≤ L ∧ y = .int .i64 (k : Int)) (fun y => L - (intOf y).toNat)
          case atStart => exact ⟨0, by omega, rfl⟩
          case round =>
            obtain ⟨k, hk, rfl⟩ := hrel
            by_cases hkl : k < L
            · have hn0 : av ≠ none := fun e => by have := HL5.out.nil e; omega
              obtain ⟨a1, ha1⟩ := Option.ne_none_iff_exists'.1 hn0
              obtain ⟨b, oo, hbo, _, _, hcell, _⟩ := HL5.out.at_ _ ha1
              rw [hbo] at ha1
              have hck := hcell k hkl
              obtain ⟨z1, z2, z3⟩ := HAH.out k hkl
              have hb1 := fun W => before_any m (xadd m f (k : Int)) x W HF.out.i64.1 (HID.out k).2 (by rw [← HX.out]; exact (HID.out L).2)
              have hb2 := fun W => before_any m x (xadd m f (k : Int)) W HF.out.i64.1 (by rw [← HX.out]; exact (HID.out L).2) (HID.out k).2
              simp only [z2] at hb1
              simp only [z3] at hb2
              obtain ⟨y, hy⟩ : ∃ y, xadd m f (k : Int) = y := ⟨_, rfl⟩
              rw [hy] at hck z1
              simp only [hy] at hb1 hb2
              have hyx : (y == x) = false := by simpa using z1
              subst ha1
              have HB1 := hide hb1
              have HB2 := hide hb2
              clear z1 z2 z3 hn0 hbo hcell hy hb1 hb2
              go_wp2_with fail
              refine (HB1.out _).mono ?_
              rintro e w' ⟨rfl, hw⟩; obtain rfl := hw.symm; clear hw
              go_wp2_with fail
              refine (HB2.out _).mono ?_
              rintro e w' ⟨rfl, hw⟩; obtain rfl := hw.symm; clear hw
              go_wp2_with fail
              go_round
              case rel => exact ⟨k + 1, by omega, by go_num⟩
              case measure => simp [intOf]; omega
            · have hlt5 := HC5.out.lt
              obtain ⟨av', cv', w6, hr6, hl6, ho6⟩ := append_liv w5 (w5.alloc (.cells #[.int .i64 x] 3)) 44 (w.heap.size + 1) av L cv _ HL5.out x (by omega) (by omega) (Only.alloc _ _ _) w5.heap.size (by
                have hh := heap_alloc_new w5 (.cells #[.int .i64 x] 3)
                unfold World.cell?; simp only [hh]; rfl)
              have HS9 := hide (show Ord w w6 m f av' (L + 1) cv' from ⟨by
                have := HC5.out.kept ho6 (by omega)
                rwa [show ((L + 1 : Nat) : Int) = (L : Int) + 1 from by omega], hl6.as (fun j hj => by
                  unfold upd
                  by_cases e : j = L
                  · subst e; rw [if_pos rfl]; exact HX.out.symm
                  · rw [if_neg e]), HO5.out.trans ho6 (fun i hi h => by omega)⟩)
              have R6 := hide hr6
              clear hr6 hl6 ho6 hlt5
              go_wp2_with (first
                | (at_builtin; refine Lib.wpList_append_run _ rfl (.tmp 84) (.tmp 86) _ _ rfl _ _ rfl rfl _ _ R6.out ?_))
              go_roundw
              case rel => exact ⟨i + 1, L + 1, f, av', cv', by omega, by go_num, rfl, by omega, HS9⟩
              case measure => simp [intOf]; omega
      · have h0b : (ai == 0) = false := by simpa using h0
        clear h0
        have hfi1 := HA.out.2.1
        have hfi2 := HA.out.2.2
        by_cases hneg : fi < 0
        · go_wp2_with fail
          go_roundw
          case rel => exact ⟨i + 1, L, f, av, cv, by omega, by go_num, rfl, hL, HS⟩
          case measure => simp [intOf]; omega
        · by_cases hbig : (L : Int) < fi
          · go_wp2_with fail
            go_roundw
            case rel => exact ⟨i + 1, L, f, av, cv, by omega, by go_num, rfl, hL, HS⟩
            case measure => simp [intOf]; omega
          · obtain ⟨q, hq⟩ : ∃ q : Nat, (q : Int) = fi := ⟨fi.toNat, by omega⟩
            have hqL : q ≤ L := by omega
            subst hq
            have hfr := freeze_good _ _ _ _ _ _ HS.out.cnt (xadd_id (n := (q : Int)) HF.out) (by rw [gap_on HF.out (by omega) (by omega), gap_on HF.out (by omega) (by omega)]; omega)
            have HN := hide (next_any _ _ _ _ _ HS.out.cnt)
            have hle := HS.out.liv.le
            have hcb := HS.out.liv.big
            unfold maxLen at hcb
            have HE : Hid (xadd m (xadd m f (q : Int)) ((L - q : Nat) : Int) = xadd m f (L : Int)) := by
              unfold Hid
              rw [xadd_add HF.out]
              congr 1
              omega
            cases av with
            | none =>
              obtain ⟨e1, e2⟩ := HS.out.liv.nil rfl
              subst e1
              subst e2
              have e3 : q = 0 := by omega
              subst e3
              have hnx := HN.out
              rw [show xadd m f ((0 : Nat) : Int) = xadd m f 0 from rfl] at hnx hfr
              go_wp2_with fail
              refine hnx.mono ?_
              rintro e w' ⟨rfl, hw⟩; obtain rfl := hw.symm; clear hw hnx
              go_wp2_with fail
              refine hfr.mono ?_
              rintro e w5 ⟨rfl, hc5, ho5⟩
              have HS9 := hide (show Ord w w5 m (xadd m f 0) none 0 0 from ⟨by
                have := HE.out
                rw [show ((0 - 0 : Nat) : Int) = ((0 : Nat) : Int) from rfl] at this
                rw [show xadd m (xadd m f 0) ((0 : Nat) : Int) = xadd m f 0 from this]
                exact hc5, Liv.bare _ _ _, HS.out.only.trans ho5 (fun i hi h => by omega)⟩)
              clear hfr hc5 ho5
              go_wp2_with fail
              go_roundw
              case rel => exact ⟨i + 1, 0, _, none, 0, by omega, by go_num, rfl, by omega, HS9⟩
              case measure => simp [intOf]; omega
            | some a1 =>
              obtain ⟨b, oo, hbo, _, _, hcell, _⟩ := HS.out.liv.at_ a1 rfl
              subst hbo
              obtain ⟨A2, hA2⟩ : ∃ A2, (if cv = q then some (⟨b, oo, none⟩ : Addr) else some ⟨b, oo + q, none⟩) = A2 := ⟨_, rfl⟩
              have hcut := HS.out.liv.cut hqL
              rw [hA2] at hcut
              have HCUT := hide (hcut.as (g' := fun k => xadd m (xadd m f (q : Int)) (k : Int)) (fun j hj => by
                rw [xadd_add HF.out]
                congr 1))
              clear hcut
              have hqc : (q : Int) ≤ (cv : Int) := by omega
              have hqL' : (q : Int) ≤ (L : Int) := by omega
              by_cases hqq : q < L
              · have hck := hcell q hqq
                have HA3 : Hid (some (⟨b, oo + q, none⟩ : Addr) = A2) := by
                  unfold Hid
                  rw [← hA2, if_neg (by omega)]
                obtain ⟨y, hy⟩ : ∃ y, xadd m f (q : Int) = y := ⟨_, rfl⟩
                rw [hy] at hck hfr HE
                simp only [hy] at HCUT
                clear hy hcell
                go_wp2_with fail
                refine HN.out.mono ?_
                rintro e w' ⟨rfl, hw⟩; obtain rfl := hw.symm; clear hw
                go_wp2_with fail
                refine hfr.mono ?_
                rintro e w5 ⟨rfl, hc5, ho5⟩
                have HS9 := hide (show Ord w w5 m y A2 (L - q) (cv - q) from ⟨by rw [HE.out]; exact hc5, HCUT.out.kept ho5 (fun k hk e => by omega), HS.out.only.trans ho5 (fun i hi h => by omega)⟩)
                clear hfr hc5 ho5 hck
                go_wp2_with fail
                go_roundw
                case rel => exact ⟨i + 1, L - q, y, A2, cv - q, by omega, by go_num, by rw [HA3.out], by omega, HS9⟩
                case measure => simp [intOf]; omega
              · have eq : q = L := by omega
                subst eq
                obtain ⟨y, hy⟩ : ∃ y, xadd m f (q : Int) = y := ⟨_, rfl⟩
                rw [hy] at hfr HE HN
                simp only [hy] at HCUT
                clear hy hcell hqq
                go_wp2_with fail
                refine HN.out.mono ?_
                rintro e w' ⟨rfl, hw⟩; obtain rfl := hw.symm; clear hw
                go_wp2_with fail
                refine hfr.mono ?_
                rintro e w5 ⟨rfl, hc5, ho5⟩
                have HS9 := hide (show Ord w w5 m y A2 (q - q) (cv - q) from ⟨by rw [HE.out]; exact hc5, HCUT.out.kept ho5 (fun k hk e => by omega), HS.out.only.trans ho5 (fun i hi h => by omega)⟩)
                clear hfr hc5 ho5
                go_wp2_with fail
                go_roundw
                case rel => exact ⟨i + 1, q - q, y, A2, cv - q, by omega, by go_num, by simp, by omega, HS9⟩
                case measure => simp [intOf]; omega
    · have hl := left_any _ _ _ _ _ HS.out.cnt
      rw [gap_on HF.out (by omega) (by omega)] at hl
      go_wp2_with fail
      refine hl.mono ?_
      rintro e w3 ⟨rfl, hk⟩
      have HS9 := hide (HS.out.quiet hk)
      clear hl hk
      go_wp2_with fail
      refine (awake_any _).mono ?_
      rintro e w4 ⟨rfl, ho⟩
      go_wp2_with fail
      go_ret
      exact ⟨rfl, (HS9.out.only.trans ho (fun _ _ h => h)).low⟩
theorem order_law (w : World) (m next : Int) (B : Nat) (ao : Option Addr) (len cap : Nat) (A F : Nat → Int) (hm : I64 m) (hn : I64 next) (hops : Cls w B ao len A F) :
    Calls Try.prog 5 #[.int .i64 m, .int .i64 next, .slice ao len cap] w fun e w' => e = .returned (.bool true) ∧ Below w.heap.size w w' := by
  by_cases h : Idd m next
  · exact order_good w m next B ao len cap A F h hops
  · have hn1 := fun W => new_bad W m next next hm hn hn (fun k => h k.1)
    clear hm hn h hops
    go_enter Try.func5, Try.ntmps5
    go_wp2_with fail
    refine (hn1 _).mono ?_
    rintro e w1 ⟨rfl, hw⟩; obtain rfl := hw.symm; clear hw
    go_wp2_with fail
    refine (awake_any _).mono ?_
    rintro e w3 ⟨rfl, ho⟩
    go_wp2_with fail
    go_ret
    exact ⟨rfl, ho.low⟩
end Go.Proofs.Ytpcdioneelfphaa
