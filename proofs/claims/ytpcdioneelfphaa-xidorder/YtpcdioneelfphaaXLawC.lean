/- The walk of XidLeft. -/
import Derived.Test.YtpcdioneelfphaaXLawA
namespace Go.Proofs.Ytpcdioneelfphaa
open Go.RowKit

theorem add_one {m n i : Int} (h : Idd m n) : xadd m (xadd m n i) 1 = xadd m n (i + 1) := by
  have hi := xadd_id (n := i) h
  unfold xadd at hi ⊢
  rw [if_pos h] at hi ⊢
  rw [if_pos hi, if_pos h]
  rw [show (n - 1 + i) % m + 1 - 1 + 1 = 1 + (n - 1 + i) % m from by omega, plus_mod, show 1 + (n - 1 + i) = n - 1 + (i + 1) from by omega]
theorem gap_plus {m n f i : Int} (h : Idd m n) (h' : Idd m f) (h0 : 0 ≤ i) (hi : xgap m f n + i ≤ m / 2 - 2) : Idd m (xadd m n i) ∧ xgap m f (xadd m n i) = xgap m f n + i := by
  have hy := xadd_id (n := i) h
  have h16 := h.1.1
  have hn := h.2
  have hf := h'.2
  have hy2 := hy.2
  refine ⟨hy, ?_⟩
  have hg := xgap_lt h' h
  have h1 := ring_on (n := i) h h0 (by omega)
  rw [ring_gap h' hy]
  rw [ring_gap h' h] at hi hg ⊢
  split at h1 <;> split at hi <;> split <;> omega
set_option maxHeartbeats 400000 in
theorem left_good (w : World) (m n f : Int) (hI : Idd m n) (hJ : Idd m f) (hg : xgap m f n ≤ m / 2 - 2) : Calls Try.prog 8 #[.int .i64 m, .int .i64 n, .int .i64 f] w fun e w' => e = .returned (.bool true) ∧ Below w.heap.size w w' := by
  have hnew := new_good w m n f hI hJ hg
  have h16 := hI.1.1
  have h1024 := hI.1.2.1
  have hl0 := xgap_lt hJ hI
  have HP := hide (fun i h0 hi => gap_plus (i := i) hI hJ h0 hi)
  have HQ := hide (fun i => add_one (i := i) hI)
  have HA := hide (fun i (h0 : 0 ≤ i) (h1 : i < 2000) w => add_any m n i w hI.i64.1 hI.i64.2 (I64.of (by omega) (by omega)))
  have H0 : Hid (xadd m n 0 = n) := by
    unfold Hid
    rw [ring_on hI (by omega) (by omega)]
    have := hI.2
    split <;> omega
  have HZ : Hid (∀ x, Idd m x → xgap m x x = 0) := fun x hx => by rw [ring_gap hx hx]; split <;> omega
  obtain ⟨g, hgg⟩ : ∃ g, xgap m f n = g := ⟨_, rfl⟩
  rw [hgg] at hg hl0
  simp only [hgg] at HP
  obtain ⟨d, hd⟩ : ∃ d, m / 2 - 2 - g = d := ⟨_, rfl⟩
  have HG := hide hgg
  clear hI hJ hgg
  go_enter Try.func8, Try.ntmps8
  go_wp2_with fail
  refine hnew.mono ?_
  rintro e w1 ⟨rfl, hc1, ho1⟩
  have H1 := hide hc1
  have O1 := hide ho1
  clear hc1 ho1 hnew
  go_wp2_with fail
  have hl := left_any _ _ _ _ _ H1.out
  rw [HG.out, hd] at hl
  refine hl.mono ?_
  rintro e w2 ⟨rfl, k, hk⟩
  have H2 := hide (show Cnt w2 w.heap.size m (xadd m n 0) f by rw [H0.out, hk]; exact H1.out.drew k)
  have O2 := hide (show Only (fun _ => False) w w2 by rw [hk]; exact O1.out.trans (onlyN (fun _ => False) _ _) (fun _ _ h => h))
  clear hl hk H1 O1
  have hdd : d ≤ m / 2 - 2 := by omega
  go_wp2_with fail
  go_loopw [10] (fun y wr => ∃ i : Int, y = .int .i64 i ∧ 0 ≤ i ∧ i ≤ d ∧ Hid (Cnt wr w.heap.size m (xadd m n i) f) ∧ Hid (Only (fun _ => False) w wr)) (fun y _ => (d - intOf y).toNat)
  case atStart => exact ⟨0, rfl, by omega, by omega, H2, O2⟩
  case round =>
    obtain ⟨i, rfl, hi0, hi1, HC, HO⟩ := hrel
    by_cases hlt : i < d
    · have hp := HP.out i hi0 (by omega)
      have ht := take_good _ _ _ _ _ HC.out (by rw [hp.2]; omega)
      rw [HQ.out] at ht
      have ha := fun w => HA.out i hi0 (by omega) w
      clear hp
      obtain ⟨y, hy⟩ : ∃ y, xadd m n i = y := ⟨_, rfl⟩
      rw [hy] at ht
      simp only [hy] at ha
      clear hy
      go_wp2_with fail
      refine ht.mono ?_
      rintro e w3 ⟨rfl, hc3, ho3⟩
      have H3 := hide hc3
      have O3 := hide (HO.out.trans ho3 (fun i hi h => by omega))
      clear hc3 ho3 ht
      go_wp2_with fail
      refine (ha _).mono ?_
      rintro e w' ⟨rfl, hw⟩; obtain rfl := hw.symm; clear hw
      go_wp2_with fail
      go_roundw
      case rel => exact ⟨i + 1, by go_num, by omega, by omega, H3, O3⟩
      case measure => simp [intOf]; omega
    · have hid : i = d := by omega
      have hp := HP.out i hi0 (by omega)
      have hz : xgap m f (xadd m n i) = m / 2 - 2 := by rw [hp.2]; omega
      have ht := take_none _ _ _ _ _ HC.out hz
      have HI := hide hp.1
      have HGZ := hide hz
      clear hp hz
      obtain ⟨y, hy⟩ : ∃ y, xadd m n i = y := ⟨_, rfl⟩
      rw [hy] at HC HI HGZ
      clear hid hy
      go_wp2_with fail
      refine ht.mono ?_
      rintro e w3 ⟨rfl, k3, hk3⟩
      clear ht
      have H3 := hide (HC.out.drew k3)
      have O3 := hide (HO.out.trans (onlyN (fun _ => False) _ k3) (fun _ _ h => h))
      rw [← hk3] at H3 O3
      clear hk3
      have hl := left_any _ _ _ _ _ H3.out
      rw [HGZ.out, Int.sub_self] at hl
      go_wp2_with fail
      refine hl.mono ?_
      rintro e w4 ⟨rfl, k4, hk4⟩
      clear hl
      have H4 := hide (H3.out.drew k4)
      have O4 := hide (O3.out.trans (onlyN (fun _ => False) _ k4) (fun _ _ h => h))
      rw [← hk4] at H4 O4
      clear hk4
      clear H3 O3
      go_wp2_with fail
      refine (next_any _ _ _ _ _ H4.out).mono ?_
      rintro e w' ⟨rfl, hw⟩; obtain rfl := hw.symm; clear hw
      go_wp2_with fail
      refine (freeze_good _ _ _ _ _ _ H4.out HI.out (Int.le_refl _)).mono ?_
      rintro e w5 ⟨rfl, hc5, ho5⟩
      have H5 := hide hc5
      have O5 := hide (O4.out.trans ho5 (fun i hi h => by omega))
      clear hc5 ho5 H4 O4
      have hl := left_any _ _ _ _ _ H5.out
      rw [HZ.out _ HI.out, Int.sub_zero] at hl
      go_wp2_with fail
      refine hl.mono ?_
      rintro e w6 ⟨rfl, k6, hk6⟩
      have O6 := hide (O5.out.trans (onlyN (fun _ => False) _ k6) (fun _ _ h => h))
      rw [← hk6] at O6
      clear hk6
      clear hl O5
      go_wp2_with fail
      refine (awake_any _).mono ?_
      rintro e w7 ⟨rfl, ho⟩
      go_wp2_with fail
      go_ret
      exact ⟨rfl, (O6.out.trans ho (fun _ _ h => h)).low⟩
theorem left_law (w : World) (m n f : Int) (hm : I64 m) (hn : I64 n) (hf : I64 f) : Calls Try.prog 8 #[.int .i64 m, .int .i64 n, .int .i64 f] w fun e w' => e = .returned (.bool true) ∧ Below w.heap.size w w' := by
  by_cases h : Idd m n ∧ Idd m f ∧ xgap m f n ≤ m / 2 - 2
  · exact left_good w m n f h.1 h.2.1 h.2.2
  · have hnew := new_bad w m n f hm hn hf h
    clear hm hn hf h
    go_enter Try.func8, Try.ntmps8
    go_wp2_with fail
    refine hnew.mono ?_
    rintro e w' ⟨rfl, hw⟩; obtain rfl := hw.symm; clear hw
    go_wp2_with fail
    refine (awake_any _).mono ?_
    rintro e w1 ⟨rfl, ho⟩
    go_wp2_with fail
    go_ret
    exact ⟨rfl, ho.low⟩
end Go.Proofs.Ytpcdioneelfphaa
