/- What Add, Gap and Before do, of package xid and of the document. -/
import Derived.Test.YtcpgflkjeglgbaaXWalkA
namespace Go.Proofs.Ytcpgflkjeglgbaa
open Go.RowKit

theorem I64.of {n : Int} (h0 : -9223372036854775808 ≤ n) (h1 : n < 9223372036854775808) : I64 n := ⟨h0, h1⟩
theorem add_any (m x n : Int) (w : World) (hm : I64 m) (hx : I64 x) (hn : I64 n) :
    Calls Try.prog 34 #[.int .i64 m, .int .i64 x, .int .i64 n] w fun e w' => e = .returned (.int .i64 (xadd m x n)) ∧ w' = w := by
  have hc := isID_any m x w hm hx
  by_cases hI : Idd m x
  · rw [decide_eq_true hI] at hc
    have h16 := hI.1.1
    have h1024 := hI.1.2.1
    have hx1 := hI.2.1
    have hx2 := hI.2.2
    have hb := tmod_bd (n := n) h16
    have ha := fun w => around_any m (x - 1 + n.tmod m) w h16 h1024 (I64.of (by omega) (by omega))
    rw [add_is h16] at ha
    have hq : xadd m x n = (x - 1 + n) % m + 1 := by unfold xadd; rw [if_pos hI]
    have hs := emod_bd (n := x - 1 + n) h16
    rw [hq]
    have hn1 := hn.1
    have hn2 := hn.2
    clear hI hm hx hn hq
    obtain ⟨r, hr⟩ : ∃ r, (x - 1 + n) % m = r := ⟨_, rfl⟩
    rw [hr] at ha hs
    rw [hr]
    clear hr
    obtain ⟨k, hk⟩ : ∃ k, n.tmod m = k := ⟨_, rfl⟩
    rw [hk] at ha hb
    go_enter Try.func34, Try.ntmps34
    go_wp2_with (first
      | (go_at_call 56; refine hc.mono ?_; rintro e w' ⟨rfl, hw⟩; obtain rfl := hw.symm; clear hw)
      | (go_at_call 57; refine (ha _).mono ?_; rintro e w' ⟨rfl, hw⟩; obtain rfl := hw.symm; clear hw))
    go_ret
    exact ⟨rfl, rfl⟩
  · rw [decide_eq_false hI] at hc
    have hq : xadd m x n = 0 := by unfold xadd; rw [if_neg hI]
    rw [hq]
    clear hI hq hm hx hn
    go_enter Try.func34, Try.ntmps34
    go_wp2_with (first
      | (go_at_call 56; refine hc.mono ?_; rintro e w' ⟨rfl, hw⟩; obtain rfl := hw.symm; clear hw))
    go_ret
    exact ⟨rfl, rfl⟩
theorem xgap_id {m a b : Int} (h : 1 ≤ xgap m a b) : 16 ≤ m ∧ m ≤ 1024 := by
  unfold xgap at h
  split at h
  · rename_i k
    exact ⟨k.1.1.1, k.1.1.2.1⟩
  · omega
/- The document's. -/
theorem xadd_any (m x n : Int) (w : World) (hm : I64 m) (hx : I64 x) (hn : I64 n) :
    Calls Try.prog 36 #[.int .i64 m, .int .i64 x, .int .i64 n] w fun e w' => e = .returned (.int .i64 (xadd m x n)) ∧ w' = w := by
  have hc := right_any m w hm
  have hd := id_any m x w hm hx
  by_cases hM : Md m
  · rw [decide_eq_true hM] at hc
    by_cases hI : 1 ≤ x ∧ x ≤ m
    · rw [decide_eq_true hI] at hd
      have h16 := hM.1
      have h1024 := hM.2.1
      have hx1 := hI.1
      have hx2 := hI.2
      have hq : xadd m x n = (x - 1 + n % m) % m + 1 := by unfold xadd; rw [if_pos ⟨hM, hI⟩, plus_mod]
      have ht := tmod_two (n := n) h16
      have he := emod_bd (n := n) h16
      have hr := emod_bd (n := x - 1 + n % m) h16
      rw [hq]
      have hn1 := hn.1
      have hn2 := hn.2
      clear hI hM hm hx hn hq
      obtain ⟨k, hk⟩ : ∃ k, n % m = k := ⟨_, rfl⟩
      rw [hk] at ht he hr
      rw [hk]
      clear hk
      obtain ⟨y, hy⟩ : ∃ y, x - 1 + k = y := ⟨_, rfl⟩
      have hty : y.tmod m = y % m := Int.tmod_eq_emod_of_nonneg (by omega)
      rw [hy] at hr
      rw [hy]
      obtain ⟨r, hr'⟩ : ∃ r, y % m = r := ⟨_, rfl⟩
      rw [hr'] at hr hty
      rw [hr']
      rcases ht with ht | ⟨ht, hp⟩
      · go_enter Try.func36, Try.ntmps36
        go_wp2_with (first
          | (go_at_call 40; refine hc.mono ?_; rintro e w' ⟨rfl, hw⟩; obtain rfl := hw.symm; clear hw)
          | (go_at_call 61; refine hd.mono ?_; rintro e w' ⟨rfl, hw⟩; obtain rfl := hw.symm; clear hw))
        go_ret
        exact ⟨rfl, rfl⟩
      · go_enter Try.func36, Try.ntmps36
        go_wp2_with (first
          | (go_at_call 40; refine hc.mono ?_; rintro e w' ⟨rfl, hw⟩; obtain rfl := hw.symm; clear hw)
          | (go_at_call 61; refine hd.mono ?_; rintro e w' ⟨rfl, hw⟩; obtain rfl := hw.symm; clear hw))
        go_ret
        exact ⟨rfl, rfl⟩
    · rw [decide_eq_false hI] at hd
      have hq : xadd m x n = 0 := by unfold xadd; rw [if_neg (fun h => hI h.2)]
      rw [hq]
      clear hI hM hq hm hx hn
      go_enter Try.func36, Try.ntmps36
      go_wp2_with (first
        | (go_at_call 40; refine hc.mono ?_; rintro e w' ⟨rfl, hw⟩; obtain rfl := hw.symm; clear hw)
        | (go_at_call 61; refine hd.mono ?_; rintro e w' ⟨rfl, hw⟩; obtain rfl := hw.symm; clear hw))
      go_ret
      exact ⟨rfl, rfl⟩
  · rw [decide_eq_false hM] at hc
    have hq : xadd m x n = 0 := by unfold xadd; rw [if_neg (fun h => hM h.1)]
    rw [hq]
    clear hM hq hm hx hn hd
    go_enter Try.func36, Try.ntmps36
    go_wp2_with (first
      | (go_at_call 40; refine hc.mono ?_; rintro e w' ⟨rfl, hw⟩; obtain rfl := hw.symm; clear hw))
    go_ret
    exact ⟨rfl, rfl⟩
end Go.Proofs.Ytcpgflkjeglgbaa
