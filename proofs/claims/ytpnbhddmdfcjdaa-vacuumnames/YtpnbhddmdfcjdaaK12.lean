/- Parts. -/
import Derived.Test.YtpnbhddmdfcjdaaK11
set_option maxRecDepth 100000
namespace Go.Proofs.Ytpnbhddmdfcjdaa
open Go.RowKit
theorem I64.of {n : Int} (h0 : -9223372036854775808 ≤ n) (h1 : n < 9223372036854775808) : I64 n := ⟨h0, h1⟩
theorem add_any (m x n : Int) (w : World) (hm : I64 m) (hx : I64 x) (hn : I64 n) :
    Calls Try.prog 48 #[.int .i64 m, .int .i64 x, .int .i64 n] w fun e w' => e = .returned (.int .i64 (xadd m x n)) ∧ w' = w := by
  have hc := isID_any m x w hm hx
  by_cases hI : Idd m x
  · rw [decide_eq_true hI] at hc
    have h16 := hI.1.1
    have h1024 := hI.1.2.1
    have hx1 := hI.2.1
    have hx2 := hI.2.2
    have hb := tmod_bd (n := n) h16
    have ha := fun w => around_any m (x - 1 + n.tmod m) w h16 h1024 (I64.of (by omega) (by omega))
    rw [add_is h16] at ha
    have hq : xadd m x n = (x - 1 + n) % m + 1 := by unfold xadd; rw [if_pos hI]
    have hs := emod_bd (n := x - 1 + n) h16
    rw [hq]
    have hn1 := hn.1
    have hn2 := hn.2
    clear hI hm hx hn hq
    obtain ⟨r, hr⟩ : ∃ r, (x - 1 + n) % m = r := ⟨_, rfl⟩
    rw [hr] at ha hs
    rw [hr]
    clear hr
    obtain ⟨k, hk⟩ : ∃ k, n.tmod m = k := ⟨_, rfl⟩
    rw [hk] at ha hb
    go_enter Try.func48, Try.ntmps48
    go_wp2_with (first
      | (go_at_call 72; refine hc.mono ?_; rintro e w' ⟨rfl, hw⟩; obtain rfl := hw.symm; clear hw)
      | (go_at_call 73; refine (ha _).mono ?_; rintro e w' ⟨rfl, hw⟩; obtain rfl := hw.symm; clear hw))
    go_ret
    exact ⟨rfl, rfl⟩
  · rw [decide_eq_false hI] at hc
    have hq : xadd m x n = 0 := by unfold xadd; rw [if_neg hI]
    rw [hq]
    clear hI hq hm hx hn
    go_enter Try.func48, Try.ntmps48
    go_wp2_with (first
      | (go_at_call 72; refine hc.mono ?_; rintro e w' ⟨rfl, hw⟩; obtain rfl := hw.symm; clear hw))
    go_ret
    exact ⟨rfl, rfl⟩
theorem gap_any (m a b : Int) (w : World) (hm : I64 m) (ha : I64 a) (hb : I64 b) :
    Calls Try.prog 85 #[.int .i64 m, .int .i64 a, .int .i64 b] w fun e w' => e = .returned (.int .i64 (xgap m a b)) ∧ w' = w := by
  have hc := isID_any m a w hm ha
  have hd := isID_any m b w hm hb
  by_cases hI : Idd m a
  · rw [decide_eq_true hI] at hc
    by_cases hJ : Idd m b
    · rw [decide_eq_true hJ] at hd
      have h16 := hI.1.1
      have h1024 := hI.1.2.1
      have hx1 := hI.2.1
      have hx2 := hI.2.2
      have hy1 := hJ.2.1
      have hy2 := hJ.2.2
      have hr := fun w => around_any m (b - a) w h16 h1024 (I64.of (by omega) (by omega))
      have hq : xgap m a b = (b - a) % m := by unfold xgap; rw [if_pos ⟨hI, hJ⟩]
      rw [hq]
      clear hI hJ hq hm ha hb
      obtain ⟨k, hk⟩ : ∃ k, (b - a) % m = k := ⟨_, rfl⟩
      rw [hk] at hr
      rw [hk]
      clear hk
      go_enter Try.func85, Try.ntmps85
      go_wp2_with fail
      go_at_call 72
      refine (hc).mono ?_
      rintro e w' ⟨rfl, hw⟩; obtain rfl := hw.symm; clear hw
      go_wp2_with fail
      go_at_call 72
      refine (hd).mono ?_
      rintro e w' ⟨rfl, hw⟩; obtain rfl := hw.symm; clear hw
      go_wp2_with fail
      go_at_call 73
      refine (hr _).mono ?_
      rintro e w' ⟨rfl, hw⟩; obtain rfl := hw.symm; clear hw
      go_wp2_with fail
      go_ret
      exact ⟨rfl, rfl⟩
    · rw [decide_eq_false hJ] at hd
      have hq : xgap m a b = 0 := by unfold xgap; rw [if_neg (fun h => hJ h.2)]
      rw [hq]
      clear hI hJ hq hm ha hb
      go_enter Try.func85, Try.ntmps85
      go_wp2_with fail
      go_at_call 72
      refine (hc).mono ?_
      rintro e w' ⟨rfl, hw⟩; obtain rfl := hw.symm; clear hw
      go_wp2_with fail
      go_at_call 72
      refine (hd).mono ?_
      rintro e w' ⟨rfl, hw⟩; obtain rfl := hw.symm; clear hw
      go_wp2_with fail
      go_ret
      exact ⟨rfl, rfl⟩
  · rw [decide_eq_false hI] at hc
    have hq : xgap m a b = 0 := by unfold xgap; rw [if_neg (fun h => hI h.1)]
    rw [hq]
    clear hI hq hm ha hb hd
    go_enter Try.func85, Try.ntmps85
    go_wp2_with (first
      | (go_at_call 72; refine hc.mono ?_; rintro e w' ⟨rfl, hw⟩; obtain rfl := hw.symm; clear hw))
    go_ret
    exact ⟨rfl, rfl⟩
theorem xgap_id {m a b : Int} (h : 1 ≤ xgap m a b) : 16 ≤ m ∧ m ≤ 1024 := by
  unfold xgap at h
  split at h
  · rename_i k
    exact ⟨k.1.1.1, k.1.1.2.1⟩
  · omega
theorem before_any (m a b : Int) (w : World) (hm : I64 m) (ha : I64 a) (hb : I64 b) :
    Calls Try.prog 65 #[.int .i64 m, .int .i64 a, .int .i64 b] w fun e w' => e = .returned (.bool (xbef m a b)) ∧ w' = w := by
  have hc := gap_any m a b w hm ha hb
  have hbd := xgap_bd (m := m) (a := a) (b := b)
  have hid := xgap_id (m := m) (a := a) (b := b)
  obtain ⟨k, hk⟩ : ∃ k, xgap m a b = k := ⟨_, rfl⟩
  have hX : xbef m a b = decide (1 ≤ k ∧ k ≤ m / 2 - 1) := by unfold xbef; rw [hk]
  rw [hX]
  rw [hk] at hc hbd hid
  clear hX hk hm ha hb
  by_cases h1 : 1 ≤ k
  · obtain ⟨h16, h1024⟩ := hid h1
    clear hid
    by_cases h2 : k ≤ m / 2 - 1
    · rw [show decide (1 ≤ k ∧ k ≤ m / 2 - 1) = true from by simp [h1, h2]]
      go_enter Try.func65, Try.ntmps65
      go_wp2_with (first
        | (go_at_call 85; refine hc.mono ?_; rintro e w' ⟨rfl, hw⟩; obtain rfl := hw.symm; clear hw))
      go_ret
      exact ⟨rfl, rfl⟩
    · rw [show decide (1 ≤ k ∧ k ≤ m / 2 - 1) = false from by simp [h2]]
      have hd : decide (k ≤ m / 2 - 1) = false := decide_eq_false h2
      go_enter Try.func65, Try.ntmps65
      go_wp2_with (first
        | (go_at_call 85; refine hc.mono ?_; rintro e w' ⟨rfl, hw⟩; obtain rfl := hw.symm; clear hw))
      go_ret
      exact ⟨rfl, rfl⟩
  · rw [show decide (1 ≤ k ∧ k ≤ m / 2 - 1) = false from by simp [h1]]
    clear hid
    go_enter Try.func65, Try.ntmps65
    go_wp2_with (first
      | (go_at_call 85; refine hc.mono ?_; rintro e w' ⟨rfl, hw⟩; obtain rfl := hw.symm; clear hw))
    go_ret
    exact ⟨rfl, rfl⟩
/- The document's. -/
end Go.Proofs.Ytpnbhddmdfcjdaa
