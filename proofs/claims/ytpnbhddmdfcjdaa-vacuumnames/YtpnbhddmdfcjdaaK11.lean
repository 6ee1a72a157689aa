/- Parts. -/
import Derived.Test.YtpnbhddmdfcjdaaK07
import Derived.BigQuiet
import Derived.Deep.Draws
set_option maxRecDepth 100000
namespace Go.Proofs.Ytpnbhddmdfcjdaa
open Go.RowKit
theorem isModulus_any (m : Int) (w : World) (hm : I64 m) :
    Calls Try.prog 89 #[.int .i64 m] w fun e w' => e = .returned (.bool (decide (Md m))) ∧ w' = w := by
  have hm1 := hm.1
  have hm2 := hm.2
  clear hm
  by_cases h1 : 16 ≤ m
  · by_cases h2 : m ≤ 1024
    · have ht : m.tmod 2 = m % 2 := tmod2 (by omega)
      cases h3 : (m % 2 == 0)
      all_goals
        have HX : (decide (Md m) = (m % 2 == 0)) := by
          unfold Md; rw [h3]; simp at h3; simp [h1, h2, h3]
        rw [HX, h3]
        go_enter Try.func89, Try.ntmps89
        go_wp2
        go_ret
        exact ⟨rfl, rfl⟩
    · rw [show decide (Md m) = false from by unfold Md; simp [h2]]
      go_enter Try.func89, Try.ntmps89
      go_wp2
      go_ret
      exact ⟨rfl, rfl⟩
  · rw [show decide (Md m) = false from by unfold Md; simp [h1]]
    go_enter Try.func89, Try.ntmps89
    go_wp2
    go_ret
    exact ⟨rfl, rfl⟩
theorem isID_any (m x : Int) (w : World) (hm : I64 m) (hx : I64 x) :
    Calls Try.prog 72 #[.int .i64 m, .int .i64 x] w fun e w' => e = .returned (.bool (decide (Idd m x))) ∧ w' = w := by
  have hc := isModulus_any m w hm
  have hm1 := hm.1
  have hm2 := hm.2
  have hx1 := hx.1
  have hx2 := hx.2
  clear hm hx
  by_cases hM : Md m
  · rw [decide_eq_true hM] at hc
    by_cases h1 : 1 ≤ x
    · by_cases h2 : x ≤ m
      · rw [show decide (Idd m x) = true from by unfold Idd; simp [h1, h2, hM]]
        clear hM
        go_enter Try.func72, Try.ntmps72
        go_wp2_with (go_at_call 89; refine hc.mono ?_; rintro e w' ⟨rfl, hw⟩; obtain rfl := hw.symm; clear hw)
        go_ret
        exact ⟨rfl, rfl⟩
      · rw [show decide (Idd m x) = false from by unfold Idd; simp [h2]]
        have hd : decide (x ≤ m) = false := decide_eq_false h2
        clear hM
        go_enter Try.func72, Try.ntmps72
        go_wp2_with (go_at_call 89; refine hc.mono ?_; rintro e w' ⟨rfl, hw⟩; obtain rfl := hw.symm; clear hw)
        go_ret
        exact ⟨rfl, rfl⟩
    · rw [show decide (Idd m x) = false from by unfold Idd; simp [h1]]
      clear hM
      go_enter Try.func72, Try.ntmps72
      go_wp2_with (go_at_call 89; refine hc.mono ?_; rintro e w' ⟨rfl, hw⟩; obtain rfl := hw.symm; clear hw)
      go_ret
      exact ⟨rfl, rfl⟩
  · rw [decide_eq_false hM] at hc
    rw [show decide (Idd m x) = false from by unfold Idd; simp [hM]]
    clear hM
    go_enter Try.func72, Try.ntmps72
    go_wp2_with (go_at_call 89; refine hc.mono ?_; rintro e w' ⟨rfl, hw⟩; obtain rfl := hw.symm; clear hw)
    go_ret
    exact ⟨rfl, rfl⟩
theorem around_any (m n : Int) (w : World) (h : 16 ≤ m) (h' : m ≤ 1024) (hn : I64 n) :
    Calls Try.prog 73 #[.int .i64 m, .int .i64 n] w fun e w' => e = .returned (.int .i64 (n % m)) ∧ w' = w := by
  have hn1 := hn.1
  have hn2 := hn.2
  clear hn
  have hb := tmod_bd (n := n) h
  have hr := around_is (n := n) h
  have he := emod_bd (n := n) h
  obtain ⟨k, hk⟩ : ∃ k, n.tmod m = k := ⟨_, rfl⟩
  obtain ⟨r, hr'⟩ : ∃ r, n % m = r := ⟨_, rfl⟩
  rw [hk] at hb hr
  rw [hr'] at hr he
  rw [hr']
  clear hr'
  go_enter Try.func73, Try.ntmps73
  go_wp2
  go_ret
  exact ⟨rfl, rfl⟩
end Go.Proofs.Ytpnbhddmdfcjdaa
