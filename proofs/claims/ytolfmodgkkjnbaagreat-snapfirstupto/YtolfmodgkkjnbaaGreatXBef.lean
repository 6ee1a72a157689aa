/- The ring once more: the document's Gap and Before. -/
import Derived.Test.YtolfmodgkkjnbaaGreatXWalkB
namespace Go.Proofs.YtolfmodgkkjnbaaGreat
open Go.RowKit

set_option maxHeartbeats 400000 in
theorem xgap_any (m a b : Int) (w : World) (hm : I64 m) (ha : I64 a) (hb : I64 b) :
    Calls Tryz.prog 25 #[.int .i64 m, .int .i64 a, .int .i64 b] w fun e w' => e = .returned (.int .i64 (xgap m a b)) ∧ w' = w := by
  have hc := right_any m w hm
  have hd := id_any m a w hm ha
  have he := id_any m b w hm hb
  by_cases hM : Md m
  · rw [decide_eq_true hM] at hc
    by_cases hI : 1 ≤ a ∧ a ≤ m
    · rw [decide_eq_true hI] at hd
      by_cases hJ : 1 ≤ b ∧ b ≤ m
      · rw [decide_eq_true hJ] at he
        have hlt := xgap_lt (m := m) (a := a) (b := b) ⟨hM, hI⟩ ⟨hM, hJ⟩
        have hg := fun n => gap_first (m := m) (a := a) (b := b) (n := n) ⟨hM, hI⟩ ⟨hM, hJ⟩
        have hA : Hid (∀ n : Int, 0 ≤ n → n < 2000 → ∀ w, Calls Tryz.prog 24 #[.int .i64 m, .int .i64 a, .int .i64 n] w fun e w' => e = .returned (.int .i64 (xadd m a n)) ∧ w' = w) := fun n h0 h1 w => xadd_any m a n w hm ha (I64.of (by omega) (by omega))
        have hm1 := hM.2.1
        clear hM hI hJ hm ha hb
        obtain ⟨g, hgg⟩ : ∃ g, xgap m a b = g := ⟨_, rfl⟩
        rw [hgg] at hlt
        rw [hgg]
        simp only [hgg] at hg
        clear hgg
        have HG := hide hg
        clear hg
        go_enter Tryz.func25, Tryz.ntmps25
        go_wp2_with fail
        go_at_call 46
        refine hc.mono ?_
        rintro e w' ⟨rfl, hw⟩; obtain rfl := hw.symm; clear hw
        go_wp2_with fail
        go_at_call 47
        refine hd.mono ?_
        rintro e w' ⟨rfl, hw⟩; obtain rfl := hw.symm; clear hw
        go_wp2_with fail
        go_at_call 47
        refine he.mono ?_
        rintro e w' ⟨rfl, hw⟩; obtain rfl := hw.symm; clear hw
        go_wp2_with fail
        clear hc hd he
        go_loop [7] (fun i => ∃ n : Int, i = .int .i64 n ∧ 0 ≤ n ∧ n ≤ g) (fun i => (g - intOf i).toNat)
        case atStart => exact ⟨0, rfl, by omega, by omega⟩
        case round =>
          obtain ⟨n, rfl, hn0, hn1⟩ := hrel
          have hiff := HG.out n hn0 hn1
          have hcall := fun w => hA.out n hn0 (by omega) w
          obtain ⟨v, hv⟩ : ∃ v, xadd m a n = v := ⟨_, rfl⟩
          simp only [hv] at hcall
          rw [hv] at hiff
          clear hv
          by_cases hlast : n = g
          · have hvb : (v == b) = true := by simpa using hiff.2 hlast
            have hgn := hide hlast.symm
            clear hiff hlast
            go_wp2_with (first
              | (go_at_call 24; refine (hcall _).mono ?_; rintro e w' ⟨rfl, hw⟩; obtain rfl := hw.symm; clear hw))
            go_ret
            refine ⟨?_, rfl⟩
            rw [hgn.out]
            rfl
          · have hvb : (v == b) = false := by
              have : ¬ v = b := fun e => hlast (hiff.1 e)
              simpa using this
            have hlt2 : n < g := by omega
            clear hiff hlast
            go_wp2_with (first
              | (go_at_call 24; refine (hcall _).mono ?_; rintro e w' ⟨rfl, hw⟩; obtain rfl := hw.symm; clear hw))
            go_round
            case rel => exact ⟨n + 1, by go_num, by omega, by omega⟩
            case measure => simp [intOf]; omega
      · rw [decide_eq_false hJ] at he
        have hq : xgap m a b = 0 := by unfold xgap; rw [if_neg (fun h => hJ h.2.2)]
        rw [hq]
        clear hI hJ hM hq hm ha hb
        go_enter Tryz.func25, Tryz.ntmps25
        go_wp2_with fail
        go_at_call 46
        refine hc.mono ?_
        rintro e w' ⟨rfl, hw⟩; obtain rfl := hw.symm; clear hw
        go_wp2_with fail
        go_at_call 47
        refine hd.mono ?_
        rintro e w' ⟨rfl, hw⟩; obtain rfl := hw.symm; clear hw
        go_wp2_with fail
        go_at_call 47
        refine he.mono ?_
        rintro e w' ⟨rfl, hw⟩; obtain rfl := hw.symm; clear hw
        go_wp2_with fail
        go_ret
        exact ⟨rfl, rfl⟩
    · rw [decide_eq_false hI] at hd
      have hq : xgap m a b = 0 := by unfold xgap; rw [if_neg (fun h => hI h.1.2)]
      rw [hq]
      clear hI hM hq hm ha hb he
      go_enter Tryz.func25, Tryz.ntmps25
      go_wp2_with fail
      go_at_call 46
      refine hc.mono ?_
      rintro e w' ⟨rfl, hw⟩; obtain rfl := hw.symm; clear hw
      go_wp2_with fail
      go_at_call 47
      refine hd.mono ?_
      rintro e w' ⟨rfl, hw⟩; obtain rfl := hw.symm; clear hw
      go_wp2_with fail
      go_ret
      exact ⟨rfl, rfl⟩
  · rw [decide_eq_false hM] at hc
    have hq : xgap m a b = 0 := by unfold xgap; rw [if_neg (fun h => hM h.1.1)]
    rw [hq]
    clear hM hq hm ha hb he hd
    go_enter Tryz.func25, Tryz.ntmps25
    go_wp2_with fail
    go_at_call 46
    refine hc.mono ?_
    rintro e w' ⟨rfl, hw⟩; obtain rfl := hw.symm; clear hw
    go_wp2_with fail
    go_ret
    exact ⟨rfl, rfl⟩
theorem xbefore_any (m a b : Int) (w : World) (hm : I64 m) (ha : I64 a) (hb : I64 b) :
    Calls Tryz.prog 27 #[.int .i64 m, .int .i64 a, .int .i64 b] w fun e w' => e = .returned (.bool (xbef m a b)) ∧ w' = w := by
  have hc := xgap_any m a b w hm ha hb
  have hbd := xgap_bd (m := m) (a := a) (b := b)
  have hid := xgap_id (m := m) (a := a) (b := b)
  obtain ⟨k, hk⟩ : ∃ k, xgap m a b = k := ⟨_, rfl⟩
  have hX : xbef m a b = decide (1 ≤ k ∧ k ≤ m / 2 - 1) := by unfold xbef; rw [hk]
  rw [hX]
  rw [hk] at hc hbd hid
  clear hX hk hm ha hb
  by_cases h1 : 1 ≤ k
  · obtain ⟨h16, h1024⟩ := hid h1
    clear hid
    by_cases h2 : k ≤ m / 2 - 1
    · rw [show decide (1 ≤ k ∧ k ≤ m / 2 - 1) = true from by simp [h1, h2]]
      go_enter Tryz.func27, Tryz.ntmps27
      go_wp2_with (first
        | (go_at_call 25; refine hc.mono ?_; rintro e w' ⟨rfl, hw⟩; obtain rfl := hw.symm; clear hw))
      go_ret
      exact ⟨rfl, rfl⟩
    · rw [show decide (1 ≤ k ∧ k ≤ m / 2 - 1) = false from by simp [h2]]
      have hd : decide (k ≤ m / 2 - 1) = false := decide_eq_false h2
      go_enter Tryz.func27, Tryz.ntmps27
      go_wp2_with (first
        | (go_at_call 25; refine hc.mono ?_; rintro e w' ⟨rfl, hw⟩; obtain rfl := hw.symm; clear hw))
      go_ret
      exact ⟨rfl, rfl⟩
  · rw [show decide (1 ≤ k ∧ k ≤ m / 2 - 1) = false from by simp [h1]]
    clear hid
    go_enter Tryz.func27, Tryz.ntmps27
    go_wp2_with (first
      | (go_at_call 25; refine hc.mono ?_; rintro e w' ⟨rfl, hw⟩; obtain rfl := hw.symm; clear hw))
    go_ret
    exact ⟨rfl, rfl⟩
end Go.Proofs.YtolfmodgkkjnbaaGreat
