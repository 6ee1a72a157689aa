/- The walk of XidAdds. -/
import Derived.Test.YtpcdioneelfphaaXLawA
namespace Go.Proofs.Ytpcdioneelfphaa
open Go.RowKit

theorem adds_facts {m x n : Int} (h : Idd m x) : xgap m x (xadd m x n) = n % m ∧ xadd m (xadd m x n) (-(n % m)) = x ∧ (xbef m x (xadd m x n) = true → xbef m (xadd m x n) x = false) := by
  have h16 := h.1.1
  have hx := h.2
  have hk := emod_bd (n := n) h16
  have hi := xadd_id (n := n % m) h
  rw [xadd_mod] at hi
  have h1 := ring_on h hk.1 hk.2
  rw [xadd_mod] at h1
  have hy := hi.2
  have h2 := ring_gap h hi
  have h3 := ring_gap hi h
  have h4 := ring_back hi hk.1 hk.2
  generalize xadd m x n = y at *
  generalize n % m = k at *
  refine ⟨?_, ?_, ?_⟩
  · rw [h2]; split at h1 <;> split <;> omega
  · rw [h4]; split at h1 <;> split <;> omega
  · unfold xbef
    intro hb
    simp only [decide_eq_true_eq, decide_eq_false_iff_not] at hb ⊢
    rw [h2] at hb
    rw [h3]
    split at hb <;> split <;> omega
theorem adds_bad (w : World) (m x n : Int) (hm : I64 m) (hx : I64 x) (hn : I64 n) (h : ¬ Idd m x) : Calls Try.prog 6 #[.int .i64 m, .int .i64 x, .int .i64 n] w fun e w' => e = .returned (.bool true) ∧ Below w.heap.size w w' := by
  have h1 := add_any m x n w hm hx hn
  rw [show xadd m x n = 0 from by unfold xadd; rw [if_neg h]] at h1
  have h2 := gap_any m x n w hm hx hn
  have h3 := before_any m x n w hm hx hn
  have hg : xgap m x n = 0 := by unfold xgap; rw [if_neg (fun k => h k.1)]
  rw [show xbef m x n = false from by unfold xbef; rw [hg]; simp] at h3
  rw [hg] at h2
  have hm1 := hm.1
  have hm2 := hm.2
  have hx1 := hx.1
  have hx2 := hx.2
  clear hm hx hn hg
  by_cases c1 : m < 16
  · clear h
    go_enter Try.func6, Try.ntmps6
    go_wp2_with (first
      | (go_at_call 9; refine h1.mono ?_; rintro e w' ⟨rfl, hw⟩; obtain rfl := hw.symm; clear hw)
      | (go_at_call 11; refine h2.mono ?_; rintro e w' ⟨rfl, hw⟩; obtain rfl := hw.symm; clear hw)
      | (go_at_call 13; refine h3.mono ?_; rintro e w' ⟨rfl, hw⟩; obtain rfl := hw.symm; clear hw))
    refine (awake_any _).mono ?_
    rintro e w1 ⟨rfl, ho⟩
    go_wp2_with fail
    go_ret
    exact ⟨rfl, ho.low⟩
  · by_cases c2 : 1024 < m
    · clear h
      go_enter Try.func6, Try.ntmps6
      go_wp2_with (first
        | (go_at_call 9; refine h1.mono ?_; rintro e w' ⟨rfl, hw⟩; obtain rfl := hw.symm; clear hw)
        | (go_at_call 11; refine h2.mono ?_; rintro e w' ⟨rfl, hw⟩; obtain rfl := hw.symm; clear hw)
        | (go_at_call 13; refine h3.mono ?_; rintro e w' ⟨rfl, hw⟩; obtain rfl := hw.symm; clear hw))
      refine (awake_any _).mono ?_
      rintro e w1 ⟨rfl, ho⟩
      go_wp2_with fail
      go_ret
      exact ⟨rfl, ho.low⟩
    · have ht : m.tmod 2 = m % 2 := tmod2 (by omega)
      cases c3 : (m % 2 == 0)
      · have c3n : ¬ m % 2 = 0 := by simpa using c3
        clear h c3
        go_enter Try.func6, Try.ntmps6
        go_wp2_with (first
          | (go_at_call 9; refine h1.mono ?_; rintro e w' ⟨rfl, hw⟩; obtain rfl := hw.symm; clear hw)
          | (go_at_call 11; refine h2.mono ?_; rintro e w' ⟨rfl, hw⟩; obtain rfl := hw.symm; clear hw)
          | (go_at_call 13; refine h3.mono ?_; rintro e w' ⟨rfl, hw⟩; obtain rfl := hw.symm; clear hw))
        refine (awake_any _).mono ?_
        rintro e w1 ⟨rfl, ho⟩
        go_wp2_with fail
        go_ret
        exact ⟨rfl, ho.low⟩
      · have c4 : x < 1 ∨ m < x := by
          have e3 : m % 2 = 0 := by simpa using c3
          by_cases c5 : x < 1
          · exact .inl c5
          · refine .inr ?_
            by_cases c6 : m < x
            · exact c6
            · exact absurd ⟨⟨by omega, by omega, e3⟩, by omega, by omega⟩ h
        have c3n : m % 2 = 0 := by simpa using c3
        clear h c3
        rcases c4 with c4 | c4
        all_goals
          go_enter Try.func6, Try.ntmps6
          go_wp2_with (first
            | (go_at_call 9; refine h1.mono ?_; rintro e w' ⟨rfl, hw⟩; obtain rfl := hw.symm; clear hw)
            | (go_at_call 11; refine h2.mono ?_; rintro e w' ⟨rfl, hw⟩; obtain rfl := hw.symm; clear hw)
            | (go_at_call 13; refine h3.mono ?_; rintro e w' ⟨rfl, hw⟩; obtain rfl := hw.symm; clear hw))
          refine (awake_any _).mono ?_
          rintro e w1 ⟨rfl, ho⟩
          go_wp2_with fail
          go_ret
          exact ⟨rfl, ho.low⟩
theorem adds_good (w : World) (m x n : Int) (hn : I64 n) (h : Idd m x) : Calls Try.prog 6 #[.int .i64 m, .int .i64 x, .int .i64 n] w fun e w' => e = .returned (.bool true) ∧ Below w.heap.size w w' := by
  obtain ⟨f1, f2, f3⟩ := adds_facts (n := n) h
  have hi := xadd_id (n := n) h
  have hm := h.i64.1
  have hx := h.i64.2
  have hy := hi.i64.2
  have h16 := h.1.1
  have h1024 := h.1.2.1
  have he := emod_bd (n := n) h16
  have ht := tmod_two (n := n) h16
  have h1 := fun w => add_any m x n w hm hx hn
  obtain ⟨y, hyy⟩ : ∃ y, xadd m x n = y := ⟨_, rfl⟩
  rw [hyy] at f1 f2 f3 hi hy
  simp only [hyy] at h1
  obtain ⟨k, hk⟩ : ∃ k, n % m = k := ⟨_, rfl⟩
  rw [hk] at f1 f2 he ht
  have h2 := fun w => gap_any m x y w hm hx hy
  have h3 := fun w => before_any m x y w hm hx hy
  have h4 := fun w => before_any m y x w hm hy hx
  have h5 := fun w => add_any m y (-k) w hm hy (I64.of (by omega) (by omega))
  simp only [f1] at h2
  simp only [f2] at h5
  have hx1 := h.2.1
  have hx2 := h.2.2
  have hm2 := h.1.2.2
  have htm : m.tmod 2 = m % 2 := tmod2 (by omega)
  have hy1 := hi.2.1
  have hy2 := hi.2.2
  have hn1 := hn.1
  have hn2 := hn.2
  have H1 := hide h1
  have H2 := hide h2
  have H3 := hide h3
  have H4 := hide h4
  have H5 := hide h5
  clear h1 h2 h3 h4 h5 hyy hk f1 f2 hm hx hy h hi hn
  cases hb : xbef m x y
  · simp only [hb] at H3
    clear f3 hb
    rcases ht with ht | ⟨ht, hp⟩
    all_goals
      go_enter Try.func6, Try.ntmps6
      go_wp2_with fail
      refine (H1.out _).mono ?_
      rintro e w' ⟨rfl, hw⟩; obtain rfl := hw.symm; clear hw
      go_wp2_with fail
      refine (H2.out _).mono ?_
      rintro e w' ⟨rfl, hw⟩; obtain rfl := hw.symm; clear hw
      go_wp2_with fail
      refine (H3.out _).mono ?_
      rintro e w' ⟨rfl, hw⟩; obtain rfl := hw.symm; clear hw
      go_wp2_with fail
      refine (H5.out _).mono ?_
      rintro e w' ⟨rfl, hw⟩; obtain rfl := hw.symm; clear hw
      go_wp2_with fail
      refine (awake_any _).mono ?_
      rintro e w1 ⟨rfl, ho⟩
      go_wp2_with fail
      go_ret
      exact ⟨rfl, ho.low⟩
  · simp only [hb] at H3
    simp only [f3 hb] at H4
    clear f3 hb
    rcases ht with ht | ⟨ht, hp⟩
    all_goals
      go_enter Try.func6, Try.ntmps6
      go_wp2_with fail
      refine (H1.out _).mono ?_
      rintro e w' ⟨rfl, hw⟩; obtain rfl := hw.symm; clear hw
      go_wp2_with fail
      refine (H2.out _).mono ?_
      rintro e w' ⟨rfl, hw⟩; obtain rfl := hw.symm; clear hw
      go_wp2_with fail
      refine (H3.out _).mono ?_
      rintro e w' ⟨rfl, hw⟩; obtain rfl := hw.symm; clear hw
      go_wp2_with fail
      refine (H4.out _).mono ?_
      rintro e w' ⟨rfl, hw⟩; obtain rfl := hw.symm; clear hw
      go_wp2_with fail
      refine (H5.out _).mono ?_
      rintro e w' ⟨rfl, hw⟩; obtain rfl := hw.symm; clear hw
      go_wp2_with fail
      refine (awake_any _).mono ?_
      rintro e w1 ⟨rfl, ho⟩
      go_wp2_with fail
      go_ret
      exact ⟨rfl, ho.low⟩
theorem adds_law (w : World) (m x n : Int) (hm : I64 m) (hx : I64 x) (hn : I64 n) : Calls Try.prog 6 #[.int .i64 m, .int .i64 x, .int .i64 n] w fun e w' => e = .returned (.bool true) ∧ Below w.heap.size w w' := by
  by_cases h : Idd m x
  · exact adds_good w m x n hn h
  · exact adds_bad w m x n hm hx hn h
end Go.Proofs.Ytpcdioneelfphaa
