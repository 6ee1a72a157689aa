/- What New, Left, Take and Freeze do, of package xid and of the document; the law's own examples. -/
import Derived.Test.YtpcdioneelfphaaXWalkC
namespace Go.Proofs.Ytpcdioneelfphaa
open Go.RowKit

theorem left_any (w : World) (c : Nat) (m n f : Int) (h : Cnt w c m n f) : Calls Try.prog 24 #[.pointer (some ⟨c, 0, none⟩)] w fun e w' => e = .returned (.int .i64 (m / 2 - 2 - xgap m f n)) ∧ ∃ k, w' = w.drewN k := by
  have h0 := h.c0
  have hu := fun w' (h' : Cnt w' c m n f) => inUse_any w' c m n f h'
  have h16 := h.idn.1.1
  have h1024 := h.idn.1.2.1
  have hg := h.gap
  have hl := (xgap_lt h.idf h.idn).1
  have hmo := fun w => mostInUse_any m w h16 h1024
  obtain ⟨g, hgg⟩ : ∃ g, xgap m f n = g := ⟨_, rfl⟩
  rw [hgg] at hg hl
  rw [hgg]
  simp only [hgg] at hu
  clear hgg
  have H := hide h
  have HU := hide hu
  clear h hu
  have hmx : max (m / 2 - 2 - g) 0 = m / 2 - 2 - g := by omega
  go_enter Try.func24, Try.ntmps24
  go_wp2_with fail
  go_at_call 30
  refine (hmo _).mono ?_
  rintro e w' ⟨rfl, hw⟩; obtain rfl := hw.symm; clear hw
  go_wp2_with fail
  go_at_call 31
  refine (HU.out _ H.out).mono ?_
  rintro e w' ⟨rfl, k, rfl⟩
  go_wp2_with fail
  go_ret
  exact ⟨rfl, _, rfl⟩
theorem left_nil (w : World) : Calls Try.prog 24 #[.pointer none] w fun e w' => e = .returned (.int .i64 0) ∧ w' = w := by
  go_enter Try.func24, Try.ntmps24
  go_wp2
  go_ret
  exact ⟨rfl, rfl⟩
theorem new_bad (w : World) (m n f : Int) (hm : I64 m) (hn : I64 n) (hf : I64 f) (h : ¬ (Idd m n ∧ Idd m f ∧ xgap m f n ≤ m / 2 - 2)) :
    Calls Try.prog 16 #[.int .i64 m, .int .i64 n, .int .i64 f] w fun e w' => e = .returned (.tuple #[.pointer none, .int .i64 1]) ∧ w' = w := by
  have hc := isID_any m n w hm hn
  have hd := isID_any m f w hm hf
  by_cases hI : Idd m n
  · rw [decide_eq_true hI] at hc
    by_cases hJ : Idd m f
    · rw [decide_eq_true hJ] at hd
      have hg := gap_any m f n w hm hf hn
      have h16 := hI.1.1
      have h1024 := hI.1.2.1
      have hmo := fun w => mostInUse_any m w h16 h1024
      have hgt : m / 2 - 2 < xgap m f n := by
        have : ¬ xgap m f n ≤ m / 2 - 2 := fun k => h ⟨hI, hJ, k⟩
        omega
      clear hI hJ h hm hn hf
      obtain ⟨g, hgg⟩ : ∃ g, xgap m f n = g := ⟨_, rfl⟩
      rw [hgg] at hg hgt
      clear hgg
      go_enter Try.func16, Try.ntmps16
      go_wp2_with fail
      go_at_call 26
      refine hc.mono ?_
      rintro e w' ⟨rfl, hw⟩; obtain rfl := hw.symm; clear hw
      go_wp2_with fail
      go_at_call 26
      refine hd.mono ?_
      rintro e w' ⟨rfl, hw⟩; obtain rfl := hw.symm; clear hw
      go_wp2_with fail
      go_at_call 11
      refine hg.mono ?_
      rintro e w' ⟨rfl, hw⟩; obtain rfl := hw.symm; clear hw
      go_wp2_with fail
      go_at_call 30
      refine (hmo _).mono ?_
      rintro e w' ⟨rfl, hw⟩; obtain rfl := hw.symm; clear hw
      go_wp2_with fail
      go_ret2
      exact ⟨rfl, rfl⟩
    · rw [decide_eq_false hJ] at hd
      clear hI hJ h hm hn hf
      go_enter Try.func16, Try.ntmps16
      go_wp2_with fail
      go_at_call 26
      refine hc.mono ?_
      rintro e w' ⟨rfl, hw⟩; obtain rfl := hw.symm; clear hw
      go_wp2_with fail
      go_at_call 26
      refine hd.mono ?_
      rintro e w' ⟨rfl, hw⟩; obtain rfl := hw.symm; clear hw
      go_wp2_with fail
      go_ret2
      exact ⟨rfl, rfl⟩
  · rw [decide_eq_false hI] at hc
    clear hI h hm hn hf hd
    go_enter Try.func16, Try.ntmps16
    go_wp2_with fail
    go_at_call 26
    refine hc.mono ?_
    rintro e w' ⟨rfl, hw⟩; obtain rfl := hw.symm; clear hw
    go_wp2_with fail
    go_ret2
    exact ⟨rfl, rfl⟩
theorem new_good (w : World) (m n f : Int) (hI : Idd m n) (hJ : Idd m f) (h : xgap m f n ≤ m / 2 - 2) :
    Calls Try.prog 16 #[.int .i64 m, .int .i64 n, .int .i64 f] w fun e w' => e = .returned (.tuple #[.pointer (some ⟨w.heap.size, 0, none⟩), .int .i64 0]) ∧ Cnt w' w.heap.size m n f ∧ Only (fun _ => False) w w' := by
  have hc := isID_any m n w hI.i64.1 hI.i64.2
  have hd := isID_any m f w hI.i64.1 hJ.i64.2
  have hg := gap_any m f n w hI.i64.1 hJ.i64.2 hI.i64.2
  rw [decide_eq_true hI] at hc
  rw [decide_eq_true hJ] at hd
  have h16 := hI.1.1
  have h1024 := hI.1.2.1
  have hmo := fun w => mostInUse_any m w h16 h1024
  have HN := hide (fun (w : World) (t : TypeId) => Cnt.new (w := w) (t := t) hI hJ h)
  obtain ⟨g, hgg⟩ : ∃ g, xgap m f n = g := ⟨_, rfl⟩
  rw [hgg] at hg h
  clear hI hJ hgg
  go_enter Try.func16, Try.ntmps16
  go_wp2_with fail
  go_at_call 26
  refine hc.mono ?_
  rintro e w' ⟨rfl, hw⟩; obtain rfl := hw.symm; clear hw
  go_wp2_with fail
  go_at_call 26
  refine hd.mono ?_
  rintro e w' ⟨rfl, hw⟩; obtain rfl := hw.symm; clear hw
  go_wp2_with fail
  go_at_call 11
  refine hg.mono ?_
  rintro e w' ⟨rfl, hw⟩; obtain rfl := hw.symm; clear hw
  go_wp2_with fail
  go_at_call 30
  refine (hmo _).mono ?_
  rintro e w' ⟨rfl, hw⟩; obtain rfl := hw.symm; clear hw
  go_wp2_with fail
  go_ret2
  exact ⟨rfl, HN.out _ _, Only.alloc _ _ _⟩
theorem take_none (w : World) (c : Nat) (m n f : Int) (h : Cnt w c m n f) (hz : xgap m f n = m / 2 - 2) : Calls Try.prog 18 #[.pointer (some ⟨c, 0, none⟩)] w fun e w' => e = .returned (.tuple #[.int .i64 0, .int .i64 70]) ∧ ∃ k, w' = w.drewN k := by
  have hl := left_any w c m n f h
  rw [hz, Int.sub_self] at hl
  clear hz h
  go_enter Try.func18, Try.ntmps18
  go_wp2_with fail
  go_at_call 24
  refine hl.mono ?_
  rintro e w' ⟨rfl, k, rfl⟩
  go_wp2_with fail
  go_ret2
  exact ⟨rfl, _, rfl⟩
theorem step_gap {m n f : Int} (h : Idd m n) (h' : Idd m f) (hg : xgap m f n ≤ m / 2 - 2) : Idd m (xadd m n 1) ∧ xgap m f (xadd m n 1) = xgap m f n + 1 := by
  have hi := xadd_id (n := 1) h
  have h16 := h.1.1
  have hn := h.2
  have hf := h'.2
  have hy := hi.2
  refine ⟨hi, ?_⟩
  have h1 := ring_on (n := 1) h (by omega) (by omega)
  rw [ring_gap h' hi]
  rw [ring_gap h' h] at hg ⊢
  split at h1 <;> split at hg <;> split <;> omega
theorem take_good (w : World) (c : Nat) (m n f : Int) (h : Cnt w c m n f) (hz : ¬ xgap m f n = m / 2 - 2) : Calls Try.prog 18 #[.pointer (some ⟨c, 0, none⟩)] w fun e w' => e = .returned (.tuple #[.int .i64 n, .int .i64 0]) ∧ Cnt w' c m (xadd m n 1) f ∧ Only (fun k => k = c) w w' := by
  have hl := left_any w c m n f h
  have hg := h.gap
  obtain ⟨l, hll⟩ : ∃ l, m / 2 - 2 - xgap m f n = l := ⟨_, rfl⟩
  have hl0 : (l == 0) = false := by simp; omega
  rw [hll] at hl
  have hs := step_gap h.idn h.idf hg
  have ha := fun w => add_any m n 1 w h.idn.i64.1 h.idn.i64.2 (I64.of (by omega) (by omega))
  obtain ⟨y, hy⟩ : ∃ y, xadd m n 1 = y := ⟨_, rfl⟩
  rw [hy] at hs ⊢
  simp only [hy] at ha
  have H := hide h
  have HS : Hid (∀ k, Cnt ((w.drewN k).setCell ⟨c, 1, none⟩ (.int .i64 y)) c m y f ∧ Only (fun k => k = c) (w.drewN k) ((w.drewN k).setCell ⟨c, 1, none⟩ (.int .i64 y))) := fun k => (h.drew k).set1 y hs.1 (by rw [hs.2]; omega)
  have h0 := h.c0
  have h1 := h.c1
  have hf := h.fz 1
  clear hll hg hz h hs hy
  go_enter Try.func18, Try.ntmps18
  go_wp2_with fail
  go_at_call 24
  refine hl.mono ?_
  rintro e w' ⟨rfl, k, rfl⟩
  clear hl
  go_wp2_with fail
  go_at_call 9
  refine (ha _).mono ?_
  rintro e w' ⟨rfl, hw⟩; obtain rfl := hw.symm; clear hw
  go_wp2_with fail
  go_ret2
  exact ⟨rfl, (HS.out k).1, (onlyN _ w k).trans (HS.out k).2 (fun _ _ h => h)⟩
theorem take_nil (w : World) : Calls Try.prog 18 #[.pointer none] w fun e w' => e = .returned (.tuple #[.int .i64 0, .int .i64 2]) ∧ w' = w := by
  go_enter Try.func18, Try.ntmps18
  go_wp2
  go_ret2
  exact ⟨rfl, rfl⟩
theorem freeze_nil (w : World) (n : Int) : Calls Try.prog 20 #[.pointer none, .int .i64 n] w fun e w' => e = .returned (.int .i64 2) ∧ w' = w := by
  go_enter Try.func20, Try.ntmps20
  go_wp2
  go_ret
  exact ⟨rfl, rfl⟩
end Go.Proofs.Ytpcdioneelfphaa
