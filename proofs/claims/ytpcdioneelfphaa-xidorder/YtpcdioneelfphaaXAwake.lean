/- The document's Freeze and New; the law's own examples. -/
import Derived.Test.YtpcdioneelfphaaXWalkE
namespace Go.Proofs.Ytpcdioneelfphaa
open Go.RowKit

theorem xfreeze_bad (w : World) (c : Nat) (m n f l : Int) (h : Cnt w c m n f) (hl : I64 l) (hb : ¬ (Idd m l ∧ xgap m f l ≤ xgap m f n)) :
    Calls Try.prog 21 #[.pointer (some ⟨c, 0, none⟩), .int .i64 l] w fun e w' => e = .returned (.int .i64 1) ∧ ∃ k, w' = w.drewN k := by
  have h0 := h.c0
  have h1 := h.c1
  have h2 := h.c2
  have hi := fun w => id_any m l w h.idn.i64.1 hl
  by_cases hI : 1 ≤ l ∧ l ≤ m
  · simp only [decide_eq_true hI] at hi
    have hlt : ¬ xgap m f l ≤ xgap m f n := fun k => hb ⟨⟨h.idn.1, hI⟩, k⟩
    have hn64 := h.idn.i64.2
    have HG : Hid (∀ x, I64 x → ∀ w, Calls Try.prog 12 #[.int .i64 m, .int .i64 f, .int .i64 x] w fun e w' => e = .returned (.int .i64 (xgap m f x)) ∧ w' = w) := fun x hx w => xgap_any m f x w h.idn.i64.1 h.idf.i64.2 hx
    have hd : decide (xgap m f n < xgap m f l) = true := decide_eq_true (by omega)
    have HI := hide hi
    clear hI hb h hi hlt
    go_enter Try.func21, Try.ntmps21
    go_wp2_with fail
    go_quiet ((first
      | (go_at_call 29; exact Calls.quiet_of_same (HI.out _))
      | (go_at_call 12; exact Calls.quiet_of_same (HG.out _ (by assumption) _))))
    go_wp2
    go_ret
    exact ⟨rfl, _, rfl⟩
  · simp only [decide_eq_false hI] at hi
    have HI := hide hi
    clear hI hb h hl hi
    go_enter Try.func21, Try.ntmps21
    go_wp2_with fail
    go_quiet ((go_at_call 29; exact Calls.quiet_of_same (HI.out _)))
    go_wp2
    go_ret
    exact ⟨rfl, _, rfl⟩
theorem xfreeze_good (w : World) (c : Nat) (m n f l : Int) (h : Cnt w c m n f) (hI : Idd m l) (hle : xgap m f l ≤ xgap m f n) :
    Calls Try.prog 21 #[.pointer (some ⟨c, 0, none⟩), .int .i64 l] w fun e w' => e = .returned (.int .i64 0) ∧ Cnt w' c m n l ∧ Only (fun k => k = c) w w' := by
  have h0 := h.c0
  have h1 := h.c1
  have h2 := h.c2
  have hf2 := h.fz 2
  have hi := fun w => id_any m l w h.idn.i64.1 hI.i64.2
  simp only [decide_eq_true hI.2] at hi
  have HS : Hid (∀ k, Cnt ((w.drewN k).setCell ⟨c, 2, none⟩ (.int .i64 l)) c m n l ∧ Only (fun k => k = c) (w.drewN k) ((w.drewN k).setCell ⟨c, 2, none⟩ (.int .i64 l))) := fun k => (h.drew k).set2 l hI (freeze_gap h.idn h.idf hI h.gap hle).2
  have hn64 := h.idn.i64.2
  have hl64 := hI.i64.2
  have HG : Hid (∀ x, I64 x → ∀ w, Calls Try.prog 12 #[.int .i64 m, .int .i64 f, .int .i64 x] w fun e w' => e = .returned (.int .i64 (xgap m f x)) ∧ w' = w) := fun x hx w => xgap_any m f x w h.idn.i64.1 h.idf.i64.2 hx
  have hd : decide (xgap m f n < xgap m f l) = false := decide_eq_false (by omega)
  have HI := hide hi
  clear hI h hi hle
  go_enter Try.func21, Try.ntmps21
  go_wp2_with fail
  go_quiet ((first
    | (go_at_call 29; exact Calls.quiet_of_same (HI.out _))
    | (go_at_call 12; exact Calls.quiet_of_same (HG.out _ (by assumption) _))))
  go_wp2
  go_ret
  exact ⟨rfl, (HS.out _).1, (onlyN _ w _).trans (HS.out _).2 (fun _ _ h => h)⟩
theorem xnew_bad (w : World) (m n f : Int) (hm : I64 m) (hn : I64 n) (hf : I64 f) (h : ¬ (Idd m n ∧ Idd m f ∧ xgap m f n ≤ m / 2 - 2)) :
    Calls Try.prog 17 #[.int .i64 m, .int .i64 n, .int .i64 f] w fun e w' => e = .returned (.tuple #[.pointer none, .int .i64 1]) ∧ w' = w := by
  have hr := right_any m w hm
  have hc := id_any m n w hm hn
  have hd := id_any m f w hm hf
  by_cases hM : Md m
  · rw [decide_eq_true hM] at hr
    by_cases hI : 1 ≤ n ∧ n ≤ m
    · rw [decide_eq_true hI] at hc
      by_cases hJ : 1 ≤ f ∧ f ≤ m
      · rw [decide_eq_true hJ] at hd
        have hg := xgap_any m f n w hm hf hn
        have h16 := hM.1
        have h1024 := hM.2.1
        have hgt : m / 2 - 2 < xgap m f n := by
          have : ¬ xgap m f n ≤ m / 2 - 2 := fun k => h ⟨⟨hM, hI⟩, ⟨hM, hJ⟩, k⟩
          omega
        clear hM hI hJ h hm hn hf
        obtain ⟨g, hgg⟩ : ∃ g, xgap m f n = g := ⟨_, rfl⟩
        rw [hgg] at hg hgt
        clear hgg
        go_enter Try.func17, Try.ntmps17
        go_wp2_with fail
        go_at_call 28
        refine hr.mono ?_
        rintro e w' ⟨rfl, hw⟩; obtain rfl := hw.symm; clear hw
        go_wp2_with fail
        go_at_call 29
        refine hc.mono ?_
        rintro e w' ⟨rfl, hw⟩; obtain rfl := hw.symm; clear hw
        go_wp2_with fail
        go_at_call 29
        refine hd.mono ?_
        rintro e w' ⟨rfl, hw⟩; obtain rfl := hw.symm; clear hw
        go_wp2_with fail
        go_at_call 12
        refine hg.mono ?_
        rintro e w' ⟨rfl, hw⟩; obtain rfl := hw.symm; clear hw
        go_wp2_with fail
        go_ret2
        exact ⟨rfl, rfl⟩
      · rw [decide_eq_false hJ] at hd
        clear hM hI hJ h hm hn hf
        go_enter Try.func17, Try.ntmps17
        go_wp2_with fail
        go_at_call 28
        refine hr.mono ?_
        rintro e w' ⟨rfl, hw⟩; obtain rfl := hw.symm; clear hw
        go_wp2_with fail
        go_at_call 29
        refine hc.mono ?_
        rintro e w' ⟨rfl, hw⟩; obtain rfl := hw.symm; clear hw
        go_wp2_with fail
        go_at_call 29
        refine hd.mono ?_
        rintro e w' ⟨rfl, hw⟩; obtain rfl := hw.symm; clear hw
        go_wp2_with fail
        go_ret2
        exact ⟨rfl, rfl⟩
    · rw [decide_eq_false hI] at hc
      clear hM hI h hm hn hf hd
      go_enter Try.func17, Try.ntmps17
      go_wp2_with fail
      go_at_call 28
      refine hr.mono ?_
      rintro e w' ⟨rfl, hw⟩; obtain rfl := hw.symm; clear hw
      go_wp2_with fail
      go_at_call 29
      refine hc.mono ?_
      rintro e w' ⟨rfl, hw⟩; obtain rfl := hw.symm; clear hw
      go_wp2_with fail
      go_ret2
      exact ⟨rfl, rfl⟩
  · rw [decide_eq_false hM] at hr
    clear hM h hm hn hf hd hc
    go_enter Try.func17, Try.ntmps17
    go_wp2_with fail
    go_at_call 28
    refine hr.mono ?_
    rintro e w' ⟨rfl, hw⟩; obtain rfl := hw.symm; clear hw
    go_wp2_with fail
    go_ret2
    exact ⟨rfl, rfl⟩
theorem xnew_good (w : World) (m n f : Int) (hI : Idd m n) (hJ : Idd m f) (h : xgap m f n ≤ m / 2 - 2) :
    Calls Try.prog 17 #[.int .i64 m, .int .i64 n, .int .i64 f] w fun e w' => e = .returned (.tuple #[.pointer (some ⟨w.heap.size, 0, none⟩), .int .i64 0]) ∧ Cnt w' w.heap.size m n f ∧ Only (fun _ => False) w w' := by
  have hr := right_any m w hI.i64.1
  have hc := id_any m n w hI.i64.1 hI.i64.2
  have hd := id_any m f w hI.i64.1 hJ.i64.2
  have hg := xgap_any m f n w hI.i64.1 hJ.i64.2 hI.i64.2
  rw [decide_eq_true hI.1] at hr
  rw [decide_eq_true hI.2] at hc
  rw [decide_eq_true hJ.2] at hd
  have h16 := hI.1.1
  have h1024 := hI.1.2.1
  have HN := hide (fun (w : World) (t : TypeId) => Cnt.new (w := w) (t := t) hI hJ h)
  obtain ⟨g, hgg⟩ : ∃ g, xgap m f n = g := ⟨_, rfl⟩
  rw [hgg] at hg h
  clear hI hJ hgg
  go_enter Try.func17, Try.ntmps17
  go_wp2_with fail
  go_at_call 28
  refine hr.mono ?_
  rintro e w' ⟨rfl, hw⟩; obtain rfl := hw.symm; clear hw
  go_wp2_with fail
  go_at_call 29
  refine hc.mono ?_
  rintro e w' ⟨rfl, hw⟩; obtain rfl := hw.symm; clear hw
  go_wp2_with fail
  go_at_call 29
  refine hd.mono ?_
  rintro e w' ⟨rfl, hw⟩; obtain rfl := hw.symm; clear hw
  go_wp2_with fail
  go_at_call 12
  refine hg.mono ?_
  rintro e w' ⟨rfl, hw⟩; obtain rfl := hw.symm; clear hw
  go_wp2_with fail
  go_ret2
  exact ⟨rfl, HN.out _ _, Only.alloc _ _ _⟩
theorem awake_any (w : World) : Calls Try.prog 15 #[] w fun e w' => e = .returned (.bool true) ∧ Only (fun _ => False) w w' := by
  have hn := new_good w 16 1 1 (by decide) (by decide) (by decide)
  have ht := fun w (h : Cnt w w.heap.size 16 1 1) => h
  clear ht
  have e1 : xadd 16 1 1 = 2 := by decide
  have e2 : xgap 16 1 2 = 1 := by decide
  have ha := fun w => add_any 16 15 3 w ⟨by omega, by omega⟩ ⟨by omega, by omega⟩ ⟨by omega, by omega⟩
  rw [show xadd 16 15 3 = 2 from by decide] at ha
  have hg := fun w => gap_any 16 15 2 w ⟨by omega, by omega⟩ ⟨by omega, by omega⟩ ⟨by omega, by omega⟩
  rw [show xgap 16 15 2 = 3 from by decide] at hg
  have hb := fun w => before_any 16 15 2 w ⟨by omega, by omega⟩ ⟨by omega, by omega⟩ ⟨by omega, by omega⟩
  rw [show xbef 16 15 2 = true from by decide] at hb
  have hc := fun w => before_any 16 2 15 w ⟨by omega, by omega⟩ ⟨by omega, by omega⟩ ⟨by omega, by omega⟩
  rw [show xbef 16 2 15 = false from by decide] at hc
  have HA := hide ha
  have HG := hide hg
  have HB := hide hb
  have HC := hide hc
  have HE := hide e1
  have HF := hide e2
  clear ha hg hb hc e1 e2
  go_enter Try.func15, Try.ntmps15
  go_wp2_with fail
  refine hn.mono ?_
  rintro e w1 ⟨rfl, hc1, ho1⟩
  have H1 := hide hc1
  have O1 := hide ho1
  clear hc1 ho1 hn
  go_wp2_with fail
  refine (take_good _ _ _ _ _ H1.out (by decide)).mono ?_
  rintro e w2 ⟨rfl, hc2, ho2⟩
  rw [HE.out] at hc2
  have H2 := hide hc2
  have O2 := hide (O1.out.trans ho2 (fun i hi h => by omega))
  clear hc2 ho2
  go_wp2_with fail
  refine (HA.out _).mono ?_
  rintro e w' ⟨rfl, hw⟩; obtain rfl := hw.symm; clear hw
  go_wp2_with fail
  refine (HG.out _).mono ?_
  rintro e w' ⟨rfl, hw⟩; obtain rfl := hw.symm; clear hw
  go_wp2_with fail
  refine (HB.out _).mono ?_
  rintro e w' ⟨rfl, hw⟩; obtain rfl := hw.symm; clear hw
  go_wp2_with fail
  refine (HC.out _).mono ?_
  rintro e w' ⟨rfl, hw⟩; obtain rfl := hw.symm; clear hw
  go_wp2_with fail
  have hl := left_any _ _ _ _ _ H2.out
  rw [HF.out] at hl
  refine hl.mono ?_
  rintro e w' ⟨rfl, k, rfl⟩
  go_wp2_with fail
  go_ret
  exact ⟨rfl, O2.out.trans (onlyN (fun _ => False) _ _) (fun _ _ h => h)⟩
end Go.Proofs.Ytpcdioneelfphaa
