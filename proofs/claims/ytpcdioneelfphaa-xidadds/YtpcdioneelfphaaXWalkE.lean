/- What Freeze does, of package xid and of the document; the document's New, Take, Left; the law's own examples. -/
import Derived.Test.YtpcdioneelfphaaXWalkD
namespace Go.Proofs.Ytpcdioneelfphaa
open Go.RowKit

theorem freeze_bad (w : World) (c : Nat) (m n f l : Int) (h : Cnt w c m n f) (hl : I64 l) (hb : ¬ (Idd m l ∧ xgap m f l ≤ xgap m f n)) :
    Calls Try.prog 20 #[.pointer (some ⟨c, 0, none⟩), .int .i64 l] w fun e w' => e = .returned (.int .i64 1) ∧ ∃ k, w' = w.drewN k := by
  have h0 := h.c0
  have h2 := h.c2
  have hi := fun w => isID_any m l w h.idn.i64.1 hl
  by_cases hI : Idd m l
  · simp only [decide_eq_true hI] at hi
    have hg := fun w => gap_any m f l w h.idn.i64.1 h.idf.i64.2 hl
    have hu : Hid (∀ j, Calls Try.prog 31 #[.pointer (some ⟨c, 0, none⟩)] (w.drewN j) fun e w' => e = .returned (.int .i64 (xgap m f n)) ∧ ∃ k, w' = w.drewN k) := fun j => by
      refine (inUse_any _ c m n f (h.drew j)).mono ?_
      rintro e w' ⟨rfl, k, rfl⟩
      exact ⟨rfl, j + k, World.drewN_drewN ..⟩
    have hlt : ¬ xgap m f l ≤ xgap m f n := fun k => hb ⟨hI, k⟩
    obtain ⟨a, ha⟩ : ∃ a, xgap m f l = a := ⟨_, rfl⟩
    obtain ⟨b, hbb⟩ : ∃ b, xgap m f n = b := ⟨_, rfl⟩
    simp only [ha] at hg
    rw [ha, hbb] at hlt
    simp only [hbb] at hu
    have hd : decide (b < a) = true := decide_eq_true (by omega)
    have HI := hide hi
    have HG := hide hg
    clear hI hb h hl ha hbb hi hg
    go_enter Try.func20, Try.ntmps20
    go_wp2_with fail
    go_quiet ((first
      | (go_at_call 26; exact Calls.quiet_of_same (HI.out _))
      | (go_at_call 11; exact Calls.quiet_of_same (HG.out _))
      | (go_at_call 31; exact hu.out _)))
    go_wp2
    go_ret
    exact ⟨rfl, _, rfl⟩
  · simp only [decide_eq_false hI] at hi
    have HI := hide hi
    clear hI hb h hl hi
    go_enter Try.func20, Try.ntmps20
    go_wp2_with fail
    go_quiet ((go_at_call 26; exact Calls.quiet_of_same (HI.out _)))
    go_wp2
    go_ret
    exact ⟨rfl, _, rfl⟩
theorem freeze_gap {m n f l : Int} (h : Idd m n) (h' : Idd m f) (hl : Idd m l) (hg : xgap m f n ≤ m / 2 - 2) (hle : xgap m f l ≤ xgap m f n) : xgap m l n = xgap m f n - xgap m f l ∧ xgap m l n ≤ m / 2 - 2 := by
  have h16 := h.1.1
  have := h.2
  have := h'.2
  have := hl.2
  rw [ring_gap h' h, ring_gap h' hl] at *
  rw [ring_gap hl h]
  split at * <;> split at * <;> split <;> omega
theorem freeze_good (w : World) (c : Nat) (m n f l : Int) (h : Cnt w c m n f) (hI : Idd m l) (hle : xgap m f l ≤ xgap m f n) :
    Calls Try.prog 20 #[.pointer (some ⟨c, 0, none⟩), .int .i64 l] w fun e w' => e = .returned (.int .i64 0) ∧ Cnt w' c m n l ∧ Only (fun k => k = c) w w' := by
  have h0 := h.c0
  have h2 := h.c2
  have hf2 := h.fz 2
  have hi := fun w => isID_any m l w h.idn.i64.1 hI.i64.2
  simp only [decide_eq_true hI] at hi
  have hg := fun w => gap_any m f l w h.idn.i64.1 h.idf.i64.2 hI.i64.2
  have hu : Hid (∀ j, Calls Try.prog 31 #[.pointer (some ⟨c, 0, none⟩)] (w.drewN j) fun e w' => e = .returned (.int .i64 (xgap m f n)) ∧ ∃ k, w' = w.drewN k) := fun j => by
    refine (inUse_any _ c m n f (h.drew j)).mono ?_
    rintro e w' ⟨rfl, k, rfl⟩
    exact ⟨rfl, j + k, World.drewN_drewN ..⟩
  have HS : Hid (∀ k, Cnt ((w.drewN k).setCell ⟨c, 2, none⟩ (.int .i64 l)) c m n l ∧ Only (fun k => k = c) (w.drewN k) ((w.drewN k).setCell ⟨c, 2, none⟩ (.int .i64 l))) := fun k => (h.drew k).set2 l hI (freeze_gap h.idn h.idf hI h.gap hle).2
  obtain ⟨a, ha⟩ : ∃ a, xgap m f l = a := ⟨_, rfl⟩
  obtain ⟨b, hbb⟩ : ∃ b, xgap m f n = b := ⟨_, rfl⟩
  simp only [ha] at hg
  rw [ha, hbb] at hle
  simp only [hbb] at hu
  have hd : decide (b < a) = false := decide_eq_false (by omega)
  have HI := hide hi
  have HG := hide hg
  clear hI h ha hbb hi hg
  go_enter Try.func20, Try.ntmps20
  go_wp2_with fail
  go_quiet ((first
    | (go_at_call 26; exact Calls.quiet_of_same (HI.out _))
    | (go_at_call 11; exact Calls.quiet_of_same (HG.out _))
    | (go_at_call 31; exact hu.out _)))
  go_wp2
  go_ret
  exact ⟨rfl, (HS.out _).1, (onlyN _ w _).trans (HS.out _).2 (fun _ _ h => h)⟩
/- The document's. -/
theorem xleft_any (w : World) (c : Nat) (m n f : Int) (h : Cnt w c m n f) : Calls Try.prog 25 #[.pointer (some ⟨c, 0, none⟩)] w fun e w' => e = .returned (.int .i64 (m / 2 - 2 - xgap m f n)) ∧ ∃ k, w' = w.drewN k := by
  have h0 := h.c0
  have h1 := h.c1
  have h2 := h.c2
  have h16 := h.idn.1.1
  have h1024 := h.idn.1.2.1
  have hl := xgap_lt h.idf h.idn
  have hg := fun w => xgap_any m f n w h.idn.i64.1 h.idf.i64.2 h.idn.i64.2
  obtain ⟨b, hbb⟩ : ∃ b, xgap m f n = b := ⟨_, rfl⟩
  rw [hbb] at hl
  simp only [hbb] at hg
  rw [hbb]
  have HG := hide hg
  clear h hbb hg
  go_enter Try.func25, Try.ntmps25
  go_wp2_with fail
  go_quiet ((go_at_call 12; exact Calls.quiet_of_same (HG.out _)))
  go_wp2
  go_ret
  exact ⟨rfl, _, rfl⟩
theorem xtake_none (w : World) (c : Nat) (m n f : Int) (h : Cnt w c m n f) (hz : xgap m f n = m / 2 - 2) : Calls Try.prog 19 #[.pointer (some ⟨c, 0, none⟩)] w fun e w' => e = .returned (.tuple #[.int .i64 0, .int .i64 70]) ∧ ∃ k, w' = w.drewN k := by
  have h0 := h.c0
  have h1 := h.c1
  have h2 := h.c2
  have h16 := h.idn.1.1
  have h1024 := h.idn.1.2.1
  have hg := fun w => xgap_any m f n w h.idn.i64.1 h.idf.i64.2 h.idn.i64.2
  simp only [hz] at hg
  have HG := hide hg
  clear h hz hg
  go_enter Try.func19, Try.ntmps19
  go_wp2_with fail
  go_quiet ((go_at_call 12; exact Calls.quiet_of_same (HG.out _)))
  go_wp2
  go_ret2
  exact ⟨rfl, _, rfl⟩
theorem xtake_good (w : World) (c : Nat) (m n f : Int) (h : Cnt w c m n f) (hz : ¬ xgap m f n = m / 2 - 2) : Calls Try.prog 19 #[.pointer (some ⟨c, 0, none⟩)] w fun e w' => e = .returned (.tuple #[.int .i64 n, .int .i64 0]) ∧ Cnt w' c m (xadd m n 1) f ∧ Only (fun k => k = c) w w' := by
  have hgp := h.gap
  have hs := step_gap h.idn h.idf hgp
  have ha := fun w => xadd_any m n 1 w h.idn.i64.1 h.idn.i64.2 (I64.of (by omega) (by omega))
  have hg := fun w => xgap_any m f n w h.idn.i64.1 h.idf.i64.2 h.idn.i64.2
  obtain ⟨y, hy⟩ : ∃ y, xadd m n 1 = y := ⟨_, rfl⟩
  rw [hy] at hs ⊢
  simp only [hy] at ha
  have HS : Hid (∀ k, Cnt ((w.drewN k).setCell ⟨c, 1, none⟩ (.int .i64 y)) c m y f ∧ Only (fun k => k = c) (w.drewN k) ((w.drewN k).setCell ⟨c, 1, none⟩ (.int .i64 y))) := fun k => (h.drew k).set1 y hs.1 (by rw [hs.2]; omega)
  have h0 := h.c0
  have h1 := h.c1
  have h2 := h.c2
  have hf := h.fz 1
  have h16 := h.idn.1.1
  have h1024 := h.idn.1.2.1
  obtain ⟨b, hbb⟩ : ∃ b, xgap m f n = b := ⟨_, rfl⟩
  rw [hbb] at hz
  simp only [hbb] at hg
  have hb0 : (b == m / 2 - 2) = false := by simpa using hz
  have HG := hide hg
  have HA := hide ha
  clear hgp hz h hs hy hbb hg ha
  go_enter Try.func19, Try.ntmps19
  go_wp2_with fail
  go_quiet ((go_at_call 12; exact Calls.quiet_of_same (HG.out _)))
  go_wp2_with (go_at_call 10; refine (HA.out _).mono ?_; rintro e w' ⟨rfl, hw⟩; obtain rfl := hw.symm; clear hw)
  go_ret2
  exact ⟨rfl, (HS.out _).1, (onlyN _ w _).trans (HS.out _).2 (fun _ _ h => h)⟩
end Go.Proofs.Ytpcdioneelfphaa
