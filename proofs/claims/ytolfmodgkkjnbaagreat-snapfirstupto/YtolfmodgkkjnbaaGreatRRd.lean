/- What the Reader's methods do. -/
import Derived.Test.YtolfmodgkkjnbaaGreatRWr
namespace Go.Proofs.YtolfmodgkkjnbaaGreat
open Go.RowKit

theorem rnum_nil (w : World) (z : Int) : Calls Tryz.prog 111 #[.pointer none, .int .i64 z] w fun e w' => e = .returned (.int .i64 0) ∧ w' = w := by
  go_enter Tryz.func111, Tryz.ntmps111
  go_wp2_with (go_at_call 123; refine (rerr_nil _).mono ?_; rintro e w' ⟨rfl, rfl⟩)
  go_ret
  exact ⟨rfl, rfl⟩
theorem rnum_err (w : World) (r : Nat) (x z : Int) (hc : w.cell? ⟨r, 1, none⟩ = some (.int .i64 x)) (hx : (x != 0) = true) : Calls Tryz.prog 111 #[.pointer (some ⟨r, 0, none⟩), .int .i64 z] w fun e w' => e = .returned (.int .i64 0) ∧ w' = w := by
  go_enter Tryz.func111, Tryz.ntmps111
  go_wp2_with (go_at_call 123; refine (rerr_any _ r x hc).mono ?_; rintro e w' ⟨rfl, rfl⟩)
  go_ret
  exact ⟨rfl, rfl⟩
set_option maxRecDepth 100000 in
set_option maxHeartbeats 800000 in
theorem rnum_bad (w : World) (r : Nat) (s : ByteArray) (z x : Int) (hR : Rd w r s 0) (hr : rd 0 0 s.data.toList = (0, 0, x)) (hx : (x != 0) = true) (hx' : (x == 0) = false) :
    Calls Tryz.prog 111 #[.pointer (some ⟨r, 0, none⟩), .int .i64 z] w fun e w' => e = .returned (.int .i64 0) ∧ w' = (w.setCell ⟨r, 0, none⟩ (.string ⟨#[]⟩)).setCell ⟨r, 1, none⟩ (.int .i64 x) := by
  obtain ⟨c0, c1, f0, f1, hlt⟩ := hR
  have HR := hide hr
  clear hr
  go_enter Tryz.func111, Tryz.ntmps111
  go_wp2_with (first
    | (go_at_call 123; go_must (refine (rerr_any _ r 0 c1).mono ?_); rintro e w' ⟨rfl, rfl⟩)
    | (go_at_call 124; go_must (refine (sevens_any s _).mono ?_); rintro e w' ⟨rfl, rfl⟩; rw [unhide HR])
    | (go_at_call 125; go_must (refine (fail_any _ r s x 0 c0 c1 f0 f1).mono ?_); rintro e w' ⟨rfl, rfl⟩))
  go_ret
  exact ⟨rfl, rfl⟩
set_option maxRecDepth 100000 in
set_option maxHeartbeats 800000 in
theorem rnum_big (w : World) (r : Nat) (s : ByteArray) (z n : Int) (k : Nat) (hR : Rd w r s 0) (hr : rd 0 0 s.data.toList = (n, (k : Int), 0)) (h1 : max z 0 < n) :
    Calls Tryz.prog 111 #[.pointer (some ⟨r, 0, none⟩), .int .i64 z] w fun e w' => e = .returned (.int .i64 0) ∧ w' = (w.setCell ⟨r, 0, none⟩ (.string ⟨#[]⟩)).setCell ⟨r, 1, none⟩ (.int .i64 11) := by
  obtain ⟨c0, c1, f0, f1, hlt⟩ := hR
  have HR := hide hr
  clear hr
  go_enter Tryz.func111, Tryz.ntmps111
  go_wp2_with (first
    | (go_at_call 123; go_must (refine (rerr_any _ r 0 c1).mono ?_); rintro e w' ⟨rfl, rfl⟩)
    | (go_at_call 124; go_must (refine (sevens_any s _).mono ?_); rintro e w' ⟨rfl, rfl⟩; rw [unhide HR])
    | (go_at_call 125; go_must (refine (fail_any _ r s 11 0 c0 c1 f0 f1).mono ?_); rintro e w' ⟨rfl, rfl⟩))
  all_goals go_ret
  all_goals exact ⟨rfl, rfl⟩
set_option maxRecDepth 100000 in
set_option maxHeartbeats 800000 in
theorem rnum_ok (w : World) (r : Nat) (s : ByteArray) (z n : Int) (k : Nat) (hR : Rd w r s 0) (hr : rd 0 0 s.data.toList = (n, (k : Int), 0)) (h1 : ¬ max z 0 < n) (hk : k ≤ s.size) :
    Calls Tryz.prog 111 #[.pointer (some ⟨r, 0, none⟩), .int .i64 z] w fun e w' => e = .returned (.int .i64 n) ∧ w' = w.setCell ⟨r, 0, none⟩ (.string (s.extract k s.size)) := by
  obtain ⟨c0, c1, f0, f1, hlt⟩ := hR
  have HR := hide hr
  clear hr
  go_enter Tryz.func111, Tryz.ntmps111
  go_wp2_with (first
    | (go_at_call 123; go_must (refine (rerr_any _ r 0 c1).mono ?_); rintro e w' ⟨rfl, rfl⟩)
    | (go_at_call 124; go_must (refine (sevens_any s _).mono ?_); rintro e w' ⟨rfl, rfl⟩; rw [unhide HR]))
  all_goals go_ret
  all_goals exact ⟨rfl, rfl⟩
theorem ba_eq (s : ByteArray) (l : List UInt8) (h : s.data.toList = l) : s = ⟨l.toArray⟩ := by
  obtain ⟨⟨m⟩⟩ := s
  simp at h
  rw [h]
theorem rdN_bad {z x : Int} {l : List UInt8} (h : rd 0 0 l = (0, 0, x)) (hx : x ≠ 0) : rdN z l = (0, [], x) := by unfold rdN; rw [h]; simp [hx]
theorem rdN_big {z n : Int} {k : Nat} {l : List UInt8} (h : rd 0 0 l = (n, (k : Int), 0)) (hx : max z 0 < n) : rdN z l = (0, [], 11) := by unfold rdN; rw [h, if_pos rfl, if_pos hx]
theorem rdN_ok {z n : Int} {k : Nat} {l : List UInt8} (h : rd 0 0 l = (n, (k : Int), 0)) (hx : ¬ max z 0 < n) : rdN z l = (n, l.drop k, 0) := by unfold rdN; rw [h, if_pos rfl, if_neg hx]; simp
theorem fail_rd {w : World} {r : Nat} {s : ByteArray} {x : Int} (h : Rd w r s x) (y : Int) : Rd ((w.setCell ⟨r, 0, none⟩ (.string ⟨#[]⟩)).setCell ⟨r, 1, none⟩ (.int .i64 y)) r ⟨#[]⟩ y ∧ Only (fun k => k = r) w ((w.setCell ⟨r, 0, none⟩ (.string ⟨#[]⟩)).setCell ⟨r, 1, none⟩ (.int .i64 y)) :=
  ⟨(h.set0 _).set1 y, (Only.setCell (S := fun k => k = r) w ⟨r, 0, none⟩ _ rfl).trans (Only.setCell (S := fun k => k = r) _ ⟨r, 1, none⟩ _ rfl) (fun _ _ h => h)⟩
theorem rnum_any (w : World) (r : Nat) (s : ByteArray) (z : Int) (hR : Rd w r s 0) :
    Calls Tryz.prog 111 #[.pointer (some ⟨r, 0, none⟩), .int .i64 z] w fun e w' => e = .returned (.int .i64 (rdN z s.data.toList).1) ∧ Rd w' r ⟨(rdN z s.data.toList).2.1.toArray⟩ (rdN z s.data.toList).2.2 ∧ Only (fun k => k = r) w w' := by
  rcases rd_cases s.data.toList 0 0 (by omega) (by omega) (by decide) with h | h | ⟨n, k, h, h2, h3, h4, h5, h6⟩
  · rw [rdN_bad h (by decide)]
    refine (rnum_bad w r s z 10 hR h rfl rfl).mono ?_
    rintro e w' ⟨rfl, rfl⟩
    exact ⟨rfl, fail_rd hR 10⟩
  · rw [rdN_bad h (by decide)]
    refine (rnum_bad w r s z 11 hR h rfl rfl).mono ?_
    rintro e w' ⟨rfl, rfl⟩
    exact ⟨rfl, fail_rd hR 11⟩
  · by_cases hm : max z 0 < n
    · rw [rdN_big h hm]
      refine (rnum_big w r s z n k hR h hm).mono ?_
      rintro e w' ⟨rfl, rfl⟩
      exact ⟨rfl, fail_rd hR 11⟩
    · rw [rdN_ok h hm]
      refine (rnum_ok w r s z n k hR h hm (by simpa using h5)).mono ?_
      rintro e w' ⟨rfl, rfl⟩
      refine ⟨rfl, ?_, Only.setCell (S := fun k => k = r) w ⟨r, 0, none⟩ _ rfl⟩
      have h := hR.set0 (s.extract k s.size)
      rw [ba_eq (s.extract k s.size) _ (Lib.extract_to_end s k)] at h ⊢
      exact h
theorem rdN_facts (z : Int) (l : List UInt8) : 0 ≤ (rdN z l).1 ∧ (rdN z l).1 < 9223372036854775808 ∧ (rdN z l).2.1.length ≤ l.length := by
  rcases rd_cases l 0 0 (by omega) (by omega) (by decide) with h | h | ⟨n, k, h, h2, h3, h4, h5, h6⟩
  · rw [rdN_bad h (by decide)]; simp
  · rw [rdN_bad h (by decide)]; simp
  · by_cases hm : max z 0 < n
    · rw [rdN_big h hm]; simp
    · rw [rdN_ok h hm]; simp; omega
theorem rdT_err {z : Int} {l : List UInt8} (h : (rdN z l).2.2 ≠ 0) : rdT z l = ([], [], (rdN z l).2.2) := by unfold rdT; rw [if_neg h]
theorem rdT_short {z : Int} {l : List UInt8} (h : (rdN z l).2.2 = 0) (h1 : ((rdN z l).2.1.length : Int) < (rdN z l).1) : rdT z l = ([], [], 10) := by unfold rdT; rw [if_pos h, if_pos h1]
theorem rdT_ok {z : Int} {l : List UInt8} (h : (rdN z l).2.2 = 0) (h1 : ¬ ((rdN z l).2.1.length : Int) < (rdN z l).1) : rdT z l = ((rdN z l).2.1.take (rdN z l).1.toNat, (rdN z l).2.1.drop (rdN z l).1.toNat, 0) := by unfold rdT; rw [if_pos h, if_neg h1]
theorem rdN_errs (z : Int) (l : List UInt8) (h : (rdN z l).2.2 ≠ 0) : (rdN z l).2.1 = [] := by
  rcases rd_cases l 0 0 (by omega) (by omega) (by decide) with h' | h' | ⟨n, k, h', h2, h3, h4, h5, h6⟩
  · rw [rdN_bad h' (by decide)]
  · rw [rdN_bad h' (by decide)]
  · by_cases hm : max z 0 < n
    · rw [rdN_big h' hm]
    · rw [rdN_ok h' hm] at h; simp at h
end Go.Proofs.YtolfmodgkkjnbaaGreat
