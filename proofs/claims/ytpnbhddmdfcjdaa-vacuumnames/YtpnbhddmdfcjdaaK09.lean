/- Parts. -/
import Derived.Test.YtpnbhddmdfcjdaaK08
set_option maxRecDepth 100000
namespace Go.Proofs.Ytpnbhddmdfcjdaa
open Go.RowKit
theorem rnum_nil (w : World) (z : Int) : Calls Try.prog 67 #[.pointer none, .int .i64 z] w fun e w' => e = .returned (.int .i64 0) ∧ w' = w := by
  go_enter Try.func67, Try.ntmps67
  go_wp2_with (go_at_call 68; refine (rerr_nil _).mono ?_; rintro e w' ⟨rfl, rfl⟩)
  go_ret
  exact ⟨rfl, rfl⟩
theorem rnum_err (w : World) (r : Nat) (x z : Int) (hc : w.cell? ⟨r, 1, none⟩ = some (.int .i64 x)) (hx : (x != 0) = true) : Calls Try.prog 67 #[.pointer (some ⟨r, 0, none⟩), .int .i64 z] w fun e w' => e = .returned (.int .i64 0) ∧ w' = w := by
  go_enter Try.func67, Try.ntmps67
  go_wp2_with (go_at_call 68; refine (rerr_any _ r x hc).mono ?_; rintro e w' ⟨rfl, rfl⟩)
  go_ret
  exact ⟨rfl, rfl⟩
set_option maxRecDepth 100000 in
set_option maxHeartbeats 800000 in
theorem rnum_bad (w : World) (r : Nat) (s : ByteArray) (z x : Int) (hR : Rd w r s 0) (hr : rd 0 0 s.data.toList = (0, 0, x)) (hx : (x != 0) = true) (hx' : (x == 0) = false) :
    Calls Try.prog 67 #[.pointer (some ⟨r, 0, none⟩), .int .i64 z] w fun e w' => e = .returned (.int .i64 0) ∧ w' = (w.setCell ⟨r, 0, none⟩ (.string ⟨#[]⟩)).setCell ⟨r, 1, none⟩ (.int .i64 x) := by
  obtain ⟨c0, c1, f0, f1, hlt⟩ := hR
  have HR := hide hr
  clear hr
  go_enter Try.func67, Try.ntmps67
  go_wp2_with (first
    | (go_at_call 68; go_must (refine (rerr_any _ r 0 c1).mono ?_); rintro e w' ⟨rfl, rfl⟩)
    | (go_at_call 88; go_must (refine (sevens_any s _).mono ?_); rintro e w' ⟨rfl, rfl⟩; rw [unhide HR])
    | (go_at_call 69; go_must (refine (fail_any _ r s x 0 c0 c1 f0 f1).mono ?_); rintro e w' ⟨rfl, rfl⟩))
  go_ret
  exact ⟨rfl, rfl⟩
set_option maxRecDepth 100000 in
set_option maxHeartbeats 800000 in
theorem rnum_big (w : World) (r : Nat) (s : ByteArray) (z n : Int) (k : Nat) (hR : Rd w r s 0) (hr : rd 0 0 s.data.toList = (n, (k : Int), 0)) (h1 : max z 0 < n) :
    Calls Try.prog 67 #[.pointer (some ⟨r, 0, none⟩), .int .i64 z] w fun e w' => e = .returned (.int .i64 0) ∧ w' = (w.setCell ⟨r, 0, none⟩ (.string ⟨#[]⟩)).setCell ⟨r, 1, none⟩ (.int .i64 11) := by
  obtain ⟨c0, c1, f0, f1, hlt⟩ := hR
  have HR := hide hr
  clear hr
  go_enter Try.func67, Try.ntmps67
  go_wp2_with (first
    | (go_at_call 68; go_must (refine (rerr_any _ r 0 c1).mono ?_); rintro e w' ⟨rfl, rfl⟩)
    | (go_at_call 88; go_must (refine (sevens_any s _).mono ?_); rintro e w' ⟨rfl, rfl⟩; rw [unhide HR])
    | (go_at_call 69; go_must (refine (fail_any _ r s 11 0 c0 c1 f0 f1).mono ?_); rintro e w' ⟨rfl, rfl⟩))
  all_goals go_ret
  all_goals exact ⟨rfl, rfl⟩
set_option maxRecDepth 100000 in
set_option maxHeartbeats 800000 in
theorem rnum_ok (w : World) (r : Nat) (s : ByteArray) (z n : Int) (k : Nat) (hR : Rd w r s 0) (hr : rd 0 0 s.data.toList = (n, (k : Int), 0)) (h1 : ¬ max z 0 < n) (hk : k ≤ s.size) :
    Calls Try.prog 67 #[.pointer (some ⟨r, 0, none⟩), .int .i64 z] w fun e w' => e = .returned (.int .i64 n) ∧ w' = w.setCell ⟨r, 0, none⟩ (.string (s.extract k s.size)) := by
  obtain ⟨c0, c1, f0, f1, hlt⟩ := hR
  have HR := hide hr
  clear hr
  go_enter Try.func67, Try.ntmps67
  go_wp2_with (first
    | (go_at_call 68; go_must (refine (rerr_any _ r 0 c1).mono ?_); rintro e w' ⟨rfl, rfl⟩)
    | (go_at_call 88; go_must (refine (sevens_any s _).mono ?_); rintro e w' ⟨rfl, rfl⟩; rw [unhide HR]))
  all_goals go_ret
  all_goals exact ⟨rfl, rfl⟩
theorem ba_eq (s : ByteArray) (l : List UInt8) (h : s.data.toList = l) : s = ⟨l.toArray⟩ := by
  obtain ⟨⟨m⟩⟩ := s
  simp at h
  rw [h]
theorem rdN_bad {z x : Int} {l : List UInt8} (h : rd 0 0 l = (0, 0, x)) (hx : x ≠ 0) : rdN z l = (0, [], x) := by unfold rdN; rw [h]; simp [hx]
theorem rdN_big {z n : Int} {k : Nat} {l : List UInt8} (h : rd 0 0 l = (n, (k : Int), 0)) (hx : max z 0 < n) : rdN z l = (0, [], 11) := by unfold rdN; rw [h, if_pos rfl, if_pos hx]
theorem rdN_ok {z n : Int} {k : Nat} {l : List UInt8} (h : rd 0 0 l = (n, (k : Int), 0)) (hx : ¬ max z 0 < n) : rdN z l = (n, l.drop k, 0) := by unfold rdN; rw [h, if_pos rfl, if_neg hx]; simp
theorem fail_rd {w : World} {r : Nat} {s : ByteArray} {x : Int} (h : Rd w r s x) (y : Int) : Rd ((w.setCell ⟨r, 0, none⟩ (.string ⟨#[]⟩)).setCell ⟨r, 1, none⟩ (.int .i64 y)) r ⟨#[]⟩ y ∧ Only (fun k => k = r) w ((w.setCell ⟨r, 0, none⟩ (.string ⟨#[]⟩)).setCell ⟨r, 1, none⟩ (.int .i64 y)) :=
  ⟨(h.set0 _).set1 y, (Only.setCell (S := fun k => k = r) w ⟨r, 0, none⟩ _ rfl).trans (Only.setCell (S := fun k => k = r) _ ⟨r, 1, none⟩ _ rfl) (fun _ _ h => h)⟩
theorem rnum_any (w : World) (r : Nat) (s : ByteArray) (z : Int) (hR : Rd w r s 0) :
    Calls Try.prog 67 #[.pointer (some ⟨r, 0, none⟩), .int .i64 z] w fun e w' => e = .returned (.int .i64 (rdN z s.data.toList).1) ∧ Rd w' r ⟨(rdN z s.data.toList).2.1.toArray⟩ (rdN z s.data.toList).2.2 ∧ Only (fun k => k = r) w w' := by
  rcases rd_cases s.data.toList 0 0 (by omega) (by omega) (by decide) with h | h | ⟨n, k, h, h2, h3, h4, h5, h6⟩
  · rw [rdN_bad h (by decide)]
    refine (rnum_bad w r s z 10 hR h rfl rfl).mono ?_
    rintro e w' ⟨rfl, rfl⟩
    exact ⟨rfl, fail_rd hR 10⟩
  · rw [rdN_bad h (by decide)]
    refine (rnum_bad w r s z 11 hR h rfl rfl).mono ?_
    rintro e w' ⟨rfl, rfl⟩
    exact ⟨rfl, fail_rd hR 11⟩
  · by_cases hm : max z 0 < n
    · rw [rdN_big h hm]
      refine (rnum_big w r s z n k hR h hm).mono ?_
      rintro e w' ⟨rfl, rfl⟩
      exact ⟨rfl, fail_rd hR 11⟩
    · rw [rdN_ok h hm]
      refine (rnum_ok w r s z n k hR h hm (by simpa using h5)).mono ?_
      rintro e w' ⟨rfl, rfl⟩
      refine ⟨rfl, ?_, Only.setCell (S := fun k => k = r) w ⟨r, 0, none⟩ _ rfl⟩
      have h := hR.set0 (s.extract k s.size)
      rw [ba_eq (s.extract k s.size) _ (Lib.extract_to_end s k)] at h ⊢
      exact h
theorem rdN_facts (z : Int) (l : List UInt8) : 0 ≤ (rdN z l).1 ∧ (rdN z l).1 < 9223372036854775808 ∧ (rdN z l).2.1.length ≤ l.length := by
  rcases rd_cases l 0 0 (by omega) (by omega) (by decide) with h | h | ⟨n, k, h, h2, h3, h4, h5, h6⟩
  · rw [rdN_bad h (by decide)]; simp
  · rw [rdN_bad h (by decide)]; simp
  · by_cases hm : max z 0 < n
    · rw [rdN_big h hm]; simp
    · rw [rdN_ok h hm]; simp; omega
theorem rtext_err (w : World) (r : Nat) (x z : Int) (hc : w.cell? ⟨r, 1, none⟩ = some (.int .i64 x)) (hx : (x != 0) = true) : Calls Try.prog 44 #[.pointer (some ⟨r, 0, none⟩), .int .i64 z] w fun e w' => e = .returned (.string ⟨#[]⟩) ∧ w' = w := by
  go_enter Try.func44, Try.ntmps44
  go_wp2_with (first
    | (go_at_call 67; refine (rnum_err _ r x z hc hx).mono ?_; rintro e w' ⟨rfl, rfl⟩)
    | (go_at_call 68; refine (rerr_any _ r x hc).mono ?_; rintro e w' ⟨rfl, rfl⟩))
  go_ret
  exact ⟨rfl, rfl⟩
theorem rdT_err {z : Int} {l : List UInt8} (h : (rdN z l).2.2 ≠ 0) : rdT z l = ([], [], (rdN z l).2.2) := by unfold rdT; rw [if_neg h]
theorem rdT_short {z : Int} {l : List UInt8} (h : (rdN z l).2.2 = 0) (h1 : ((rdN z l).2.1.length : Int) < (rdN z l).1) : rdT z l = ([], [], 10) := by unfold rdT; rw [if_pos h, if_pos h1]
theorem rdT_ok {z : Int} {l : List UInt8} (h : (rdN z l).2.2 = 0) (h1 : ¬ ((rdN z l).2.1.length : Int) < (rdN z l).1) : rdT z l = ((rdN z l).2.1.take (rdN z l).1.toNat, (rdN z l).2.1.drop (rdN z l).1.toNat, 0) := by unfold rdT; rw [if_pos h, if_neg h1]
theorem rdN_errs (z : Int) (l : List UInt8) (h : (rdN z l).2.2 ≠ 0) : (rdN z l).2.1 = [] := by
  rcases rd_cases l 0 0 (by omega) (by omega) (by decide) with h' | h' | ⟨n, k, h', h2, h3, h4, h5, h6⟩
  · rw [rdN_bad h' (by decide)]
  · rw [rdN_bad h' (by decide)]
  · by_cases hm : max z 0 < n
    · rw [rdN_big h' hm]
    · rw [rdN_ok h' hm] at h; simp at h
set_option maxRecDepth 100000 in
set_option maxHeartbeats 800000 in
theorem rtext_any (w : World) (r : Nat) (s : ByteArray) (z : Int) (hR : Rd w r s 0) :
    Calls Try.prog 44 #[.pointer (some ⟨r, 0, none⟩), .int .i64 z] w fun e w' => e = .returned (.string ⟨(rdT z s.data.toList).1.toArray⟩) ∧ Rd w' r ⟨(rdT z s.data.toList).2.1.toArray⟩ (rdT z s.data.toList).2.2 ∧ Only (fun k => k = r) w w' := by
  have hcall := rnum_any w r s z hR
  have hfx := rdN_facts z s.data.toList
  by_cases hx : (rdN z s.data.toList).2.2 = 0
  · by_cases hs : ((rdN z s.data.toList).2.1.length : Int) < (rdN z s.data.toList).1
    · rw [rdT_short hx hs]
      generalize rdN z s.data.toList = N at *
      obtain ⟨n, t, x⟩ := N
      simp only at hx hs hfx hcall
      subst hx
      have HC := hide hcall
      clear hcall
      go_enter Try.func44, Try.ntmps44
      go_wp2_with fail
      refine (unhide HC).mono ?_
      rintro e w1 ⟨rfl, hR1, ho1⟩
      have HR1 := hide hR1
      obtain ⟨c0, c1, f0, f1, hl⟩ := hR1
      go_wp2_with (first
        | (go_at_call 68; go_must (refine (rerr_any _ r 0 c1).mono ?_); rintro e w' ⟨rfl, rfl⟩)
        | (go_at_call 69; go_must (refine (fail_any _ r _ 10 0 c0 c1 f0 f1).mono ?_); rintro e w' ⟨rfl, rfl⟩))
      go_ret
      have hf := fail_rd (unhide HR1) 10
      exact ⟨rfl, hf.1, ho1.trans hf.2 (fun _ _ h => h)⟩
    · rw [rdT_ok hx hs]
      generalize rdN z s.data.toList = N at *
      obtain ⟨n, t, x⟩ := N
      simp only at hx hs hfx hcall ⊢
      subst hx
      obtain ⟨m, rfl⟩ := Int.eq_ofNat_of_zero_le hfx.1
      obtain ⟨u, hu⟩ : ∃ u : ByteArray, u = ⟨t.toArray⟩ := ⟨_, rfl⟩
      have hut : u.data.toList = t := by rw [hu]
      rw [← hu] at hcall
      have hs' : ¬ (u.size : Int) < (m : Int) := by rw [hu]; simpa [ByteArray.size] using hs
      have hms : m ≤ u.size := by omega
      have HT := hide hut
      have HC := hide hcall
      clear hcall hs hu hut
      go_enter Try.func44, Try.ntmps44
      go_wp2_with fail
      refine (unhide HC).mono ?_
      rintro e w1 ⟨rfl, hR1, ho1⟩
      have HR1 := hide hR1
      obtain ⟨c0, c1, f0, f1, hl⟩ := hR1
      go_wp2_with (first
        | (go_at_call 68; go_must (refine (rerr_any _ r 0 c1).mono ?_); rintro e w' ⟨rfl, rfl⟩))
      go_ret
      have h5 := (unhide HR1).set0 (u.extract m u.size)
      have e1 : u.extract 0 m = ⟨(t.take m).toArray⟩ := ba_eq _ _ (by rw [Lib.extract_data, unhide HT]; simp)
      have e2 : u.extract m u.size = ⟨(t.drop m).toArray⟩ := ba_eq _ _ (by rw [Lib.extract_to_end, unhide HT])
      rw [e2] at h5
      rw [e1, e2, Int.toNat_natCast]
      exact ⟨rfl, h5, ho1.trans (Only.setCell (S := fun k => k = r) _ ⟨r, 0, none⟩ _ rfl) (fun _ _ h => h)⟩
  · have hne : ((rdN z s.data.toList).2.2 != 0) = true := by simpa using hx
    rw [rdT_err hx]
    have hnil := rdN_errs z s.data.toList hx
    generalize rdN z s.data.toList = N at *
    obtain ⟨n, t, x⟩ := N
    simp only at hx hfx hcall hne hnil ⊢
    subst hnil
    have HC := hide hcall
    clear hcall hx
    go_enter Try.func44, Try.ntmps44
    go_wp2_with fail
    refine (unhide HC).mono ?_
    rintro e w1 ⟨rfl, hR1, ho1⟩
    have HR1 := hide hR1
    obtain ⟨c0, c1, f0, f1, hl⟩ := hR1
    go_wp2_with (first
      | (go_at_call 68; go_must (refine (rerr_any _ r x c1).mono ?_); rintro e w' ⟨rfl, rfl⟩))
    go_ret
    exact ⟨rfl, unhide HR1, ho1⟩
set_option maxRecDepth 100000 in
theorem rd_canon (L : List UInt8) (i : Nat) (q n : Int) (k : Nat) (hi : i ≤ 8) (h : rd i q L = (n, (k : Int), 0)) :
    ∃ m : Nat, n = q + (m : Int) * 128 ^ i ∧ (0 < i → 0 < m) ∧ i < k ∧ L = sevF (9 - i) m ++ L.drop (k - i) := by
  induction L generalizing i q with
  | nil =>
    rw [show rd i q [] = (0, 0, 10) from rfl] at h
    simp only [Prod.mk.injEq] at h
    omega
  | cons d t ih =>
    have hd := d.toNat_lt
    rw [rd_cons] at h
    split at h
    · rename_i h1
      split at h
      · simp at h
      · rename_i h2
        simp only [Prod.mk.injEq] at h
        obtain ⟨e1, e2, _⟩ := h
        have ek : k = i + 1 := by omega
        refine ⟨d.toNat, e1.symm, fun hp => by omega, by omega, ?_⟩
        rw [ek, show i + 1 - i = 1 by omega, sevF_end (by omega)]
        have e : UInt8.ofNat d.toNat = d := by simp
        rw [e]; rfl
    · rename_i h1
      split at h
      · simp at h
      · rename_i h8
        obtain ⟨m, e1, e2, e3, e4⟩ := ih (i + 1) _ (by omega) h
        have hm := e2 (by omega)
        refine ⟨(d.toNat - 128) + 128 * m, ?_, fun _ => by omega, by omega, ?_⟩
        · rw [e1, Int.pow_succ]
          have e : ((d.toNat - 128 + 128 * m : Nat) : Int) = ((d.toNat : Int) - 128) + 128 * (m : Int) := by omega
          rw [e, Int.add_mul, Int.mul_comm (128 ^ i) 128, ← Int.mul_assoc, Int.mul_comm (m : Int) 128]
          omega
        · have e9 : 9 - i = (9 - (i + 1)) + 1 := by omega
          rw [e9, sevF_more (by omega)]
          have em : (d.toNat - 128 + 128 * m) % 128 + 128 = d.toNat := by omega
          have ed : (d.toNat - 128 + 128 * m) / 128 = m := by omega
          rw [em, ed]
          have e : UInt8.ofNat d.toNat = d := by simp
          rw [e, show k - i = (k - (i + 1)) + 1 by omega, List.drop_succ_cons, List.cons_append, ← e4]
theorem rd_sev (f i m : Nat) (q : Int) (rest : List UInt8) (hf : f + i = 9) (hm : m < 128 ^ f) (hp : 0 < i → 0 < m) (hi : i ≤ 8) :
    rd i q (sevF f m ++ rest) = (q + (m : Int) * 128 ^ i, ((i + (sevF f m).length : Nat) : Int), 0) := by
  induction f generalizing i m q with
  | zero => omega
  | succ f ih =>
    by_cases h : m < 128
    · rw [sevF_end h]
      have e : ((UInt8.ofNat m).toNat : Int) = (m : Int) := by rw [UInt8.toNat_ofNat_of_lt' (show m < 256 by omega)]
      rw [List.cons_append, List.nil_append, rd_cons, e, if_pos (by omega), if_neg (by omega)]
      simp
    · rw [sevF_more h, List.cons_append, rd_cons]
      have e : ((UInt8.ofNat (m % 128 + 128)).toNat : Int) = ((m % 128 + 128 : Nat) : Int) := by rw [UInt8.toNat_ofNat_of_lt' (show m % 128 + 128 < 256 by omega)]
      have h8 : i ≠ 8 := by
        intro e8
        have : f = 0 := by omega
        subst this
        simp at hm
        omega
      rw [Nat.pow_succ] at hm
      rw [e, if_neg (by omega), if_neg h8, ih (i + 1) (m / 128) _ (by omega) (by omega) (fun _ => by omega) (by omega)]
      refine Prod.ext ?_ (Prod.ext ?_ rfl)
      · show _ + ((m / 128 : Nat) : Int) * 128 ^ (i + 1) = q + (m : Int) * 128 ^ i
        rw [Int.pow_succ]
        have e1 : ((m % 128 + 128 : Nat) : Int) - 128 = ((m % 128 : Nat) : Int) := by omega
        have e2 : (m : Int) = ((m % 128 : Nat) : Int) + ((m / 128 : Nat) : Int) * 128 := by omega
        rw [e1]
        conv => rhs; rw [e2, Int.add_mul, Int.mul_assoc, Int.mul_comm 128 (128 ^ i)]
        omega
      · show ((i + 1 + _ : Nat) : Int) = _
        simp only [List.length_cons]
        congr 1
        omega
/-- Num: what is taken is written just so. -/
theorem rdN_canon (z : Int) (l : List UInt8) (h : (rdN z l).2.2 = 0) : l = sev (rdN z l).1.toNat ++ (rdN z l).2.1 := by
  rcases rd_cases l 0 0 (by omega) (by omega) (by decide) with h' | h' | ⟨n, k, h', h2, h3, h4, h5, h6⟩
  · rw [rdN_bad h' (by decide)] at h; simp at h
  · rw [rdN_bad h' (by decide)] at h; simp at h
  · by_cases hm : max z 0 < n
    · rw [rdN_big h' hm] at h; simp at h
    · rw [rdN_ok h' hm]
      obtain ⟨m, e1, _, _, e4⟩ := rd_canon l 0 0 n k (by omega) h'
      have e : n.toNat = m := by rw [e1]; simp
      show l = sev n.toNat ++ l.drop k
      rw [e]
      simpa [sev] using e4
theorem rdT_canon (z : Int) (l : List UInt8) (h : (rdT z l).2.2 = 0) : l = (sev (rdT z l).1.length ++ (rdT z l).1) ++ (rdT z l).2.1 := by
  by_cases hx : (rdN z l).2.2 = 0
  · by_cases hs : ((rdN z l).2.1.length : Int) < (rdN z l).1
    · rw [rdT_short hx hs] at h; simp at h
    · rw [rdT_ok hx hs]
      have hc := rdN_canon z l hx
      have hf := rdN_facts z l
      show l = (sev ((rdN z l).2.1.take (rdN z l).1.toNat).length ++ (rdN z l).2.1.take (rdN z l).1.toNat) ++ (rdN z l).2.1.drop (rdN z l).1.toNat
      have e : ((rdN z l).2.1.take (rdN z l).1.toNat).length = (rdN z l).1.toNat := by rw [List.length_take]; omega
      rw [e, List.append_assoc, List.take_append_drop]
      exact hc
  · rw [rdT_err hx] at h; exact absurd h hx
end Go.Proofs.Ytpnbhddmdfcjdaa
