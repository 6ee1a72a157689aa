/- Parts. -/
import Derived.Test.YtpnbhddmdfcjdaaGreatK06
import Derived.Test.YtpnbhddmdfcjdaaGreatK07
import Derived.Sort.Walk0
set_option maxRecDepth 100000
namespace Go.Proofs.YtpnbhddmdfcjdaaGreat
open Go.RowKit
theorem rnum_nil (w : World) (z : Int) : Calls Tryz.prog 140 #[.pointer none, .int .i64 z] w fun e w' => e = .returned (.int .i64 0) ∧ w' = w := by
  go_enter Tryz.func140, Tryz.ntmps140
  go_wp2_with (go_at_call 141; refine (rerr_nil _).mono ?_; rintro e w' ⟨rfl, rfl⟩)
  go_ret
  exact ⟨rfl, rfl⟩
theorem rnum_err (w : World) (r : Nat) (x z : Int) (hc : w.cell? ⟨r, 1, none⟩ = some (.int .i64 x)) (hx : (x != 0) = true) : Calls Tryz.prog 140 #[.pointer (some ⟨r, 0, none⟩), .int .i64 z] w fun e w' => e = .returned (.int .i64 0) ∧ w' = w := by
  go_enter Tryz.func140, Tryz.ntmps140
  go_wp2_with (go_at_call 141; refine (rerr_any _ r x hc).mono ?_; rintro e w' ⟨rfl, rfl⟩)
  go_ret
  exact ⟨rfl, rfl⟩
set_option maxRecDepth 100000 in
set_option maxHeartbeats 800000 in
theorem rnum_bad (w : World) (r : Nat) (s : ByteArray) (z x : Int) (hR : Rd w r s 0) (hr : rd 0 0 s.data.toList = (0, 0, x)) (hx : (x != 0) = true) (hx' : (x == 0) = false) :
    Calls Tryz.prog 140 #[.pointer (some ⟨r, 0, none⟩), .int .i64 z] w fun e w' => e = .returned (.int .i64 0) ∧ w' = (w.setCell ⟨r, 0, none⟩ (.string ⟨#[]⟩)).setCell ⟨r, 1, none⟩ (.int .i64 x) := by
  obtain ⟨c0, c1, f0, f1, hlt⟩ := hR
  have HR := hide hr
  clear hr
  go_enter Tryz.func140, Tryz.ntmps140
  go_wp2_with (first
    | (go_at_call 141; go_must (refine (rerr_any _ r 0 c1).mono ?_); rintro e w' ⟨rfl, rfl⟩)
    | (go_at_call 182; go_must (refine (sevens_any s _).mono ?_); rintro e w' ⟨rfl, rfl⟩; rw [unhide HR])
    | (go_at_call 142; go_must (refine (fail_any _ r s x 0 c0 c1 f0 f1).mono ?_); rintro e w' ⟨rfl, rfl⟩))
  go_ret
  exact ⟨rfl, rfl⟩
set_option maxRecDepth 100000 in
set_option maxHeartbeats 800000 in
theorem rnum_big (w : World) (r : Nat) (s : ByteArray) (z n : Int) (k : Nat) (hR : Rd w r s 0) (hr : rd 0 0 s.data.toList = (n, (k : Int), 0)) (h1 : max z 0 < n) :
    Calls Tryz.prog 140 #[.pointer (some ⟨r, 0, none⟩), .int .i64 z] w fun e w' => e = .returned (.int .i64 0) ∧ w' = (w.setCell ⟨r, 0, none⟩ (.string ⟨#[]⟩)).setCell ⟨r, 1, none⟩ (.int .i64 11) := by
  obtain ⟨c0, c1, f0, f1, hlt⟩ := hR
  have HR := hide hr
  clear hr
  go_enter Tryz.func140, Tryz.ntmps140
  go_wp2_with (first
    | (go_at_call 141; go_must (refine (rerr_any _ r 0 c1).mono ?_); rintro e w' ⟨rfl, rfl⟩)
    | (go_at_call 182; go_must (refine (sevens_any s _).mono ?_); rintro e w' ⟨rfl, rfl⟩; rw [unhide HR])
    | (go_at_call 142; go_must (refine (fail_any _ r s 11 0 c0 c1 f0 f1).mono ?_); rintro e w' ⟨rfl, rfl⟩))
  all_goals go_ret
  all_goals exact ⟨rfl, rfl⟩
set_option maxRecDepth 100000 in
set_option maxHeartbeats 800000 in
theorem rnum_ok (w : World) (r : Nat) (s : ByteArray) (z n : Int) (k : Nat) (hR : Rd w r s 0) (hr : rd 0 0 s.data.toList = (n, (k : Int), 0)) (h1 : ¬ max z 0 < n) (hk : k ≤ s.size) :
    Calls Tryz.prog 140 #[.pointer (some ⟨r, 0, none⟩), .int .i64 z] w fun e w' => e = .returned (.int .i64 n) ∧ w' = w.setCell ⟨r, 0, none⟩ (.string (s.extract k s.size)) := by
  obtain ⟨c0, c1, f0, f1, hlt⟩ := hR
  have HR := hide hr
  clear hr
  go_enter Tryz.func140, Tryz.ntmps140
  go_wp2_with (first
    | (go_at_call 141; go_must (refine (rerr_any _ r 0 c1).mono ?_); rintro e w' ⟨rfl, rfl⟩)
    | (go_at_call 182; go_must (refine (sevens_any s _).mono ?_); rintro e w' ⟨rfl, rfl⟩; rw [unhide HR]))
  all_goals go_ret
  all_goals exact ⟨rfl, rfl⟩
theorem ba_eq (s : ByteArray) (l : List UInt8) (h : s.data.toList = l) : s = ⟨l.toArray⟩ := by
  obtain ⟨⟨m⟩⟩ := s
  simp at h
  rw [h]
theorem rdN_bad {z x : Int} {l : List UInt8} (h : rd 0 0 l = (0, 0, x)) (hx : x ≠ 0) : rdN z l = (0, [], x) := by unfold rdN; rw [h]; simp [hx]
theorem rdN_big {z n : Int} {k : Nat} {l : List UInt8} (h : rd 0 0 l = (n, (k : Int), 0)) (hx : max z 0 < n) : rdN z l = (0, [], 11) := by unfold rdN; rw [h, if_pos rfl, if_pos hx]
theorem rdN_ok {z n : Int} {k : Nat} {l : List UInt8} (h : rd 0 0 l = (n, (k : Int), 0)) (hx : ¬ max z 0 < n) : rdN z l = (n, l.drop k, 0) := by unfold rdN; rw [h, if_pos rfl, if_neg hx]; simp
theorem fail_rd {w : World} {r : Nat} {s : ByteArray} {x : Int} (h : Rd w r s x) (y : Int) : Rd ((w.setCell ⟨r, 0, none⟩ (.string ⟨#[]⟩)).setCell ⟨r, 1, none⟩ (.int .i64 y)) r ⟨#[]⟩ y ∧ Only (fun k => k = r) w ((w.setCell ⟨r, 0, none⟩ (.string ⟨#[]⟩)).setCell ⟨r, 1, none⟩ (.int .i64 y)) :=
  ⟨(h.set0 _).set1 y, (Only.setCell (S := fun k => k = r) w ⟨r, 0, none⟩ _ rfl).trans (Only.setCell (S := fun k => k = r) _ ⟨r, 1, none⟩ _ rfl) (fun _ _ h => h)⟩
theorem rnum_any (w : World) (r : Nat) (s : ByteArray) (z : Int) (hR : Rd w r s 0) :
    Calls Tryz.prog 140 #[.pointer (some ⟨r, 0, none⟩), .int .i64 z] w fun e w' => e = .returned (.int .i64 (rdN z s.data.toList).1) ∧ Rd w' r ⟨(rdN z s.data.toList).2.1.toArray⟩ (rdN z s.data.toList).2.2 ∧ Only (fun k => k = r) w w' := by
  rcases rd_cases s.data.toList 0 0 (by omega) (by omega) (by decide) with h | h | ⟨n, k, h, h2, h3, h4, h5, h6⟩
  · rw [rdN_bad h (by decide)]
    refine (rnum_bad w r s z 10 hR h rfl rfl).mono ?_
    rintro e w' ⟨rfl, rfl⟩
    exact ⟨rfl, fail_rd hR 10⟩
  · rw [rdN_bad h (by decide)]
    refine (rnum_bad w r s z 11 hR h rfl rfl).mono ?_
    rintro e w' ⟨rfl, rfl⟩
    exact ⟨rfl, fail_rd hR 11⟩
  · by_cases hm : max z 0 < n
    · rw [rdN_big h hm]
      refine (rnum_big w r s z n k hR h hm).mono ?_
      rintro e w' ⟨rfl, rfl⟩
      exact ⟨rfl, fail_rd hR 11⟩
    · rw [rdN_ok h hm]
      refine (rnum_ok w r s z n k hR h hm (by simpa using h5)).mono ?_
      rintro e w' ⟨rfl, rfl⟩
      refine ⟨rfl, ?_, Only.setCell (S := fun k => k = r) w ⟨r, 0, none⟩ _ rfl⟩
      have h := hR.set0 (s.extract k s.size)
      rw [ba_eq (s.extract k s.size) _ (Lib.extract_to_end s k)] at h ⊢
      exact h
theorem rdN_facts (z : Int) (l : List UInt8) : 0 ≤ (rdN z l).1 ∧ (rdN z l).1 < 9223372036854775808 ∧ (rdN z l).2.1.length ≤ l.length := by
  rcases rd_cases l 0 0 (by omega) (by omega) (by decide) with h | h | ⟨n, k, h, h2, h3, h4, h5, h6⟩
  · rw [rdN_bad h (by decide)]; simp
  · rw [rdN_bad h (by decide)]; simp
  · by_cases hm : max z 0 < n
    · rw [rdN_big h hm]; simp
    · rw [rdN_ok h hm]; simp; omega
theorem rtext_err (w : World) (r : Nat) (x z : Int) (hc : w.cell? ⟨r, 1, none⟩ = some (.int .i64 x)) (hx : (x != 0) = true) : Calls Tryz.prog 99 #[.pointer (some ⟨r, 0, none⟩), .int .i64 z] w fun e w' => e = .returned (.string ⟨#[]⟩) ∧ w' = w := by
  go_enter Tryz.func99, Tryz.ntmps99
  go_wp2_with (first
    | (go_at_call 140; refine (rnum_err _ r x z hc hx).mono ?_; rintro e w' ⟨rfl, rfl⟩)
    | (go_at_call 141; refine (rerr_any _ r x hc).mono ?_; rintro e w' ⟨rfl, rfl⟩))
  go_ret
  exact ⟨rfl, rfl⟩
theorem rdT_err {z : Int} {l : List UInt8} (h : (rdN z l).2.2 ≠ 0) : rdT z l = ([], [], (rdN z l).2.2) := by unfold rdT; rw [if_neg h]
theorem rdT_short {z : Int} {l : List UInt8} (h : (rdN z l).2.2 = 0) (h1 : ((rdN z l).2.1.length : Int) < (rdN z l).1) : rdT z l = ([], [], 10) := by unfold rdT; rw [if_pos h, if_pos h1]
theorem rdT_ok {z : Int} {l : List UInt8} (h : (rdN z l).2.2 = 0) (h1 : ¬ ((rdN z l).2.1.length : Int) < (rdN z l).1) : rdT z l = ((rdN z l).2.1.take (rdN z l).1.toNat, (rdN z l).2.1.drop (rdN z l).1.toNat, 0) := by unfold rdT; rw [if_pos h, if_neg h1]
theorem rdN_errs (z : Int) (l : List UInt8) (h : (rdN z l).2.2 ≠ 0) : (rdN z l).2.1 = [] := by
  rcases rd_cases l 0 0 (by omega) (by omega) (by decide) with h' | h' | ⟨n, k, h', h2, h3, h4, h5, h6⟩
  · rw [rdN_bad h' (by decide)]
  · rw [rdN_bad h' (by decide)]
  · by_cases hm : max z 0 < n
    · rw [rdN_big h' hm]
    · rw [rdN_ok h' hm] at h; simp at h
set_option maxRecDepth 100000 in
set_option maxHeartbeats 800000 in
theorem rtext_any (w : World) (r : Nat) (s : ByteArray) (z : Int) (hR : Rd w r s 0) :
    Calls Tryz.prog 99 #[.pointer (some ⟨r, 0, none⟩), .int .i64 z] w fun e w' => e = .returned (.string ⟨(rdT z s.data.toList).1.toArray⟩) ∧ Rd w' r ⟨(rdT z s.data.toList).2.1.toArray⟩ (rdT z s.data.toList).2.2 ∧ Only (fun k => k = r) w w' := by
  have hcall := rnum_any w r s z hR
  have hfx := rdN_facts z s.data.toList
  by_cases hx : (rdN z s.data.toList).2.2 = 0
  · by_cases hs : ((rdN z s.data.toList).2.1.length : Int) < (rdN z s.data.toList).1
    · rw [rdT_short hx hs]
      generalize rdN z s.data.toList = N at *
      obtain ⟨n, t, x⟩ := N
      simp only at hx hs hfx hcall
      subst hx
      have HC := hide hcall
      clear hcall
      go_enter Tryz.func99, Tryz.ntmps99
      go_wp2_with fail
      refine (unhide HC).mono ?_
      rintro e w1 ⟨rfl, hR1, ho1⟩
      have HR1 := hide hR1
      obtain ⟨c0, c1, f0, f1, hl⟩ := hR1
      go_wp2_with (first
        | (go_at_call 141; go_must (refine (rerr_any _ r 0 c1).mono ?_); rintro e w' ⟨rfl, rfl⟩)
        | (go_at_call 142; go_must (refine (fail_any _ r _ 10 0 c0 c1 f0 f1).mono ?_); rintro e w' ⟨rfl, rfl⟩))
      go_ret
      have hf := fail_rd (unhide HR1) 10
      exact ⟨rfl, hf.1, ho1.trans hf.2 (fun _ _ h => h)⟩
    · rw [rdT_ok hx hs]
      generalize rdN z s.data.toList = N at *
      obtain ⟨n, t, x⟩ := N
      simp only at hx hs hfx hcall ⊢
      subst hx
      obtain ⟨m, rfl⟩ := Int.eq_ofNat_of_zero_le hfx.1
      obtain ⟨u, hu⟩ : ∃ u : ByteArray, u = ⟨t.toArray⟩ := ⟨_, rfl⟩
      have hut : u.data.toList = t := by rw [hu]
      rw [← hu] at hcall
      have hs' : ¬ (u.size : Int) < (m : Int) := by rw [hu]; simpa [ByteArray.size] using hs
      have hms : m ≤ u.size := by omega
      have HT := hide hut
      have HC := hide hcall
      clear hcall hs hu hut
      go_enter Tryz.func99, Tryz.ntmps99
      go_wp2_with fail
      refine (unhide HC).mono ?_
      rintro e w1 ⟨rfl, hR1, ho1⟩
      have HR1 := hide hR1
      obtain ⟨c0, c1, f0, f1, hl⟩ := hR1
      go_wp2_with (first
        | (go_at_call 141; go_must (refine (rerr_any _ r 0 c1).mono ?_); rintro e w' ⟨rfl, rfl⟩))
      go_ret
      have h5 := (unhide HR1).set0 (u.extract m u.size)
      have e1 : u.extract 0 m = ⟨(t.take m).toArray⟩ := ba_eq _ _ (by rw [Lib.extract_data, unhide HT]; simp)
      have e2 : u.extract m u.size = ⟨(t.drop m).toArray⟩ := ba_eq _ _ (by rw [Lib.extract_to_end, unhide HT])
      rw [e2] at h5
      rw [e1, e2, Int.toNat_natCast]
      exact ⟨rfl, h5, ho1.trans (Only.setCell (S := fun k => k = r) _ ⟨r, 0, none⟩ _ rfl) (fun _ _ h => h)⟩
  · have hne : ((rdN z s.data.toList).2.2 != 0) = true := by simpa using hx
    rw [rdT_err hx]
    have hnil := rdN_errs z s.data.toList hx
    generalize rdN z s.data.toList = N at *
    obtain ⟨n, t, x⟩ := N
    simp only at hx hfx hcall hne hnil ⊢
    subst hnil
    have HC := hide hcall
    clear hcall hx
    go_enter Tryz.func99, Tryz.ntmps99
    go_wp2_with fail
    refine (unhide HC).mono ?_
    rintro e w1 ⟨rfl, hR1, ho1⟩
    have HR1 := hide hR1
    obtain ⟨c0, c1, f0, f1, hl⟩ := hR1
    go_wp2_with (first
      | (go_at_call 141; go_must (refine (rerr_any _ r x c1).mono ?_); rintro e w' ⟨rfl, rfl⟩))
    go_ret
    exact ⟨rfl, unhide HR1, ho1⟩
set_option maxRecDepth 100000 in
theorem rd_canon (L : List UInt8) (i : Nat) (q n : Int) (k : Nat) (hi : i ≤ 8) (h : rd i q L = (n, (k : Int), 0)) :
    ∃ m : Nat, n = q + (m : Int) * 128 ^ i ∧ (0 < i → 0 < m) ∧ i < k ∧ L = sevF (9 - i) m ++ L.drop (k - i) := by
  induction L generalizing i q with
  | nil =>
    rw [show rd i q [] = (0, 0, 10) from rfl] at h
    simp only [Prod.mk.injEq] at h
    omega
  | cons d t ih =>
    have hd := d.toNat_lt
    rw [rd_cons] at h
    split at h
    · rename_i h1
      split at h
      · simp at h
      · rename_i h2
        simp only [Prod.mk.injEq] at h
        obtain ⟨e1, e2, _⟩ := h
        have ek : k = i + 1 := by omega
        refine ⟨d.toNat, e1.symm, fun hp => by omega, by omega, ?_⟩
        rw [ek, show i + 1 - i = 1 by omega, sevF_end (by omega)]
        have e : UInt8.ofNat d.toNat = d := by simp
        rw [e]; rfl
    · rename_i h1
      split at h
      · simp at h
      · rename_i h8
        obtain ⟨m, e1, e2, e3, e4⟩ := ih (i + 1) _ (by omega) h
        have hm := e2 (by omega)
        refine ⟨(d.toNat - 128) + 128 * m, ?_, fun _ => by omega, by omega, ?_⟩
        · rw [e1, Int.pow_succ]
          have e : ((d.toNat - 128 + 128 * m : Nat) : Int) = ((d.toNat : Int) - 128) + 128 * (m : Int) := by omega
          rw [e, Int.add_mul, Int.mul_comm (128 ^ i) 128, ← Int.mul_assoc, Int.mul_comm (m : Int) 128]
          omega
        · have e9 : 9 - i = (9 - (i + 1)) + 1 := by omega
          rw [e9, sevF_more (by omega)]
          have em : (d.toNat - 128 + 128 * m) % 128 + 128 = d.toNat := by omega
          have ed : (d.toNat - 128 + 128 * m) / 128 = m := by omega
          rw [em, ed]
          have e : UInt8.ofNat d.toNat = d := by simp
          rw [e, show k - i = (k - (i + 1)) + 1 by omega, List.drop_succ_cons, List.cons_append, ← e4]
theorem rd_sev (f i m : Nat) (q : Int) (rest : List UInt8) (hf : f + i = 9) (hm : m < 128 ^ f) (hp : 0 < i → 0 < m) (hi : i ≤ 8) :
    rd i q (sevF f m ++ rest) = (q + (m : Int) * 128 ^ i, ((i + (sevF f m).length : Nat) : Int), 0) := by
  induction f generalizing i m q with
  | zero => omega
  | succ f ih =>
    by_cases h : m < 128
    · rw [sevF_end h]
      have e : ((UInt8.ofNat m).toNat : Int) = (m : Int) := by rw [UInt8.toNat_ofNat_of_lt' (show m < 256 by omega)]
      rw [List.cons_append, List.nil_append, rd_cons, e, if_pos (by omega), if_neg (by omega)]
      simp
    · rw [sevF_more h, List.cons_append, rd_cons]
      have e : ((UInt8.ofNat (m % 128 + 128)).toNat : Int) = ((m % 128 + 128 : Nat) : Int) := by rw [UInt8.toNat_ofNat_of_lt' (show m % 128 + 128 < 256 by omega)]
      have h8 : i ≠ 8 := by
        intro e8
        have : f = 0 := by omega
        subst this
        simp at hm
        omega
      rw [Nat.pow_succ] at hm
      rw [e, if_neg (by omega), if_neg h8, ih (i + 1) (m / 128) _ (by omega) (by omega) (fun _ => by omega) (by omega)]
      refine Prod.ext ?_ (Prod.ext ?_ rfl)
      · show _ + ((m / 128 : Nat) : Int) * 128 ^ (i + 1) = q + (m : Int) * 128 ^ i
        rw [Int.pow_succ]
        have e1 : ((m % 128 + 128 : Nat) : Int) - 128 = ((m % 128 : Nat) : Int) := by omega
        have e2 : (m : Int) = ((m % 128 : Nat) : Int) + ((m / 128 : Nat) : Int) * 128 := by omega
        rw [e1]
        conv => rhs; rw [e2, Int.add_mul, Int.mul_assoc, Int.mul_comm 128 (128 ^ i)]
        omega
      · show ((i + 1 + _ : Nat) : Int) = _
        simp only [List.length_cons]
        congr 1
        omega
/-- Num: what is taken is written just so. -/
theorem rdN_canon (z : Int) (l : List UInt8) (h : (rdN z l).2.2 = 0) : l = sev (rdN z l).1.toNat ++ (rdN z l).2.1 := by
  rcases rd_cases l 0 0 (by omega) (by omega) (by decide) with h' | h' | ⟨n, k, h', h2, h3, h4, h5, h6⟩
  · rw [rdN_bad h' (by decide)] at h; simp at h
  · rw [rdN_bad h' (by decide)] at h; simp at h
  · by_cases hm : max z 0 < n
    · rw [rdN_big h' hm] at h; simp at h
    · rw [rdN_ok h' hm]
      obtain ⟨m, e1, _, _, e4⟩ := rd_canon l 0 0 n k (by omega) h'
      have e : n.toNat = m := by rw [e1]; simp
      show l = sev n.toNat ++ l.drop k
      rw [e]
      simpa [sev] using e4
theorem rdT_canon (z : Int) (l : List UInt8) (h : (rdT z l).2.2 = 0) : l = (sev (rdT z l).1.length ++ (rdT z l).1) ++ (rdT z l).2.1 := by
  by_cases hx : (rdN z l).2.2 = 0
  · by_cases hs : ((rdN z l).2.1.length : Int) < (rdN z l).1
    · rw [rdT_short hx hs] at h; simp at h
    · rw [rdT_ok hx hs]
      have hc := rdN_canon z l hx
      have hf := rdN_facts z l
      show l = (sev ((rdN z l).2.1.take (rdN z l).1.toNat).length ++ (rdN z l).2.1.take (rdN z l).1.toNat) ++ (rdN z l).2.1.drop (rdN z l).1.toNat
      have e : ((rdN z l).2.1.take (rdN z l).1.toNat).length = (rdN z l).1.toNat := by rw [List.length_take]; omega
      rw [e, List.append_assoc, List.take_append_drop]
      exact hc
  · rw [rdT_err hx] at h; exact absurd h hx
/-- A version as plain data. -/
structure Tu where
  xmin : Int
  xmax : Int
  frozen : Bool
  key : ByteArray
  value : ByteArray
theorem Tu.ext' {a b : Tu} (h1 : a.xmin = b.xmin) (h2 : a.xmax = b.xmax) (h3 : a.frozen = b.frozen) (h4 : a.key = b.key) (h5 : a.value = b.value) : a = b := by
  cases a; cases b; simp_all
def okK (k : ByteArray) : Bool := decide (1 ≤ k.size ∧ k.size ≤ 24)
theorem okK_iff {k : ByteArray} : okK k = true ↔ 1 ≤ k.size ∧ k.size ≤ 24 := by unfold okK; simp
def Tu.ok (t : Tu) : Bool := decide (1 ≤ t.xmin ∧ t.xmin ≤ 1024 ∧ 0 ≤ t.xmax ∧ t.xmax ≤ 1024 ∧ 1 ≤ t.key.size ∧ t.key.size ≤ 24 ∧ t.value.size ≤ 64)
theorem Tu.ok_iff {t : Tu} : t.ok = true ↔ (1 ≤ t.xmin ∧ t.xmin ≤ 1024 ∧ 0 ≤ t.xmax ∧ t.xmax ≤ 1024 ∧ 1 ≤ t.key.size ∧ t.key.size ≤ 24 ∧ t.value.size ≤ 64) := by unfold Tu.ok; simp
/-- A text as it is laid. -/
def txL (s : ByteArray) : List UInt8 := sev s.size ++ s.data.toList
/-- A version's first byte. -/
def mkB (b : Bool) : UInt8 := if b then 3 else 1
/-- A version's bytes. -/
def Tu.enc (t : Tu) : List UInt8 := mkB t.frozen :: (bigF 2 t.xmin.toNat ++ (bigF 2 t.xmax.toNat ++ (txL t.key ++ txL t.value)))
/-- Two texts read one behind the other: both, what is left, what is wrong. -/
def rdTT (l : List UInt8) : List UInt8 × List UInt8 × List UInt8 × Int :=
  if (rdT 24 l).2.2 = 0 then ((rdT 24 l).1, (rdT 64 (rdT 24 l).2.1).1, (rdT 64 (rdT 24 l).2.1).2.1, (rdT 64 (rdT 24 l).2.1).2.2) else ((rdT 24 l).1, [], (rdT 24 l).2.1, (rdT 24 l).2.2)
/-- What is wrong at the end. -/
def endE (l : List UInt8) (x : Int) : Int := if x = 0 then (if l.length = 0 then 0 else 12) else x
/-- What stands in bytes that may be a version's. -/
def rawT (l : List UInt8) : Tu := ⟨ofTo ((l.drop 1).take 2), ofTo ((l.drop 3).take 2), l.head? == some 3, str (rdTT (l.drop 5)).1, str (rdTT (l.drop 5)).2.1⟩
def marked (l : List UInt8) : Bool := l.head? == some 1 || l.head? == some 3
def headed (l : List UInt8) : Bool := decide (5 ≤ l.length) && marked l
def endT (l : List UInt8) : Int := endE (rdTT l).2.2.1 (rdTT l).2.2.2
def goodT (l : List UInt8) : Bool := headed l && (endT (l.drop 5) == 0 && (rawT l).ok)
/-- The version of bytes. -/
def decT (l : List UInt8) : Option Tu := if goodT l then some (rawT l) else none
def noT : Tu := ⟨0, 0, false, ⟨#[]⟩, ⟨#[]⟩⟩
/-- What a dead slot holds. -/
def dlay (k : ByteArray) : List UInt8 := 4 :: txL k
def endD (l : List UInt8) : Int := endE (rdT 24 l).2.1 (rdT 24 l).2.2
def deadK (l : List UInt8) : Option ByteArray := if l.head? = some 4 ∧ endD (l.drop 1) = 0 ∧ okK (str (rdT 24 (l.drop 1)).1) = true then some (str (rdT 24 (l.drop 1)).1) else none
def keyT (l : List UInt8) : Option ByteArray := match decT l with | some t => some t.key | none => deadK l
/-- A slot's state. -/
def stT (l : List UInt8) : Int := if (decT l).isSome then 3 else if (deadK l).isSome then 2 else if l = [] then 1 else 0
theorem endE_zero {l : List UInt8} {x : Int} (h : endE l x = 0) : x = 0 ∧ l = [] := by
  unfold endE at h
  split at h
  · split at h
    · exact ⟨by assumption, List.eq_nil_of_length_eq_zero (by assumption)⟩
    · simp at h
  · contradiction
theorem rdN_upto (z : Int) (m : Nat) (rest : List UInt8) (hm : m < 9223372036854775808) (hz : (m : Int) ≤ z) : rdN z (sev m ++ rest) = ((m : Int), rest, 0) := by
  have h := rd_sev 9 0 m 0 rest rfl (by omega) (fun h => by omega) (by omega)
  have h' : rd 0 0 (sev m ++ rest) = ((m : Int), ((sev m).length : Int), 0) := by
    have e : sev m = sevF 9 m := rfl
    rw [e, h]; simp
  rw [rdN_ok h' (by omega)]
  simp
theorem rdT_upto (z : Int) (s : ByteArray) (rest : List UInt8) (hm : s.size < 9223372036854775808) (hz : (s.size : Int) ≤ z) : rdT z (txL s ++ rest) = (bl s, rest, 0) := by
  have h := rdN_upto z s.size (bl s ++ rest) hm hz
  have hl := bl_len s
  unfold txL
  rw [List.append_assoc]
  rw [show s.data.toList = bl s from rfl]
  rw [rdT_ok (by rw [h]) (by rw [h]; simp; omega)]
  rw [h]
  rw [show ((s.size : Int)).toNat = (bl s).length by omega, List.take_left, List.drop_left]
theorem sev_one (n : Nat) (h : n < 128) : (sev n).length = 1 := by
  unfold sev
  rw [sevF_end h]
  rfl
theorem txL_len (s : ByteArray) (h : s.size < 128) : (txL s).length = 1 + s.size := by
  unfold txL
  rw [List.length_append, sev_one _ h, show s.data.toList = bl s from rfl, bl_len]
theorem rdT_txL {z : Int} {l : List UInt8} (h : (rdT z l).2.2 = 0) : l = txL (str (rdT z l).1) ++ (rdT z l).2.1 := by
  have := rdT_canon z l h
  unfold txL
  rw [str_size]
  exact this
theorem mkB_head (b : Bool) (l : List UInt8) : headed (mkB b :: l) = decide (4 ≤ l.length) := by
  unfold headed marked mkB
  cases b <;> simp
theorem dec_encT {t : Tu} (h : t.ok = true) : decT t.enc = some t := by
  have h' := Tu.ok_iff.1 h
  have l1 := bigF_len 2 t.xmin.toNat
  have l2 := bigF_len 2 t.xmax.toNat
  have d5 : t.enc.drop 5 = txL t.key ++ txL t.value := by
    unfold Tu.enc
    rw [List.drop_succ_cons, ← List.append_assoc, List.drop_append_of_le_length (by simp; omega), List.drop_of_length_le (by simp; omega), List.nil_append]
  have d1 : (t.enc.drop 1).take 2 = bigF 2 t.xmin.toNat := by
    unfold Tu.enc
    rw [List.drop_succ_cons, List.drop_zero, List.take_append_of_le_length (by omega), List.take_of_length_le (by omega)]
  have d3 : (t.enc.drop 3).take 2 = bigF 2 t.xmax.toNat := by
    unfold Tu.enc
    rw [List.drop_succ_cons, List.drop_append_of_le_length (by omega), List.drop_of_length_le (by omega), List.nil_append, List.take_append_of_le_length (by omega), List.take_of_length_le (by omega)]
  have t1 : rdT 24 (t.enc.drop 5) = (bl t.key, txL t.value, 0) := by
    rw [d5]
    exact rdT_upto 24 t.key _ (by omega) (by omega)
  have t2 : rdT 64 (txL t.value) = (bl t.value, [], 0) := by
    have := rdT_upto 64 t.value [] (by omega) (by omega)
    rwa [List.append_nil] at this
  have tt : rdTT (t.enc.drop 5) = (bl t.key, bl t.value, [], 0) := by
    unfold rdTT
    rw [t1]
    simp only [if_pos]
    rw [t2]
  have hr : rawT t.enc = t := by
    unfold rawT
    rw [d1, d3, tt, ofTo_big 2 _ (by omega) (by omega), ofTo_big 2 _ (by omega) (by omega)]
    simp only [str_bl]
    refine Tu.ext' ?_ ?_ ?_ rfl rfl
    · simp; omega
    · simp; omega
    · simp only [Tu.enc, mkB, List.head?_cons]
      cases t.frozen <;> rfl
  have hh : headed t.enc = true := by
    unfold Tu.enc
    rw [mkB_head]
    simp only [List.length_append, decide_eq_true_eq]
    omega
  unfold decT goodT
  rw [hr, hh, h]
  unfold endT
  rw [tt]
  rfl
theorem list5 {l : List UInt8} (h : 5 ≤ l.length) : ∃ a b c d e r, l = a :: b :: c :: d :: e :: r := by
  match l, h with
  | a :: b :: c :: d :: e :: r, _ => exact ⟨a, b, c, d, e, r, rfl⟩
theorem enc_decT {l : List UInt8} {t : Tu} (h : decT l = some t) : t.ok = true ∧ t.enc = l ∧ headed l = true := by
  unfold decT at h
  split at h
  · rename_i hg
    simp only [Option.some.injEq] at h
    subst h
    unfold goodT at hg
    simp only [Bool.and_eq_true, beq_iff_eq] at hg
    obtain ⟨hh, he, hok⟩ := hg
    refine ⟨hok, ?_, hh⟩
    unfold headed at hh
    simp only [Bool.and_eq_true, decide_eq_true_eq] at hh
    obtain ⟨h5, hm⟩ := hh
    obtain ⟨a, b, c, d, e, r, rfl⟩ := list5 h5
    obtain ⟨hx, hl⟩ := endE_zero he
    simp only [List.drop_succ_cons, List.drop_zero] at hx hl
    have hq : r = txL (str (rdTT r).1) ++ txL (str (rdTT r).2.1) := by
      unfold rdTT at hx hl ⊢
      by_cases h0 : (rdT 24 r).2.2 = 0
      · rw [if_pos h0] at hx hl ⊢
        simp only at hx hl ⊢
        have e1 := rdT_txL h0
        have e2 := rdT_txL hx
        rw [hl, List.append_nil] at e2
        rw [← e2]
        exact e1
      · rw [if_neg h0] at hx
        exact absurd hx h0
    have b1 := big_ofTo [b, c] (by simp)
    have b2 := big_ofTo [d, e] (by simp)
    simp only [List.length_cons, List.length_nil] at b1 b2
    unfold Tu.enc rawT
    simp only [List.drop_succ_cons, List.drop_zero, List.take_succ_cons, List.take_zero, List.head?_cons]
    rw [← hq, b1, b2]
    unfold marked at hm
    simp only [List.head?_cons] at hm
    simp only [List.cons_append, List.nil_append, List.cons.injEq, and_true]
    unfold mkB
    by_cases ha : a = 3
    · subst ha; rfl
    · have : a = 1 := by simpa [ha] using hm
      subst this; rfl
  · cases h
theorem dead_lay {k : ByteArray} (h : okK k = true) : deadK (dlay k) = some k := by
  have h' := okK_iff.1 h
  have t1 : rdT 24 ((dlay k).drop 1) = (bl k, [], 0) := by
    have := rdT_upto 24 k [] (by omega) (by omega)
    rwa [List.append_nil] at this
  unfold deadK endD
  rw [t1]
  rw [if_pos ⟨rfl, rfl, by simpa [str_bl] using h⟩]
  simp [str_bl]
theorem lay_dead {l : List UInt8} {k : ByteArray} (h : deadK l = some k) : okK k = true ∧ dlay k = l ∧ l.head? = some 4 := by
  unfold deadK at h
  split at h
  · rename_i hc
    obtain ⟨h0, h1, h2⟩ := hc
    simp only [Option.some.injEq] at h
    subst h
    refine ⟨h2, ?_, h0⟩
    obtain ⟨hx, hl⟩ := endE_zero h1
    have e1 := rdT_txL hx
    rw [hl, List.append_nil] at e1
    unfold dlay
    rw [← e1]
    cases l with
    | nil => simp at h0
    | cons a r =>
      simp only [List.head?_cons, Option.some.injEq] at h0
      subst h0
      rfl
  · cases h
theorem headed_four {l : List UInt8} (h : headed l = true) : l.head? ≠ some 4 := by
  unfold headed marked at h
  intro e
  rw [e] at h
  simp at h
theorem dec_dead {l : List UInt8} {t : Tu} (h : decT l = some t) : deadK l = none := by
  cases hd : deadK l with
  | none => rfl
  | some k => exact absurd (lay_dead hd).2.2 (headed_four (enc_decT h).2.2)
theorem dead_dec {l : List UInt8} {k : ByteArray} (h : deadK l = some k) : decT l = none := by
  cases hd : decT l with
  | none => rfl
  | some t => rw [dec_dead hd] at h; cases h
theorem enc_lenT {t : Tu} (h : t.ok = true) : t.enc.length = 7 + t.key.size + t.value.size := by
  have h' := Tu.ok_iff.1 h
  have l1 := bigF_len 2 t.xmin.toNat
  have l2 := bigF_len 2 t.xmax.toNat
  have l3 := txL_len t.key (by omega)
  have l4 := txL_len t.value (by omega)
  unfold Tu.enc
  simp only [List.length_cons, List.length_append]
  omega
/-- An entry as plain data. -/
structure En where
  key : ByteArray
  page : Int
  slot : Int
theorem En.ext' {a b : En} (h1 : a.key = b.key) (h2 : a.page = b.page) (h3 : a.slot = b.slot) : a = b := by
  cases a; cases b; simp_all
instance : DecidableEq En := fun a b => if h : a.key = b.key ∧ a.page = b.page ∧ a.slot = b.slot then isTrue (En.ext' h.1 h.2.1 h.2.2) else isFalse (fun e => h (by subst e; exact ⟨rfl, rfl, rfl⟩))
/-- The least. -/
def noE : En := ⟨⟨#[]⟩, 0, 0⟩
def En.ok (e : En) : Bool := decide (1 ≤ e.key.size ∧ e.key.size ≤ 24 ∧ 0 ≤ e.page ∧ e.page ≤ 65535 ∧ 0 ≤ e.slot ∧ e.slot ≤ 65535)
theorem En.ok_iff {e : En} : e.ok = true ↔ (1 ≤ e.key.size ∧ e.key.size ≤ 24 ∧ 0 ≤ e.page ∧ e.page ≤ 65535 ∧ 0 ≤ e.slot ∧ e.slot ≤ 65535) := by unfold En.ok; simp
/-- A child. -/
def okC (c : Int) : Bool := decide (1 ≤ c ∧ c ≤ 65535)
theorem okC_iff {c : Int} : okC c = true ↔ 1 ≤ c ∧ c ≤ 65535 := by unfold okC; simp
/-- What may separate. -/
def En.sp (e : En) : Bool := decide (e = noE) || e.ok
theorem En.sp_iff {e : En} : e.sp = true ↔ e = noE ∨ e.ok = true := by unfold En.sp; simp
/-- The order. -/
def En.lt (a b : En) : Prop := if a.key = b.key then (if a.page = b.page then a.slot < b.slot else a.page < b.page) else bl a.key < bl b.key
instance (a b : En) : Decidable (a.lt b) := by unfold En.lt; infer_instance
theorem bl_injN {s t : ByteArray} (h : bl s = bl t) : s = t := by rw [← str_bl s, h, str_bl]
theorem bls_total {a b : List UInt8} (h : a ≠ b) : a < b ∨ b < a := by
  induction a generalizing b with
  | nil =>
    cases b with
    | nil => exact absurd rfl h
    | cons y b => exact .inl (List.nil_lt_cons _ _)
  | cons x a ih =>
    cases b with
    | nil => exact .inr (List.nil_lt_cons _ _)
    | cons y b =>
      rw [List.cons_lt_cons_iff, List.cons_lt_cons_iff]
      by_cases e : x = y
      · subst e
        rcases ih (b := b) (fun e => h (by rw [e])) with k | k
        · exact .inl (.inr ⟨rfl, k⟩)
        · exact .inr (.inr ⟨rfl, k⟩)
      · have : x.toNat ≠ y.toNat := fun k => e (UInt8.toNat_inj.1 k)
        rcases Nat.lt_or_gt_of_ne this with k | k
        · exact .inl (.inl (UInt8.lt_iff_toNat_lt.2 k))
        · exact .inr (.inl (UInt8.lt_iff_toNat_lt.2 k))
theorem En.lt_irrefl (a : En) : ¬ a.lt a := by unfold En.lt; simp
theorem En.lt_asymm {a b : En} (h : a.lt b) (k : b.lt a) : False := by
  unfold En.lt at h k
  by_cases e : a.key = b.key
  · rw [if_pos e] at h
    rw [if_pos e.symm] at k
    by_cases f : a.page = b.page
    · rw [if_pos f] at h
      rw [if_pos f.symm] at k
      omega
    · rw [if_neg f] at h
      rw [if_neg (fun x => f x.symm)] at k
      omega
  · rw [if_neg e] at h
    rw [if_neg (fun x => e x.symm)] at k
    exact List.lt_asymm h k
theorem En.lt_trans {a b c : En} (h : a.lt b) (k : b.lt c) : a.lt c := by
  unfold En.lt at h k ⊢
  by_cases e : a.key = b.key
  · rw [if_pos e] at h
    by_cases g : b.key = c.key
    · rw [if_pos g] at k
      rw [if_pos (e.trans g)]
      by_cases f : a.page = b.page
      · rw [if_pos f] at h
        rw [f]
        by_cases l : b.page = c.page
        · rw [if_pos l] at k ⊢
          omega
        · rw [if_neg l] at k ⊢
          exact k
      · rw [if_neg f] at h
        by_cases l : b.page = c.page
        · rw [if_pos l] at k
          rw [if_neg (by omega)]
          omega
        · rw [if_neg l] at k
          rw [if_neg (by omega)]
          omega
    · rw [if_neg g] at k
      rw [if_neg (by rw [e]; exact g), e]
      exact k
  · rw [if_neg e] at h
    by_cases g : b.key = c.key
    · rw [← g, if_neg e]
      exact h
    · rw [if_neg g] at k
      have l := List.lt_trans h k
      rw [if_neg (fun x => List.lt_irrefl (bl c.key) (by rw [x] at l; exact l))]
      exact l
theorem En.lt_total {a b : En} (h : a ≠ b) : a.lt b ∨ b.lt a := by
  unfold En.lt
  by_cases e : a.key = b.key
  · rw [if_pos e, if_pos e.symm]
    by_cases f : a.page = b.page
    · rw [if_pos f, if_pos f.symm]
      have : a.slot ≠ b.slot := fun g => h (En.ext' e f g)
      omega
    · rw [if_neg f, if_neg (fun x => f x.symm)]
      omega
  · rw [if_neg e, if_neg (fun x => e x.symm)]
    exact bls_total (fun x => e (bl_injN x))
theorem noE_lt {e : En} (h : e.ok = true) : noE.lt e := by
  have h' := En.ok_iff.1 h
  unfold En.lt
  have hk : noE.key ≠ e.key := by
    intro x
    have : e.key.size = 0 := by rw [← x]; rfl
    omega
  rw [if_neg hk]
  have hl := bl_len e.key
  cases hb : bl e.key with
  | nil => rw [hb] at hl; simp at hl; omega
  | cons x l => exact List.nil_lt_cons _ _
theorem not_lt_noE {e : En} (h : e.sp = true) : ¬ e.lt noE := by
  rcases En.sp_iff.1 h with rfl | h
  · exact En.lt_irrefl _
  · exact fun k => En.lt_asymm k (noE_lt h)
/-- How two entries are ordered. -/
def cmpE (a b : En) : Int := if a = b then 0 else if a.lt b then -1 else 1
theorem cmpE_zero {a b : En} : cmpE a b = 0 ↔ a = b := by
  unfold cmpE
  by_cases h : a = b
  · simp [h]
  · rw [if_neg h]
    by_cases k : a.lt b
    · rw [if_pos k]; simp [h]
    · rw [if_neg k]; simp [h]
theorem cmpE_neg {a b : En} : cmpE a b < 0 ↔ a.lt b := by
  unfold cmpE
  by_cases h : a = b
  · subst h; simp [En.lt_irrefl]
  · rw [if_neg h]
    by_cases k : a.lt b
    · rw [if_pos k]; simp [k]
    · rw [if_neg k]; simp [k]
theorem cmpE_pos {a b : En} : 0 < cmpE a b ↔ b.lt a := by
  unfold cmpE
  by_cases h : a = b
  · subst h; simp [En.lt_irrefl]
  · rw [if_neg h]
    by_cases k : a.lt b
    · rw [if_pos k]
      simp only [Int.reduceNeg, Int.not_lt.2 (by decide : (-1 : Int) ≤ 0), false_iff]
      exact fun l => En.lt_asymm k l
    · rw [if_neg k]
      rcases En.lt_total h with l | l
      · exact absurd l k
      · simp [l]
/-- Beyond a high entry; ahead of it. -/
def byd (h e : En) : Bool := decide (h ≠ noE ∧ h.lt e)
def blw (h e : En) : Bool := decide (h = noE ∨ e.lt h)
theorem byd_no {h e : En} : byd h e = false ↔ (h = noE ∨ ¬ h.lt e) := by
  unfold byd
  simp only [decide_eq_false_iff_not, Classical.not_and_iff_not_or_not, Classical.not_not]
theorem byd_noE (e : En) : byd noE e = false := byd_no.2 (.inl rfl)
/-- An entry's bytes. -/
def En.lay (e : En) : List UInt8 := txL e.key ++ (sev e.page.toNat ++ sev e.slot.toNat)
def En.enc (e : En) : ByteArray := str e.lay
/-- A separator's bytes. -/
def En.layS (e : En) (c : Int) : List UInt8 := e.lay ++ sev c.toNat
def En.encS (e : En) (c : Int) : ByteArray := str (e.layS c)
theorem bl_enc (e : En) : bl e.enc = e.lay := rfl
theorem bl_encS (e : En) (c : Int) : bl (e.encS c) = e.layS c := rfl
/-- A number that is read of what is left, if nothing is wrong. -/
def rnS (s : List UInt8 × Int) (z : Int) : Int × List UInt8 × Int := if s.2 = 0 then rdN z s.1 else (0, s.1, s.2)
theorem rnS_zero {s : List UInt8 × Int} {z : Int} (h : s.2 = 0) : rnS s z = rdN z s.1 := by unfold rnS; rw [if_pos h]
theorem rnS_ok {s : List UInt8 × Int} {z : Int} (h : (rnS s z).2.2 = 0) : s.2 = 0 := by
  unfold rnS at h
  by_cases k : s.2 = 0
  · exact k
  · rw [if_neg k] at h; exact h
/-- What is taken of bytes as an entry: it, what is left, what is wrong. -/
def takeE (l : List UInt8) : En × List UInt8 × Int :=
  (⟨str (rdT 24 l).1, (rnS (rdT 24 l).2 65535).1, (rnS (rnS (rdT 24 l).2 65535).2 65535).1⟩, (rnS (rnS (rdT 24 l).2 65535).2 65535).2)
def takeS (l : List UInt8) : (En × Int) × List UInt8 × Int := (((takeE l).1, (rnS (takeE l).2 65535).1), (rnS (takeE l).2 65535).2)
/-- Small enough to be taken. -/
def En.few (e : En) : Prop := e.key.size ≤ 24 ∧ 0 ≤ e.page ∧ e.page ≤ 65535 ∧ 0 ≤ e.slot ∧ e.slot ≤ 65535
theorem En.few_ok {e : En} (h : e.ok = true) : e.few := (En.ok_iff.1 h).2
theorem En.few_sp {e : En} (h : e.sp = true) : e.few := by
  rcases En.sp_iff.1 h with rfl | h
  · exact ⟨by decide, by decide, by decide, by decide, by decide⟩
  · exact En.few_ok h
theorem takeE_lay {e : En} (h : e.few) (rest : List UInt8) : takeE (e.lay ++ rest) = (e, rest, 0) := by
  obtain ⟨h1, h2, h3, h4, h5⟩ := h
  have t1 : rdT 24 (e.lay ++ rest) = (bl e.key, sev e.page.toNat ++ (sev e.slot.toNat ++ rest), 0) := by
    unfold En.lay
    rw [List.append_assoc, List.append_assoc]
    exact rdT_upto 24 e.key _ (by omega) (by omega)
  have t2 : rdN 65535 (sev e.page.toNat ++ (sev e.slot.toNat ++ rest)) = (e.page, sev e.slot.toNat ++ rest, 0) := by
    rw [rdN_upto 65535 e.page.toNat _ (by omega) (by omega), Int.toNat_of_nonneg h2]
  have t3 : rdN 65535 (sev e.slot.toNat ++ rest) = (e.slot, rest, 0) := by
    rw [rdN_upto 65535 e.slot.toNat _ (by omega) (by omega), Int.toNat_of_nonneg h4]
  unfold takeE
  rw [t1, rnS_zero rfl]
  simp only []
  rw [t2, rnS_zero rfl]
  simp only []
  rw [t3]
  simp only [str_bl]
theorem takeE_canon {l : List UInt8} (h : (takeE l).2.2 = 0) : l = (takeE l).1.lay ++ (takeE l).2.1 := by
  have a3 : (rnS (rnS (rdT 24 l).2 65535).2 65535).2.2 = 0 := h
  have a2 := rnS_ok a3
  have a1 := rnS_ok a2
  have c1 := rdT_txL (z := 24) (l := l) a1
  have e2 := rnS_zero (z := 65535) a1
  have e3 := rnS_zero (z := 65535) a2
  have c2 := rdN_canon 65535 (rdT 24 l).2.1 (by rw [← e2]; exact a2)
  have c3 := rdN_canon 65535 (rnS (rdT 24 l).2 65535).2.1 (by rw [← e3]; exact a3)
  rw [← e2] at c2
  rw [← e3] at c3
  show l = (txL (str (rdT 24 l).1) ++ (sev (rnS (rdT 24 l).2 65535).1.toNat ++ sev (rnS (rnS (rdT 24 l).2 65535).2 65535).1.toNat)) ++ (rnS (rnS (rdT 24 l).2 65535).2 65535).2.1
  rw [List.append_assoc, List.append_assoc, ← c3, ← c2]
  exact c1
theorem takeS_lay {e : En} {c : Int} (h : e.few) (h0 : 0 ≤ c) (h1 : c ≤ 65535) (rest : List UInt8) : takeS (e.layS c ++ rest) = ((e, c), rest, 0) := by
  have t : rdN 65535 (sev c.toNat ++ rest) = (c, rest, 0) := by
    rw [rdN_upto 65535 c.toNat _ (by omega) (by omega), Int.toNat_of_nonneg h0]
  unfold takeS En.layS
  rw [List.append_assoc, takeE_lay h, rnS_zero rfl]
  simp only []
  rw [t]
theorem takeS_canon {l : List UInt8} (h : (takeS l).2.2 = 0) : l = (takeS l).1.1.layS (takeS l).1.2 ++ (takeS l).2.1 := by
  have a2 : (rnS (takeE l).2 65535).2.2 = 0 := h
  have a1 := rnS_ok a2
  have e2 := rnS_zero (z := 65535) a1
  have c1 := takeE_canon a1
  have c2 := rdN_canon 65535 (takeE l).2.1 (by rw [← e2]; exact a2)
  rw [← e2] at c2
  show l = ((takeE l).1.lay ++ sev (rnS (takeE l).2 65535).1.toNat) ++ (rnS (takeE l).2 65535).2.1
  rw [List.append_assoc, ← c2]
  exact c1
/-- The entry, the separator of bytes. -/
def decE (l : List UInt8) : Option En := if endE (takeE l).2.1 (takeE l).2.2 = 0 ∧ (takeE l).1.ok = true then some (takeE l).1 else none
def decS (l : List UInt8) : Option (En × Int) := if endE (takeS l).2.1 (takeS l).2.2 = 0 ∧ (takeS l).1.1.sp = true ∧ okC (takeS l).1.2 = true then some (takeS l).1 else none
theorem decE_lay {e : En} (h : e.ok = true) : decE e.lay = some e := by
  have t := takeE_lay (En.few_ok h) []
  rw [List.append_nil] at t
  unfold decE
  rw [t, if_pos ⟨rfl, h⟩]
theorem decE_some {l : List UInt8} {e : En} (h : decE l = some e) : e.ok = true ∧ l = e.lay := by
  unfold decE at h
  split at h
  · rename_i k
    obtain ⟨k1, k2⟩ := k
    cases h
    refine ⟨k2, ?_⟩
    obtain ⟨x0, ln⟩ := endE_zero k1
    have c := takeE_canon x0
    rw [ln, List.append_nil] at c
    exact c
  · cases h
theorem decS_lay {e : En} {c : Int} (h : e.sp = true) (hc : okC c = true) : decS (e.layS c) = some (e, c) := by
  have hc' := okC_iff.1 hc
  have t := takeS_lay (En.few_sp h) (by omega) hc'.2 []
  rw [List.append_nil] at t
  unfold decS
  rw [t, if_pos ⟨rfl, h, hc⟩]
theorem decS_some {l : List UInt8} {e : En} {c : Int} (h : decS l = some (e, c)) : e.sp = true ∧ okC c = true ∧ l = e.layS c := by
  unfold decS at h
  split at h
  · rename_i k
    obtain ⟨k1, k2, k3⟩ := k
    have hp : (takeS l).1 = (e, c) := by simpa using h
    obtain ⟨x0, ln⟩ := endE_zero k1
    have cn := takeS_canon x0
    rw [ln, List.append_nil, hp] at cn
    rw [hp] at k2 k3
    exact ⟨k2, k3, cn⟩
  · cases h
theorem sev_le (n : Nat) : (sev n).length ≤ 10 := sevF_len 9 n
theorem lay_len {e : En} (h : e.key.size ≤ 24) : e.lay.length ≤ 45 := by
  unfold En.lay
  have h1 := txL_len e.key (by omega)
  have h2 := sev_le e.page.toNat
  have h3 := sev_le e.slot.toNat
  simp only [List.length_append]
  omega
theorem layS_len {e : En} (c : Int) (h : e.key.size ≤ 24) : (e.layS c).length ≤ 55 := by
  unfold En.layS
  have h1 := lay_len h
  have h2 := sev_le c.toNat
  simp only [List.length_append]
  omega
/-- The entries that items are, each behind the one ahead, none beyond hi. -/
def rdL (hi : En) : En → List ByteArray → Option (List En)
  | _, [] => some []
  | last, s :: l => match decE (bl s) with
    | none => none
    | some e => if last.lt e ∧ byd hi e = false then (rdL hi e l).map (fun es => e :: es) else none
/-- Strictly rising. -/
def Rise (es : List En) : Prop := es.Pairwise En.lt
/-- Items are these entries. -/
structure LfIs (hi : En) (l : List ByteArray) (es : List En) : Prop where
  items : l = es.map En.enc
  rise : Rise es
  ok : ∀ e ∈ es, e.ok = true
  in_ : ∀ e ∈ es, byd hi e = false
theorem rdL_some {hi : En} {l : List ByteArray} {last : En} {es : List En} (h : rdL hi last l = some es) : LfIs hi l es ∧ ∀ e ∈ es, last.lt e := by
  induction l generalizing last es with
  | nil =>
    cases h
    exact ⟨⟨rfl, List.Pairwise.nil, (fun _ h => by cases h), (fun _ h => by cases h)⟩, fun _ h => by cases h⟩
  | cons s l ih =>
    unfold rdL at h
    cases hd : decE (bl s) with
    | none => rw [hd] at h; cases h
    | some e =>
      rw [hd] at h
      simp only [] at h
      split at h
      · rename_i hc
        cases hr : rdL hi e l with
        | none => rw [hr] at h; cases h
        | some fs =>
          rw [hr] at h
          cases h
          obtain ⟨k1, k2⟩ := ih hr
          obtain ⟨o1, o2⟩ := decE_some hd
          refine ⟨⟨?_, List.pairwise_cons.2 ⟨k2, k1.rise⟩, ?_, ?_⟩, ?_⟩
          · rw [List.map_cons, ← k1.items, show s = e.enc by unfold En.enc; rw [← o2, str_bl]]
          · intro x hx
            rcases List.mem_cons.1 hx with rfl | hx
            · exact o1
            · exact k1.ok x hx
          · intro x hx
            rcases List.mem_cons.1 hx with rfl | hx
            · exact hc.2
            · exact k1.in_ x hx
          · intro x hx
            rcases List.mem_cons.1 hx with rfl | hx
            · exact hc.1
            · exact En.lt_trans hc.1 (k2 x hx)
      · cases h
theorem rdL_of {hi : En} {l : List ByteArray} {last : En} {es : List En} (h : LfIs hi l es) (hl : ∀ e ∈ es, last.lt e) : rdL hi last l = some es := by
  obtain ⟨rfl, h2, h3, h4⟩ := h
  induction es generalizing last with
  | nil => rfl
  | cons e es ih =>
    obtain ⟨p1, p2⟩ := List.pairwise_cons.1 h2
    rw [List.map_cons]
    unfold rdL
    rw [bl_enc, decE_lay (h3 e (List.mem_cons_self ..))]
    simp only []
    rw [if_pos ⟨hl e (List.mem_cons_self ..), h4 e (List.mem_cons_self ..)⟩, ih p1 p2 (fun x hx => h3 x (List.mem_cons_of_mem _ hx)) (fun x hx => h4 x (List.mem_cons_of_mem _ hx))]
    rfl
theorem rdL_leaf {hi : En} {l : List ByteArray} {es : List En} (h : LfIs hi l es) : rdL hi noE l = some es := rdL_of h (fun e he => noE_lt (h.ok e he))
/-- The separators that items are: the first one the least, each other behind the one ahead. -/
def okI (hi : En) : Option En → En → Bool
  | none, e => decide (e = noE)
  | some x, e => decide (x.lt e) && blw hi e
def rdI (hi : En) : Option En → List ByteArray → Option (List (En × Int))
  | _, [] => some []
  | last, s :: l => match decS (bl s) with
    | none => none
    | some k => if okI hi last k.1 = true then (rdI hi (some k.1) l).map (fun ks => k :: ks) else none
structure InIs (hi : En) (l : List ByteArray) (ks : List (En × Int)) : Prop where
  items : l = ks.map (fun k => k.1.encS k.2)
  rise : Rise (ks.map Prod.fst)
  first : ∃ c r, ks = (noE, c) :: r
  ok : ∀ k ∈ ks.tail, k.1.ok = true ∧ blw hi k.1 = true
  kid : ∀ k ∈ ks, okC k.2 = true
theorem rdI_of {hi x : En} {ks : List (En × Int)} (h1 : Rise (ks.map Prod.fst)) (h2 : ∀ k ∈ ks, k.1.ok = true ∧ blw hi k.1 = true) (h3 : ∀ k ∈ ks, okC k.2 = true) (h4 : ∀ k ∈ ks, x.lt k.1) : rdI hi (some x) (ks.map (fun k => k.1.encS k.2)) = some ks := by
  induction ks generalizing x with
  | nil => rfl
  | cons k ks ih =>
    obtain ⟨p1, p2⟩ := List.pairwise_cons.1 h1
    obtain ⟨o1, o2⟩ := h2 k (List.mem_cons_self ..)
    rw [List.map_cons]
    unfold rdI
    rw [bl_encS, decS_lay (En.sp_iff.2 (.inr o1)) (h3 k (List.mem_cons_self ..))]
    simp only []
    rw [if_pos (by unfold okI; simp only [Bool.and_eq_true, decide_eq_true_eq]; exact ⟨h4 k (List.mem_cons_self ..), o2⟩), ih p2 (fun y hy => h2 y (List.mem_cons_of_mem _ hy)) (fun y hy => h3 y (List.mem_cons_of_mem _ hy)) (fun y hy => p1 _ (List.mem_map_of_mem hy))]
    rfl
theorem rdI_inner {hi : En} {l : List ByteArray} {ks : List (En × Int)} (h : InIs hi l ks) : rdI hi none l = some ks := by
  obtain ⟨rfl, h2, ⟨c, r, rfl⟩, h4, h5⟩ := h
  obtain ⟨p1, p2⟩ := List.pairwise_cons.1 h2
  rw [List.map_cons]
  unfold rdI
  rw [bl_encS, decS_lay (En.sp_iff.2 (.inl rfl)) (h5 _ (List.mem_cons_self ..))]
  simp only []
  rw [if_pos (by unfold okI; simp), rdI_of p2 h4 (fun y hy => h5 y (List.mem_cons_of_mem _ hy)) (fun y hy => p1 _ (List.mem_map_of_mem hy))]
  rfl
/-- How many are ahead of one. -/
def plE (es : List En) (e : En) : Nat := es.countP (fun x => decide (x.lt e))
theorem plE_le (es : List En) (e : En) : plE es e ≤ es.length := List.countP_le_length
theorem plE_of {es : List En} {e : En} {c : Nat} (hc : c ≤ es.length) (h1 : ∀ x ∈ es.take c, x.lt e) (h2 : ∀ x ∈ es.drop c, ¬ x.lt e) : plE es e = c := by
  unfold plE
  rw [← List.take_append_drop c es, List.countP_append, List.countP_eq_length.2 (fun x hx => by simpa using h1 x hx), List.countP_eq_zero.2 (fun x hx => by simpa using h2 x hx), List.length_take]
  omega
end Go.Proofs.YtpnbhddmdfcjdaaGreat
