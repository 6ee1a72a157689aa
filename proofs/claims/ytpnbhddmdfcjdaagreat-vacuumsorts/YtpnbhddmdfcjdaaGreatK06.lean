/- Parts. -/
import Derived.Test.YtpnbhddmdfcjdaaGreatK05
import Derived.BigQuiet
import Derived.Deep.Draws
import Derived.Handy
import Derived.Laws.ResultCell
import Derived.Test.YtpnbhddmdfcjdaaGreatK01
import Derived.Maps.AppendAt
import Derived.Laws.OwnMore
import Derived.Lib.AppendZeros
import Derived.Deep.RegionWith
import Derived.Deep.DeepCutAuto
import Derived.Lib.Repeat
import Derived.Deep.LoopGhost
import Derived.Sort.Walk0
set_option maxRecDepth 100000
namespace Go.Proofs.YtpnbhddmdfcjdaaGreat
open Go.RowKit
theorem rnum_nil (w : World) (z : Int) : Calls Tryz.prog 140 #[.pointer none, .int .i64 z] w fun e w' => e = .returned (.int .i64 0) ∧ w' = w := by
  go_enter Tryz.func140, Tryz.ntmps140
  go_wp2_with (go_at_call 141; refine (rerr_nil _).mono ?_; rintro e w' ⟨rfl, rfl⟩)
  go_ret
  exact ⟨rfl, rfl⟩
theorem rnum_err (w : World) (r : Nat) (x z : Int) (hc : w.cell? ⟨r, 1, none⟩ = some (.int .i64 x)) (hx : (x != 0) = true) : Calls Tryz.prog 140 #[.pointer (some ⟨r, 0, none⟩), .int .i64 z] w fun e w' => e = .returned (.int .i64 0) ∧ w' = w := by
  go_enter Tryz.func140, Tryz.ntmps140
  go_wp2_with (go_at_call 141; refine (rerr_any _ r x hc).mono ?_; rintro e w' ⟨rfl, rfl⟩)
  go_ret
  exact ⟨rfl, rfl⟩
set_option maxRecDepth 100000 in
set_option maxHeartbeats 800000 in
theorem rnum_bad (w : World) (r : Nat) (s : ByteArray) (z x : Int) (hR : Rd w r s 0) (hr : rd 0 0 s.data.toList = (0, 0, x)) (hx : (x != 0) = true) (hx' : (x == 0) = false) :
    Calls Tryz.prog 140 #[.pointer (some ⟨r, 0, none⟩), .int .i64 z] w fun e w' => e = .returned (.int .i64 0) ∧ w' = (w.setCell ⟨r, 0, none⟩ (.string ⟨#[]⟩)).setCell ⟨r, 1, none⟩ (.int .i64 x) := by
  obtain ⟨c0, c1, f0, f1, hlt⟩ := hR
  have HR := hide hr
  clear hr
  go_enter Tryz.func140, Tryz.ntmps140
  go_wp2_with (first
    | (go_at_call 141; go_must (refine (rerr_any _ r 0 c1).mono ?_); rintro e w' ⟨rfl, rfl⟩)
    | (go_at_call 182; go_must (refine (sevens_any s _).mono ?_); rintro e w' ⟨rfl, rfl⟩; rw [unhide HR])
    | (go_at_call 142; go_must (refine (fail_any _ r s x 0 c0 c1 f0 f1).mono ?_); rintro e w' ⟨rfl, rfl⟩))
  go_ret
  exact ⟨rfl, rfl⟩
set_option maxRecDepth 100000 in
set_option maxHeartbeats 800000 in
theorem rnum_big (w : World) (r : Nat) (s : ByteArray) (z n : Int) (k : Nat) (hR : Rd w r s 0) (hr : rd 0 0 s.data.toList = (n, (k : Int), 0)) (h1 : max z 0 < n) :
    Calls Tryz.prog 140 #[.pointer (some ⟨r, 0, none⟩), .int .i64 z] w fun e w' => e = .returned (.int .i64 0) ∧ w' = (w.setCell ⟨r, 0, none⟩ (.string ⟨#[]⟩)).setCell ⟨r, 1, none⟩ (.int .i64 11) := by
  obtain ⟨c0, c1, f0, f1, hlt⟩ := hR
  have HR := hide hr
  clear hr
  go_enter Tryz.func140, Tryz.ntmps140
  go_wp2_with (first
    | (go_at_call 141; go_must (refine (rerr_any _ r 0 c1).mono ?_); rintro e w' ⟨rfl, rfl⟩)
    | (go_at_call 182; go_must (refine (sevens_any s _).mono ?_); rintro e w' ⟨rfl, rfl⟩; rw [unhide HR])
    | (go_at_call 142; go_must (refine (fail_any _ r s 11 0 c0 c1 f0 f1).mono ?_); rintro e w' ⟨rfl, rfl⟩))
  all_goals go_ret
  all_goals exact ⟨rfl, rfl⟩
set_option maxRecDepth 100000 in
set_option maxHeartbeats 800000 in
theorem rnum_ok (w : World) (r : Nat) (s : ByteArray) (z n : Int) (k : Nat) (hR : Rd w r s 0) (hr : rd 0 0 s.data.toList = (n, (k : Int), 0)) (h1 : ¬ max z 0 < n) (hk : k ≤ s.size) :
    Calls Tryz.prog 140 #[.pointer (some ⟨r, 0, none⟩), .int .i64 z] w fun e w' => e = .returned (.int .i64 n) ∧ w' = w.setCell ⟨r, 0, none⟩ (.string (s.extract k s.size)) := by
  obtain ⟨c0, c1, f0, f1, hlt⟩ := hR
  have HR := hide hr
  clear hr
  go_enter Tryz.func140, Tryz.ntmps140
  go_wp2_with (first
    | (go_at_call 141; go_must (refine (rerr_any _ r 0 c1).mono ?_); rintro e w' ⟨rfl, rfl⟩)
    | (go_at_call 182; go_must (refine (sevens_any s _).mono ?_); rintro e w' ⟨rfl, rfl⟩; rw [unhide HR]))
  all_goals go_ret
  all_goals exact ⟨rfl, rfl⟩
theorem ba_eq (s : ByteArray) (l : List UInt8) (h : s.data.toList = l) : s = ⟨l.toArray⟩ := by
  obtain ⟨⟨m⟩⟩ := s
  simp at h
  rw [h]
theorem rdN_bad {z x : Int} {l : List UInt8} (h : rd 0 0 l = (0, 0, x)) (hx : x ≠ 0) : rdN z l = (0, [], x) := by unfold rdN; rw [h]; simp [hx]
theorem rdN_big {z n : Int} {k : Nat} {l : List UInt8} (h : rd 0 0 l = (n, (k : Int), 0)) (hx : max z 0 < n) : rdN z l = (0, [], 11) := by unfold rdN; rw [h, if_pos rfl, if_pos hx]
theorem rdN_ok {z n : Int} {k : Nat} {l : List UInt8} (h : rd 0 0 l = (n, (k : Int), 0)) (hx : ¬ max z 0 < n) : rdN z l = (n, l.drop k, 0) := by unfold rdN; rw [h, if_pos rfl, if_neg hx]; simp
theorem fail_rd {w : World} {r : Nat} {s : ByteArray} {x : Int} (h : Rd w r s x) (y : Int) : Rd ((w.setCell ⟨r, 0, none⟩ (.string ⟨#[]⟩)).setCell ⟨r, 1, none⟩ (.int .i64 y)) r ⟨#[]⟩ y ∧ Only (fun k => k = r) w ((w.setCell ⟨r, 0, none⟩ (.string ⟨#[]⟩)).setCell ⟨r, 1, none⟩ (.int .i64 y)) :=
  ⟨(h.set0 _).set1 y, (Only.setCell (S := fun k => k = r) w ⟨r, 0, none⟩ _ rfl).trans (Only.setCell (S := fun k => k = r) _ ⟨r, 1, none⟩ _ rfl) (fun _ _ h => h)⟩
theorem rnum_any (w : World) (r : Nat) (s : ByteArray) (z : Int) (hR : Rd w r s 0) :
    Calls Tryz.prog 140 #[.pointer (some ⟨r, 0, none⟩), .int .i64 z] w fun e w' => e = .returned (.int .i64 (rdN z s.data.toList).1) ∧ Rd w' r ⟨(rdN z s.data.toList).2.1.toArray⟩ (rdN z s.data.toList).2.2 ∧ Only (fun k => k = r) w w' := by
  rcases rd_cases s.data.toList 0 0 (by omega) (by omega) (by decide) with h | h | ⟨n, k, h, h2, h3, h4, h5, h6⟩
  · rw [rdN_bad h (by decide)]
    refine (rnum_bad w r s z 10 hR h rfl rfl).mono ?_
    rintro e w' ⟨rfl, rfl⟩
    exact ⟨rfl, fail_rd hR 10⟩
  · rw [rdN_bad h (by decide)]
    refine (rnum_bad w r s z 11 hR h rfl rfl).mono ?_
    rintro e w' ⟨rfl, rfl⟩
    exact ⟨rfl, fail_rd hR 11⟩
  · by_cases hm : max z 0 < n
    · rw [rdN_big h hm]
      refine (rnum_big w r s z n k hR h hm).mono ?_
      rintro e w' ⟨rfl, rfl⟩
      exact ⟨rfl, fail_rd hR 11⟩
    · rw [rdN_ok h hm]
      refine (rnum_ok w r s z n k hR h hm (by simpa using h5)).mono ?_
      rintro e w' ⟨rfl, rfl⟩
      refine ⟨rfl, ?_, Only.setCell (S := fun k => k = r) w ⟨r, 0, none⟩ _ rfl⟩
      have h := hR.set0 (s.extract k s.size)
      rw [ba_eq (s.extract k s.size) _ (Lib.extract_to_end s k)] at h ⊢
      exact h
theorem rdN_facts (z : Int) (l : List UInt8) : 0 ≤ (rdN z l).1 ∧ (rdN z l).1 < 9223372036854775808 ∧ (rdN z l).2.1.length ≤ l.length := by
  rcases rd_cases l 0 0 (by omega) (by omega) (by decide) with h | h | ⟨n, k, h, h2, h3, h4, h5, h6⟩
  · rw [rdN_bad h (by decide)]; simp
  · rw [rdN_bad h (by decide)]; simp
  · by_cases hm : max z 0 < n
    · rw [rdN_big h hm]; simp
    · rw [rdN_ok h hm]; simp; omega
theorem rtext_err (w : World) (r : Nat) (x z : Int) (hc : w.cell? ⟨r, 1, none⟩ = some (.int .i64 x)) (hx : (x != 0) = true) : Calls Tryz.prog 99 #[.pointer (some ⟨r, 0, none⟩), .int .i64 z] w fun e w' => e = .returned (.string ⟨#[]⟩) ∧ w' = w := by
  go_enter Tryz.func99, Tryz.ntmps99
  go_wp2_with (first
    | (go_at_call 140; refine (rnum_err _ r x z hc hx).mono ?_; rintro e w' ⟨rfl, rfl⟩)
    | (go_at_call 141; refine (rerr_any _ r x hc).mono ?_; rintro e w' ⟨rfl, rfl⟩))
  go_ret
  exact ⟨rfl, rfl⟩
theorem rdT_err {z : Int} {l : List UInt8} (h : (rdN z l).2.2 ≠ 0) : rdT z l = ([], [], (rdN z l).2.2) := by unfold rdT; rw [if_neg h]
theorem rdT_short {z : Int} {l : List UInt8} (h : (rdN z l).2.2 = 0) (h1 : ((rdN z l).2.1.length : Int) < (rdN z l).1) : rdT z l = ([], [], 10) := by unfold rdT; rw [if_pos h, if_pos h1]
theorem rdT_ok {z : Int} {l : List UInt8} (h : (rdN z l).2.2 = 0) (h1 : ¬ ((rdN z l).2.1.length : Int) < (rdN z l).1) : rdT z l = ((rdN z l).2.1.take (rdN z l).1.toNat, (rdN z l).2.1.drop (rdN z l).1.toNat, 0) := by unfold rdT; rw [if_pos h, if_neg h1]
theorem rdN_errs (z : Int) (l : List UInt8) (h : (rdN z l).2.2 ≠ 0) : (rdN z l).2.1 = [] := by
  rcases rd_cases l 0 0 (by omega) (by omega) (by decide) with h' | h' | ⟨n, k, h', h2, h3, h4, h5, h6⟩
  · rw [rdN_bad h' (by decide)]
  · rw [rdN_bad h' (by decide)]
  · by_cases hm : max z 0 < n
    · rw [rdN_big h' hm]
    · rw [rdN_ok h' hm] at h; simp at h
set_option maxRecDepth 100000 in
set_option maxHeartbeats 800000 in
theorem rtext_any (w : World) (r : Nat) (s : ByteArray) (z : Int) (hR : Rd w r s 0) :
    Calls Tryz.prog 99 #[.pointer (some ⟨r, 0, none⟩), .int .i64 z] w fun e w' => e = .returned (.string ⟨(rdT z s.data.toList).1.toArray⟩) ∧ Rd w' r ⟨(rdT z s.data.toList).2.1.toArray⟩ (rdT z s.data.toList).2.2 ∧ Only (fun k => k = r) w w' := by
  have hcall := rnum_any w r s z hR
  have hfx := rdN_facts z s.data.toList
  by_cases hx : (rdN z s.data.toList).2.2 = 0
  · by_cases hs : ((rdN z s.data.toList).2.1.length : Int) < (rdN z s.data.toList).1
    · rw [rdT_short hx hs]
      generalize rdN z s.data.toList = N at *
      obtain ⟨n, t, x⟩ := N
      simp only at hx hs hfx hcall
      subst hx
      have HC := hide hcall
      clear hcall
      go_enter Tryz.func99, Tryz.ntmps99
      go_wp2_with fail
      refine (unhide HC).mono ?_
      rintro e w1 ⟨rfl, hR1, ho1⟩
      have HR1 := hide hR1
      obtain ⟨c0, c1, f0, f1, hl⟩ := hR1
      go_wp2_with (first
        | (go_at_call 141; go_must (refine (rerr_any _ r 0 c1).mono ?_); rintro e w' ⟨rfl, rfl⟩)
        | (go_at_call 142; go_must (refine (fail_any _ r _ 10 0 c0 c1 f0 f1).mono ?_); rintro e w' ⟨rfl, rfl⟩))
      go_ret
      have hf := fail_rd (unhide HR1) 10
      exact ⟨rfl, hf.1, ho1.trans hf.2 (fun _ _ h => h)⟩
    · rw [rdT_ok hx hs]
      generalize rdN z s.data.toList = N at *
      obtain ⟨n, t, x⟩ := N
      simp only at hx hs hfx hcall ⊢
      subst hx
      obtain ⟨m, rfl⟩ := Int.eq_ofNat_of_zero_le hfx.1
      obtain ⟨u, hu⟩ : ∃ u : ByteArray, u = ⟨t.toArray⟩ := ⟨_, rfl⟩
      have hut : u.data.toList = t := by rw [hu]
      rw [← hu] at hcall
      have hs' : ¬ (u.size : Int) < (m : Int) := by rw [hu]; simpa [ByteArray.size] using hs
      have hms : m ≤ u.size := by omega
      have HT := hide hut
      have HC := hide hcall
      clear hcall hs hu hut
      go_enter Tryz.func99, Tryz.ntmps99
      go_wp2_with fail
      refine (unhide HC).mono ?_
      rintro e w1 ⟨rfl, hR1, ho1⟩
      have HR1 := hide hR1
      obtain ⟨c0, c1, f0, f1, hl⟩ := hR1
      go_wp2_with (first
        | (go_at_call 141; go_must (refine (rerr_any _ r 0 c1).mono ?_); rintro e w' ⟨rfl, rfl⟩))
      go_ret
      have h5 := (unhide HR1).set0 (u.extract m u.size)
      have e1 : u.extract 0 m = ⟨(t.take m).toArray⟩ := ba_eq _ _ (by rw [Lib.extract_data, unhide HT]; simp)
      have e2 : u.extract m u.size = ⟨(t.drop m).toArray⟩ := ba_eq _ _ (by rw [Lib.extract_to_end, unhide HT])
      rw [e2] at h5
      rw [e1, e2, Int.toNat_natCast]
      exact ⟨rfl, h5, ho1.trans (Only.setCell (S := fun k => k = r) _ ⟨r, 0, none⟩ _ rfl) (fun _ _ h => h)⟩
  · have hne : ((rdN z s.data.toList).2.2 != 0) = true := by simpa using hx
    rw [rdT_err hx]
    have hnil := rdN_errs z s.data.toList hx
    generalize rdN z s.data.toList = N at *
    obtain ⟨n, t, x⟩ := N
    simp only at hx hfx hcall hne hnil ⊢
    subst hnil
    have HC := hide hcall
    clear hcall hx
    go_enter Tryz.func99, Tryz.ntmps99
    go_wp2_with fail
    refine (unhide HC).mono ?_
    rintro e w1 ⟨rfl, hR1, ho1⟩
    have HR1 := hide hR1
    obtain ⟨c0, c1, f0, f1, hl⟩ := hR1
    go_wp2_with (first
      | (go_at_call 141; go_must (refine (rerr_any _ r x c1).mono ?_); rintro e w' ⟨rfl, rfl⟩))
    go_ret
    exact ⟨rfl, unhide HR1, ho1⟩
set_option maxRecDepth 100000 in
theorem rd_canon (L : List UInt8) (i : Nat) (q n : Int) (k : Nat) (hi : i ≤ 8) (h : rd i q L = (n, (k : Int), 0)) :
    ∃ m : Nat, n = q + (m : Int) * 128 ^ i ∧ (0 < i → 0 < m) ∧ i < k ∧ L = sevF (9 - i) m ++ L.drop (k - i) := by
  induction L generalizing i q with
  | nil =>
    rw [show rd i q [] = (0, 0, 10) from rfl] at h
    simp only [Prod.mk.injEq] at h
    omega
  | cons d t ih =>
    have hd := d.toNat_lt
    rw [rd_cons] at h
    split at h
    · rename_i h1
      split at h
      · simp at h
      · rename_i h2
        simp only [Prod.mk.injEq] at h
        obtain ⟨e1, e2, _⟩ := h
        have ek : k = i + 1 := by omega
        refine ⟨d.toNat, e1.symm, fun hp => by omega, by omega, ?_⟩
        rw [ek, show i + 1 - i = 1 by omega, sevF_end (by omega)]
        have e : UInt8.ofNat d.toNat = d := by simp
        rw [e]; rfl
    · rename_i h1
      split at h
      · simp at h
      · rename_i h8
        obtain ⟨m, e1, e2, e3, e4⟩ := ih (i + 1) _ (by omega) h
        have hm := e2 (by omega)
        refine ⟨(d.toNat - 128) + 128 * m, ?_, fun _ => by omega, by omega, ?_⟩
        · rw [e1, Int.pow_succ]
          have e : ((d.toNat - 128 + 128 * m : Nat) : Int) = ((d.toNat : Int) - 128) + 128 * (m : Int) := by omega
          rw [e, Int.add_mul, Int.mul_comm (128 ^ i) 128, ← Int.mul_assoc, Int.mul_comm (m : Int) 128]
          omega
        · have e9 : 9 - i = (9 - (i + 1)) + 1 := by omega
          rw [e9, sevF_more (by omega)]
          have em : (d.toNat - 128 + 128 * m) % 128 + 128 = d.toNat := by omega
          have ed : (d.toNat - 128 + 128 * m) / 128 = m := by omega
          rw [em, ed]
          have e : UInt8.ofNat d.toNat = d := by simp
          rw [e, show k - i = (k - (i + 1)) + 1 by omega, List.drop_succ_cons, List.cons_append, ← e4]
theorem rd_sev (f i m : Nat) (q : Int) (rest : List UInt8) (hf : f + i = 9) (hm : m < 128 ^ f) (hp : 0 < i → 0 < m) (hi : i ≤ 8) :
    rd i q (sevF f m ++ rest) = (q + (m : Int) * 128 ^ i, ((i + (sevF f m).length : Nat) : Int), 0) := by
  induction f generalizing i m q with
  | zero => omega
  | succ f ih =>
    by_cases h : m < 128
    · rw [sevF_end h]
      have e : ((UInt8.ofNat m).toNat : Int) = (m : Int) := by rw [UInt8.toNat_ofNat_of_lt' (show m < 256 by omega)]
      rw [List.cons_append, List.nil_append, rd_cons, e, if_pos (by omega), if_neg (by omega)]
      simp
    · rw [sevF_more h, List.cons_append, rd_cons]
      have e : ((UInt8.ofNat (m % 128 + 128)).toNat : Int) = ((m % 128 + 128 : Nat) : Int) := by rw [UInt8.toNat_ofNat_of_lt' (show m % 128 + 128 < 256 by omega)]
      have h8 : i ≠ 8 := by
        intro e8
        have : f = 0 := by omega
        subst this
        simp at hm
        omega
      rw [Nat.pow_succ] at hm
      rw [e, if_neg (by omega), if_neg h8, ih (i + 1) (m / 128) _ (by omega) (by omega) (fun _ => by omega) (by omega)]
      refine Prod.ext ?_ (Prod.ext ?_ rfl)
      · show _ + ((m / 128 : Nat) : Int) * 128 ^ (i + 1) = q + (m : Int) * 128 ^ i
        rw [Int.pow_succ]
        have e1 : ((m % 128 + 128 : Nat) : Int) - 128 = ((m % 128 : Nat) : Int) := by omega
        have e2 : (m : Int) = ((m % 128 : Nat) : Int) + ((m / 128 : Nat) : Int) * 128 := by omega
        rw [e1]
        conv => rhs; rw [e2, Int.add_mul, Int.mul_assoc, Int.mul_comm 128 (128 ^ i)]
        omega
      · show ((i + 1 + _ : Nat) : Int) = _
        simp only [List.length_cons]
        congr 1
        omega
/-- Num: what is taken is written just so. -/
theorem rdN_canon (z : Int) (l : List UInt8) (h : (rdN z l).2.2 = 0) : l = sev (rdN z l).1.toNat ++ (rdN z l).2.1 := by
  rcases rd_cases l 0 0 (by omega) (by omega) (by decide) with h' | h' | ⟨n, k, h', h2, h3, h4, h5, h6⟩
  · rw [rdN_bad h' (by decide)] at h; simp at h
  · rw [rdN_bad h' (by decide)] at h; simp at h
  · by_cases hm : max z 0 < n
    · rw [rdN_big h' hm] at h; simp at h
    · rw [rdN_ok h' hm]
      obtain ⟨m, e1, _, _, e4⟩ := rd_canon l 0 0 n k (by omega) h'
      have e : n.toNat = m := by rw [e1]; simp
      show l = sev n.toNat ++ l.drop k
      rw [e]
      simpa [sev] using e4
theorem rdT_canon (z : Int) (l : List UInt8) (h : (rdT z l).2.2 = 0) : l = (sev (rdT z l).1.length ++ (rdT z l).1) ++ (rdT z l).2.1 := by
  by_cases hx : (rdN z l).2.2 = 0
  · by_cases hs : ((rdN z l).2.1.length : Int) < (rdN z l).1
    · rw [rdT_short hx hs] at h; simp at h
    · rw [rdT_ok hx hs]
      have hc := rdN_canon z l hx
      have hf := rdN_facts z l
      show l = (sev ((rdN z l).2.1.take (rdN z l).1.toNat).length ++ (rdN z l).2.1.take (rdN z l).1.toNat) ++ (rdN z l).2.1.drop (rdN z l).1.toNat
      have e : ((rdN z l).2.1.take (rdN z l).1.toNat).length = (rdN z l).1.toNat := by rw [List.length_take]; omega
      rw [e, List.append_assoc, List.take_append_drop]
      exact hc
  · rw [rdT_err hx] at h; exact absurd h hx
theorem isModulus_any (m : Int) (w : World) (hm : I64 m) :
    Calls Tryz.prog 178 #[.int .i64 m] w fun e w' => e = .returned (.bool (decide (Md m))) ∧ w' = w := by
  have hm1 := hm.1
  have hm2 := hm.2
  clear hm
  by_cases h1 : 16 ≤ m
  · by_cases h2 : m ≤ 1024
    · have ht : m.tmod 2 = m % 2 := tmod2 (by omega)
      cases h3 : (m % 2 == 0)
      all_goals
        have HX : (decide (Md m) = (m % 2 == 0)) := by
          unfold Md; rw [h3]; simp at h3; simp [h1, h2, h3]
        rw [HX, h3]
        go_enter Tryz.func178, Tryz.ntmps178
        go_wp2
        go_ret
        exact ⟨rfl, rfl⟩
    · rw [show decide (Md m) = false from by unfold Md; simp [h2]]
      go_enter Tryz.func178, Tryz.ntmps178
      go_wp2
      go_ret
      exact ⟨rfl, rfl⟩
  · rw [show decide (Md m) = false from by unfold Md; simp [h1]]
    go_enter Tryz.func178, Tryz.ntmps178
    go_wp2
    go_ret
    exact ⟨rfl, rfl⟩
theorem right_any (m : Int) (w : World) (hm : I64 m) :
    Calls Tryz.prog 150 #[.int .i64 m] w fun e w' => e = .returned (.bool (decide (Md m))) ∧ w' = w := by
  have hm1 := hm.1
  have hm2 := hm.2
  clear hm
  by_cases h1 : 16 ≤ m
  · by_cases h2 : m ≤ 1024
    · have ht : m.tmod 2 = m % 2 := tmod2 (by omega)
      cases h3 : (m % 2 == 0)
      all_goals
        have HX : (decide (Md m) = (m % 2 == 0)) := by
          unfold Md; rw [h3]; simp at h3; simp [h1, h2, h3]
        rw [HX, h3]
        go_enter Tryz.func150, Tryz.ntmps150
        go_wp2
        go_ret
        exact ⟨rfl, rfl⟩
    · rw [show decide (Md m) = false from by unfold Md; simp [h2]]
      go_enter Tryz.func150, Tryz.ntmps150
      go_wp2
      go_ret
      exact ⟨rfl, rfl⟩
  · rw [show decide (Md m) = false from by unfold Md; simp [h1]]
    go_enter Tryz.func150, Tryz.ntmps150
    go_wp2
    go_ret
    exact ⟨rfl, rfl⟩
theorem isID_any (m x : Int) (w : World) (hm : I64 m) (hx : I64 x) :
    Calls Tryz.prog 128 #[.int .i64 m, .int .i64 x] w fun e w' => e = .returned (.bool (decide (Idd m x))) ∧ w' = w := by
  have hc := isModulus_any m w hm
  have hm1 := hm.1
  have hm2 := hm.2
  have hx1 := hx.1
  have hx2 := hx.2
  clear hm hx
  by_cases hM : Md m
  · rw [decide_eq_true hM] at hc
    by_cases h1 : 1 ≤ x
    · by_cases h2 : x ≤ m
      · rw [show decide (Idd m x) = true from by unfold Idd; simp [h1, h2, hM]]
        clear hM
        go_enter Tryz.func128, Tryz.ntmps128
        go_wp2_with (go_at_call 178; refine hc.mono ?_; rintro e w' ⟨rfl, hw⟩; obtain rfl := hw.symm; clear hw)
        go_ret
        exact ⟨rfl, rfl⟩
      · rw [show decide (Idd m x) = false from by unfold Idd; simp [h2]]
        have hd : decide (x ≤ m) = false := decide_eq_false h2
        clear hM
        go_enter Tryz.func128, Tryz.ntmps128
        go_wp2_with (go_at_call 178; refine hc.mono ?_; rintro e w' ⟨rfl, hw⟩; obtain rfl := hw.symm; clear hw)
        go_ret
        exact ⟨rfl, rfl⟩
    · rw [show decide (Idd m x) = false from by unfold Idd; simp [h1]]
      clear hM
      go_enter Tryz.func128, Tryz.ntmps128
      go_wp2_with (go_at_call 178; refine hc.mono ?_; rintro e w' ⟨rfl, hw⟩; obtain rfl := hw.symm; clear hw)
      go_ret
      exact ⟨rfl, rfl⟩
  · rw [decide_eq_false hM] at hc
    rw [show decide (Idd m x) = false from by unfold Idd; simp [hM]]
    clear hM
    go_enter Tryz.func128, Tryz.ntmps128
    go_wp2_with (go_at_call 178; refine hc.mono ?_; rintro e w' ⟨rfl, hw⟩; obtain rfl := hw.symm; clear hw)
    go_ret
    exact ⟨rfl, rfl⟩
theorem id_any (m x : Int) (w : World) (hm : I64 m) (hx : I64 x) :
    Calls Tryz.prog 151 #[.int .i64 m, .int .i64 x] w fun e w' => e = .returned (.bool (decide (1 ≤ x ∧ x ≤ m))) ∧ w' = w := by
  have hm1 := hm.1
  have hm2 := hm.2
  have hx1 := hx.1
  have hx2 := hx.2
  clear hm hx
  by_cases h1 : 1 ≤ x
  · by_cases h2 : x ≤ m
    · rw [show decide (1 ≤ x ∧ x ≤ m) = true from by simp [h1, h2]]
      go_enter Tryz.func151, Tryz.ntmps151
      go_wp2
      go_ret
      exact ⟨rfl, rfl⟩
    · rw [show decide (1 ≤ x ∧ x ≤ m) = false from by simp [h2]]
      go_enter Tryz.func151, Tryz.ntmps151
      go_wp2
      go_ret
      exact ⟨rfl, rfl⟩
  · rw [show decide (1 ≤ x ∧ x ≤ m) = false from by simp [h1]]
    go_enter Tryz.func151, Tryz.ntmps151
    go_wp2
    go_ret
    exact ⟨rfl, rfl⟩
theorem around_any (m n : Int) (w : World) (h : 16 ≤ m) (h' : m ≤ 1024) (hn : I64 n) :
    Calls Tryz.prog 129 #[.int .i64 m, .int .i64 n] w fun e w' => e = .returned (.int .i64 (n % m)) ∧ w' = w := by
  have hn1 := hn.1
  have hn2 := hn.2
  clear hn
  have hb := tmod_bd (n := n) h
  have hr := around_is (n := n) h
  have he := emod_bd (n := n) h
  obtain ⟨k, hk⟩ : ∃ k, n.tmod m = k := ⟨_, rfl⟩
  obtain ⟨r, hr'⟩ : ∃ r, n % m = r := ⟨_, rfl⟩
  rw [hk] at hb hr
  rw [hr'] at hr he
  rw [hr']
  clear hr'
  go_enter Tryz.func129, Tryz.ntmps129
  go_wp2
  go_ret
  exact ⟨rfl, rfl⟩
theorem I64.of {n : Int} (h0 : -9223372036854775808 ≤ n) (h1 : n < 9223372036854775808) : I64 n := ⟨h0, h1⟩
theorem add_any (m x n : Int) (w : World) (hm : I64 m) (hx : I64 x) (hn : I64 n) :
    Calls Tryz.prog 81 #[.int .i64 m, .int .i64 x, .int .i64 n] w fun e w' => e = .returned (.int .i64 (xadd m x n)) ∧ w' = w := by
  have hc := isID_any m x w hm hx
  by_cases hI : Idd m x
  · rw [decide_eq_true hI] at hc
    have h16 := hI.1.1
    have h1024 := hI.1.2.1
    have hx1 := hI.2.1
    have hx2 := hI.2.2
    have hb := tmod_bd (n := n) h16
    have ha := fun w => around_any m (x - 1 + n.tmod m) w h16 h1024 (I64.of (by omega) (by omega))
    rw [add_is h16] at ha
    have hq : xadd m x n = (x - 1 + n) % m + 1 := by unfold xadd; rw [if_pos hI]
    have hs := emod_bd (n := x - 1 + n) h16
    rw [hq]
    have hn1 := hn.1
    have hn2 := hn.2
    clear hI hm hx hn hq
    obtain ⟨r, hr⟩ : ∃ r, (x - 1 + n) % m = r := ⟨_, rfl⟩
    rw [hr] at ha hs
    rw [hr]
    clear hr
    obtain ⟨k, hk⟩ : ∃ k, n.tmod m = k := ⟨_, rfl⟩
    rw [hk] at ha hb
    go_enter Tryz.func81, Tryz.ntmps81
    go_wp2_with (first
      | (go_at_call 128; refine hc.mono ?_; rintro e w' ⟨rfl, hw⟩; obtain rfl := hw.symm; clear hw)
      | (go_at_call 129; refine (ha _).mono ?_; rintro e w' ⟨rfl, hw⟩; obtain rfl := hw.symm; clear hw))
    go_ret
    exact ⟨rfl, rfl⟩
  · rw [decide_eq_false hI] at hc
    have hq : xadd m x n = 0 := by unfold xadd; rw [if_neg hI]
    rw [hq]
    clear hI hq hm hx hn
    go_enter Tryz.func81, Tryz.ntmps81
    go_wp2_with (first
      | (go_at_call 128; refine hc.mono ?_; rintro e w' ⟨rfl, hw⟩; obtain rfl := hw.symm; clear hw))
    go_ret
    exact ⟨rfl, rfl⟩
theorem gap_any (m a b : Int) (w : World) (hm : I64 m) (ha : I64 a) (hb : I64 b) :
    Calls Tryz.prog 145 #[.int .i64 m, .int .i64 a, .int .i64 b] w fun e w' => e = .returned (.int .i64 (xgap m a b)) ∧ w' = w := by
  have hc := isID_any m a w hm ha
  have hd := isID_any m b w hm hb
  by_cases hI : Idd m a
  · rw [decide_eq_true hI] at hc
    by_cases hJ : Idd m b
    · rw [decide_eq_true hJ] at hd
      have h16 := hI.1.1
      have h1024 := hI.1.2.1
      have hx1 := hI.2.1
      have hx2 := hI.2.2
      have hy1 := hJ.2.1
      have hy2 := hJ.2.2
      have hr := fun w => around_any m (b - a) w h16 h1024 (I64.of (by omega) (by omega))
      have hq : xgap m a b = (b - a) % m := by unfold xgap; rw [if_pos ⟨hI, hJ⟩]
      rw [hq]
      clear hI hJ hq hm ha hb
      obtain ⟨k, hk⟩ : ∃ k, (b - a) % m = k := ⟨_, rfl⟩
      rw [hk] at hr
      rw [hk]
      clear hk
      go_enter Tryz.func145, Tryz.ntmps145
      go_wp2_with fail
      go_at_call 128
      refine (hc).mono ?_
      rintro e w' ⟨rfl, hw⟩; obtain rfl := hw.symm; clear hw
      go_wp2_with fail
      go_at_call 128
      refine (hd).mono ?_
      rintro e w' ⟨rfl, hw⟩; obtain rfl := hw.symm; clear hw
      go_wp2_with fail
      go_at_call 129
      refine (hr _).mono ?_
      rintro e w' ⟨rfl, hw⟩; obtain rfl := hw.symm; clear hw
      go_wp2_with fail
      go_ret
      exact ⟨rfl, rfl⟩
    · rw [decide_eq_false hJ] at hd
      have hq : xgap m a b = 0 := by unfold xgap; rw [if_neg (fun h => hJ h.2)]
      rw [hq]
      clear hI hJ hq hm ha hb
      go_enter Tryz.func145, Tryz.ntmps145
      go_wp2_with fail
      go_at_call 128
      refine (hc).mono ?_
      rintro e w' ⟨rfl, hw⟩; obtain rfl := hw.symm; clear hw
      go_wp2_with fail
      go_at_call 128
      refine (hd).mono ?_
      rintro e w' ⟨rfl, hw⟩; obtain rfl := hw.symm; clear hw
      go_wp2_with fail
      go_ret
      exact ⟨rfl, rfl⟩
  · rw [decide_eq_false hI] at hc
    have hq : xgap m a b = 0 := by unfold xgap; rw [if_neg (fun h => hI h.1)]
    rw [hq]
    clear hI hq hm ha hb hd
    go_enter Tryz.func145, Tryz.ntmps145
    go_wp2_with (first
      | (go_at_call 128; refine hc.mono ?_; rintro e w' ⟨rfl, hw⟩; obtain rfl := hw.symm; clear hw))
    go_ret
    exact ⟨rfl, rfl⟩
theorem xgap_id {m a b : Int} (h : 1 ≤ xgap m a b) : 16 ≤ m ∧ m ≤ 1024 := by
  unfold xgap at h
  split at h
  · rename_i k
    exact ⟨k.1.1.1, k.1.1.2.1⟩
  · omega
theorem before_any (m a b : Int) (w : World) (hm : I64 m) (ha : I64 a) (hb : I64 b) :
    Calls Tryz.prog 103 #[.int .i64 m, .int .i64 a, .int .i64 b] w fun e w' => e = .returned (.bool (xbef m a b)) ∧ w' = w := by
  have hc := gap_any m a b w hm ha hb
  have hbd := xgap_bd (m := m) (a := a) (b := b)
  have hid := xgap_id (m := m) (a := a) (b := b)
  obtain ⟨k, hk⟩ : ∃ k, xgap m a b = k := ⟨_, rfl⟩
  have hX : xbef m a b = decide (1 ≤ k ∧ k ≤ m / 2 - 1) := by unfold xbef; rw [hk]
  rw [hX]
  rw [hk] at hc hbd hid
  clear hX hk hm ha hb
  by_cases h1 : 1 ≤ k
  · obtain ⟨h16, h1024⟩ := hid h1
    clear hid
    by_cases h2 : k ≤ m / 2 - 1
    · rw [show decide (1 ≤ k ∧ k ≤ m / 2 - 1) = true from by simp [h1, h2]]
      go_enter Tryz.func103, Tryz.ntmps103
      go_wp2_with (first
        | (go_at_call 145; refine hc.mono ?_; rintro e w' ⟨rfl, hw⟩; obtain rfl := hw.symm; clear hw))
      go_ret
      exact ⟨rfl, rfl⟩
    · rw [show decide (1 ≤ k ∧ k ≤ m / 2 - 1) = false from by simp [h2]]
      have hd : decide (k ≤ m / 2 - 1) = false := decide_eq_false h2
      go_enter Tryz.func103, Tryz.ntmps103
      go_wp2_with (first
        | (go_at_call 145; refine hc.mono ?_; rintro e w' ⟨rfl, hw⟩; obtain rfl := hw.symm; clear hw))
      go_ret
      exact ⟨rfl, rfl⟩
  · rw [show decide (1 ≤ k ∧ k ≤ m / 2 - 1) = false from by simp [h1]]
    clear hid
    go_enter Tryz.func103, Tryz.ntmps103
    go_wp2_with (first
      | (go_at_call 145; refine hc.mono ?_; rintro e w' ⟨rfl, hw⟩; obtain rfl := hw.symm; clear hw))
    go_ret
    exact ⟨rfl, rfl⟩
/- The document's. -/
theorem xadd_any (m x n : Int) (w : World) (hm : I64 m) (hx : I64 x) (hn : I64 n) :
    Calls Tryz.prog 152 #[.int .i64 m, .int .i64 x, .int .i64 n] w fun e w' => e = .returned (.int .i64 (xadd m x n)) ∧ w' = w := by
  have hc := right_any m w hm
  have hd := id_any m x w hm hx
  by_cases hM : Md m
  · rw [decide_eq_true hM] at hc
    by_cases hI : 1 ≤ x ∧ x ≤ m
    · rw [decide_eq_true hI] at hd
      have h16 := hM.1
      have h1024 := hM.2.1
      have hx1 := hI.1
      have hx2 := hI.2
      have hq : xadd m x n = (x - 1 + n % m) % m + 1 := by unfold xadd; rw [if_pos ⟨hM, hI⟩, plus_mod]
      have ht := tmod_two (n := n) h16
      have he := emod_bd (n := n) h16
      have hr := emod_bd (n := x - 1 + n % m) h16
      rw [hq]
      have hn1 := hn.1
      have hn2 := hn.2
      clear hI hM hm hx hn hq
      obtain ⟨k, hk⟩ : ∃ k, n % m = k := ⟨_, rfl⟩
      rw [hk] at ht he hr
      rw [hk]
      clear hk
      obtain ⟨y, hy⟩ : ∃ y, x - 1 + k = y := ⟨_, rfl⟩
      have hty : y.tmod m = y % m := Int.tmod_eq_emod_of_nonneg (by omega)
      rw [hy] at hr
      rw [hy]
      obtain ⟨r, hr'⟩ : ∃ r, y % m = r := ⟨_, rfl⟩
      rw [hr'] at hr hty
      rw [hr']
      rcases ht with ht | ⟨ht, hp⟩
      · go_enter Tryz.func152, Tryz.ntmps152
        go_wp2_with (first
          | (go_at_call 150; refine hc.mono ?_; rintro e w' ⟨rfl, hw⟩; obtain rfl := hw.symm; clear hw)
          | (go_at_call 151; refine hd.mono ?_; rintro e w' ⟨rfl, hw⟩; obtain rfl := hw.symm; clear hw))
        go_ret
        exact ⟨rfl, rfl⟩
      · go_enter Tryz.func152, Tryz.ntmps152
        go_wp2_with (first
          | (go_at_call 150; refine hc.mono ?_; rintro e w' ⟨rfl, hw⟩; obtain rfl := hw.symm; clear hw)
          | (go_at_call 151; refine hd.mono ?_; rintro e w' ⟨rfl, hw⟩; obtain rfl := hw.symm; clear hw))
        go_ret
        exact ⟨rfl, rfl⟩
    · rw [decide_eq_false hI] at hd
      have hq : xadd m x n = 0 := by unfold xadd; rw [if_neg (fun h => hI h.2)]
      rw [hq]
      clear hI hM hq hm hx hn
      go_enter Tryz.func152, Tryz.ntmps152
      go_wp2_with (first
        | (go_at_call 150; refine hc.mono ?_; rintro e w' ⟨rfl, hw⟩; obtain rfl := hw.symm; clear hw)
        | (go_at_call 151; refine hd.mono ?_; rintro e w' ⟨rfl, hw⟩; obtain rfl := hw.symm; clear hw))
      go_ret
      exact ⟨rfl, rfl⟩
  · rw [decide_eq_false hM] at hc
    have hq : xadd m x n = 0 := by unfold xadd; rw [if_neg (fun h => hM h.1)]
    rw [hq]
    clear hM hq hm hx hn hd
    go_enter Tryz.func152, Tryz.ntmps152
    go_wp2_with (first
      | (go_at_call 150; refine hc.mono ?_; rintro e w' ⟨rfl, hw⟩; obtain rfl := hw.symm; clear hw))
    go_ret
    exact ⟨rfl, rfl⟩
/-- Texts that a slice at ao leads to, in block B. -/
structure Strs (w : World) (B : Nat) (ao : Option Addr) (l : List ByteArray) : Prop where
  at_ : 0 < l.length → ∃ o, ao = some ⟨B, o, none⟩ ∧ ∀ j (h : j < l.length), w.cell? ⟨B, o + j, none⟩ = some (.string l[j])
  lt : 0 < l.length → B < w.heap.size
  len : l.length ≤ 8796093022207
  size : ∀ s ∈ l, s.size ≤ 140737488355328
theorem Strs.nil (w : World) (B : Nat) (ao : Option Addr) : Strs w B ao [] := ⟨fun h => absurd h (by simp), fun h => absurd h (by simp), by simp, fun _ h => by cases h⟩
theorem Strs.kept {S : Nat → Prop} {w w' : World} {B : Nat} {ao : Option Addr} {l : List ByteArray} (h : Strs w B ao l) (ho : Only S w w') (hS : 0 < l.length → ¬ S B) : Strs w' B ao l :=
  ⟨fun h0 => by
    obtain ⟨o, e, hc⟩ := h.at_ h0
    exact ⟨o, e, fun j hj => (ho.cell (p := ⟨B, o + j, none⟩) (h.lt h0) (hS h0)).trans (hc j hj)⟩, fun h0 => Nat.lt_of_lt_of_le (h.lt h0) ho.size, h.len, h.size⟩
theorem Strs.more {w w' : World} {B : Nat} {ao : Option Addr} {l : List ByteArray} (h : Strs w B ao l) (ho : Only (fun _ => False) w w') : Strs w' B ao l := h.kept ho (fun _ h => h)
theorem w64_w64 (a b : Int) : wrap64 (wrap64 a + b) = wrap64 (a + b) := by unfold wrap64; omega
theorem w64_bd (a : Int) : -9223372036854775808 ≤ wrap64 a ∧ wrap64 a < 9223372036854775808 := by unfold wrap64; omega
theorem isz_le {l : List ByteArray} (h : ∀ s ∈ l, s.size ≤ 140737488355328) : isz l ≤ 140737488355330 * l.length := by
  induction l with
  | nil => simp [isz]
  | cons s l ih =>
    rw [isz_cons]
    have h1 := h s (by simp)
    have h2 := ih (fun t ht => h t (by simp [ht]))
    simp only [List.length_cons]
    omega
theorem onlyA (w : World) (o : Obj) : Only (fun _ => False) w (w.alloc o) := Only.alloc _ _ _
theorem o2 {a b c : World} (h : Only (fun _ => False) a b) (k : Only (fun _ => False) b c) : Only (fun _ => False) a c := h.trans k (fun _ _ h => h)
theorem ret_bool {a b : Bool} (h : a = b) : Ending.returned (.bool a) = .returned (.bool b) := by rw [h]
/-- A page in block b, cell by cell. -/
structure Pag (w : World) (b : Nat) (v0 v1 v2 v3 v4 v5 : Value) : Prop where
  c0 : w.cell? ⟨b, 0, none⟩ = some v0
  c1 : w.cell? ⟨b, 1, none⟩ = some v1
  c2 : w.cell? ⟨b, 2, none⟩ = some v2
  c3 : w.cell? ⟨b, 3, none⟩ = some v3
  c4 : w.cell? ⟨b, 4, none⟩ = some v4
  c5 : w.cell? ⟨b, 5, none⟩ = some v5
  f0 : w.frozen? ⟨b, 0, none⟩ = false
  f1 : w.frozen? ⟨b, 1, none⟩ = false
  f2 : w.frozen? ⟨b, 2, none⟩ = false
  f3 : w.frozen? ⟨b, 3, none⟩ = false
  f4 : w.frozen? ⟨b, 4, none⟩ = false
  f5 : w.frozen? ⟨b, 5, none⟩ = false
  lt : b < w.heap.size
theorem Pag.kept {S : Nat → Prop} {w w' : World} {b : Nat} {v0 v1 v2 v3 v4 v5 : Value} (h : Pag w b v0 v1 v2 v3 v4 v5) (ho : Only S w w') (hS : ¬ S b) : Pag w' b v0 v1 v2 v3 v4 v5 :=
  ⟨(ho.cell (p := ⟨b, 0, none⟩) h.lt hS).trans h.c0, (ho.cell (p := ⟨b, 1, none⟩) h.lt hS).trans h.c1, (ho.cell (p := ⟨b, 2, none⟩) h.lt hS).trans h.c2, (ho.cell (p := ⟨b, 3, none⟩) h.lt hS).trans h.c3, (ho.cell (p := ⟨b, 4, none⟩) h.lt hS).trans h.c4, (ho.cell (p := ⟨b, 5, none⟩) h.lt hS).trans h.c5,
   (ho.frozen (p := ⟨b, 0, none⟩) h.lt hS).trans h.f0, (ho.frozen (p := ⟨b, 1, none⟩) h.lt hS).trans h.f1, (ho.frozen (p := ⟨b, 2, none⟩) h.lt hS).trans h.f2, (ho.frozen (p := ⟨b, 3, none⟩) h.lt hS).trans h.f3, (ho.frozen (p := ⟨b, 4, none⟩) h.lt hS).trans h.f4, (ho.frozen (p := ⟨b, 5, none⟩) h.lt hS).trans h.f5, Nat.lt_of_lt_of_le h.lt ho.size⟩
theorem Pag.more {w w' : World} {b : Nat} {v0 v1 v2 v3 v4 v5 : Value} (h : Pag w b v0 v1 v2 v3 v4 v5) (ho : Only (fun _ => False) w w') : Pag w' b v0 v1 v2 v3 v4 v5 := h.kept ho (fun h => h)
theorem Pag.new (w : World) (v0 v1 v2 v3 v4 v5 : Value) : Pag (w.alloc (.cells #[v0, v1, v2, v3, v4, v5] 30)) w.heap.size v0 v1 v2 v3 v4 v5 :=
  ⟨by simp, by simp, by simp, by simp, by simp, by simp, by simp, by simp, by simp, by simp, by simp, by simp, by simp⟩
theorem Only.six (w : World) (b : Nat) (v0 v1 v2 v3 v4 v5 : Value) : Only (fun k => k = b) w ((((((w.setCell ⟨b, 0, none⟩ v0).setCell ⟨b, 1, none⟩ v1).setCell ⟨b, 2, none⟩ v2).setCell ⟨b, 3, none⟩ v3).setCell ⟨b, 4, none⟩ v4).setCell ⟨b, 5, none⟩ v5) := by
  have st : ∀ (W : World) (i : Nat) (v : Value), Only (fun k => k = b) W (W.setCell ⟨b, i, none⟩ v) := fun W i v => Only.setCell W ⟨b, i, none⟩ v rfl
  exact (((((st _ 0 _).trans (st _ 1 _) (fun _ _ h => h)).trans (st _ 2 _) (fun _ _ h => h)).trans (st _ 3 _) (fun _ _ h => h)).trans (st _ 4 _) (fun _ _ h => h)).trans (st _ 5 _) (fun _ _ h => h)
theorem Pag.six {w : World} {b : Nat} {u0 u1 u2 u3 u4 u5 : Value} (h : Pag w b u0 u1 u2 u3 u4 u5) (v0 v1 v2 v3 v4 v5 : Value) : Pag ((((((w.setCell ⟨b, 0, none⟩ v0).setCell ⟨b, 1, none⟩ v1).setCell ⟨b, 2, none⟩ v2).setCell ⟨b, 3, none⟩ v3).setCell ⟨b, 4, none⟩ v4).setCell ⟨b, 5, none⟩ v5) b v0 v1 v2 v3 v4 v5 := by
  have oth : ∀ (W : World) (i j : Nat) (v x : Value), i ≠ j → W.cell? ⟨b, j, none⟩ = some x → (W.setCell ⟨b, i, none⟩ v).cell? ⟨b, j, none⟩ = some x := fun W i j v x hij hx => (World.cell?_setCell_other _ _ _ _ (by intro e; injection e with _ e2; exact hij e2)).trans hx
  have same : ∀ (W : World) (i : Nat) (v x : Value), W.cell? ⟨b, i, none⟩ = some x → (W.setCell ⟨b, i, none⟩ v).cell? ⟨b, i, none⟩ = some v := fun W i v x hx => World.cell?_setCell_same _ _ _ hx
  have a1 := oth _ 0 1 v0 _ (by omega) h.c1
  have a2 := oth _ 1 2 v1 _ (by omega) (oth _ 0 2 v0 _ (by omega) h.c2)
  have a3 := oth _ 2 3 v2 _ (by omega) (oth _ 1 3 v1 _ (by omega) (oth _ 0 3 v0 _ (by omega) h.c3))
  have a4 := oth _ 3 4 v3 _ (by omega) (oth _ 2 4 v2 _ (by omega) (oth _ 1 4 v1 _ (by omega) (oth _ 0 4 v0 _ (by omega) h.c4)))
  have a5 := oth _ 4 5 v4 _ (by omega) (oth _ 3 5 v3 _ (by omega) (oth _ 2 5 v2 _ (by omega) (oth _ 1 5 v1 _ (by omega) (oth _ 0 5 v0 _ (by omega) h.c5))))
  have b0 := same _ 0 v0 _ h.c0
  have b1 := same _ 1 v1 _ a1
  have b2 := same _ 2 v2 _ a2
  have b3 := same _ 3 v3 _ a3
  have b4 := same _ 4 v4 _ a4
  have b5 := same _ 5 v5 _ a5
  refine ⟨oth _ 5 0 _ _ (by omega) (oth _ 4 0 _ _ (by omega) (oth _ 3 0 _ _ (by omega) (oth _ 2 0 _ _ (by omega) (oth _ 1 0 _ _ (by omega) b0)))), oth _ 5 1 _ _ (by omega) (oth _ 4 1 _ _ (by omega) (oth _ 3 1 _ _ (by omega) (oth _ 2 1 _ _ (by omega) b1))),
    oth _ 5 2 _ _ (by omega) (oth _ 4 2 _ _ (by omega) (oth _ 3 2 _ _ (by omega) b2)), oth _ 5 3 _ _ (by omega) (oth _ 4 3 _ _ (by omega) b3), oth _ 5 4 _ _ (by omega) b4, b5, ?_, ?_, ?_, ?_, ?_, ?_, ?_⟩
  · simpa using h.f0
  · simpa using h.f1
  · simpa using h.f2
  · simpa using h.f3
  · simpa using h.f4
  · simpa using h.f5
  · simpa using h.lt
theorem Tryz.cellsPage : Tryz.prog.cellsOf 30 = 6 := by kernel_rfl
theorem load_page {w : World} {b : Nat} {v0 v1 v2 v3 v4 v5 : Value} (h : Pag w b v0 v1 v2 v3 v4 v5) : (loadVar 30 ⟨b, 0, none⟩).run Tryz.prog w = .ok (.agg #[v0, v1, v2, v3, v4, v5]) w := by
  have c0 := h.c0
  have c1 := h.c1
  have c2 := h.c2
  have c3 := h.c3
  have c4 := h.c4
  have c5 := h.c5
  simp [loadVar, go_sem, c0, c1, c2, c3, c4, c5]
theorem results_page {fn : Func} {p u : Tmp} (h : fn.results = #[.cell p 30, .tmp u]) {tmps : Array Value} {w : World} {b : Nat} {v0 v1 v2 v3 v4 v5 : Value} (hp : tmps.getD p undef = .pointer (some ⟨b, 0, none⟩)) (hP : Pag w b v0 v1 v2 v3 v4 v5) :
    (results fn tmps).run Tryz.prog w = .ok (.tuple #[.agg #[v0, v1, v2, v3, v4, v5], tmps.getD u undef]) w := by
  have e : (asAddr (.pointer (some ⟨b, 0, none⟩))).run Tryz.prog w = .ok ⟨b, 0, none⟩ w := rfl
  rw [results_cell_tmp h, hp, e]
  simp only [Result.andThen, load_page hP]
set_option maxRecDepth 100000 in
set_option maxHeartbeats 800000 in
theorem psize_any (w : World) (a k v r : Int) (h : ByteArray) (B cp : Nat) (ao : Option Addr) (l : List ByteArray) (hS : Strs w B ao l) (hh : h.size ≤ 140737488355328) :
    Calls Tryz.prog 181 #[.agg #[.int .i64 a, .int .i64 k, .int .i64 v, .int .i64 r, .string h, .slice ao l.length cp]] w fun e w' => e = .returned (.int .i64 (wrap64 (20 + h.size + isz l))) ∧ Only (fun _ => False) w w' := by
  have hlen := hS.len
  have HS := hide hS
  clear hS
  go_enter Tryz.func181, Tryz.ntmps181
  go_wp2_with fail
  have HO := hide (onlyA w (.cells #[.int .i64 a, .int .i64 k, .int .i64 v, .int .i64 r, .string h, .slice ao l.length cp] 30))
  go_loop [3, 13] (fun x y => ∃ (j : Nat) (q : Int), j ≤ l.length ∧ y = .int .i64 (j : Int) ∧ x = .int .i64 q ∧ -9223372036854775808 ≤ q ∧ q < 9223372036854775808 ∧ Hid (q = wrap64 (20 + h.size + isz (l.take j)))) (fun _ y => l.length - (intOf y).toNat)
  case atStart => exact ⟨0, 20 + h.size, by omega, rfl, rfl, by omega, by omega, by unfold Hid wrap64; simp [isz]; omega⟩
  case round =>
    obtain ⟨j, q, hj, rfl, rfl, q0, q1, HQ⟩ := hrel
    by_cases hlt : j < l.length
    · obtain ⟨o1, e1, c1⟩ := (HS.out.more HO.out).at_ (by omega)
      have k1 := c1 j hlt
      have hz := HS.out.size l[j] (List.getElem_mem hlt)
      have HT : Hid (wrap64 (20 + h.size + isz (l.take (j + 1))) = wrap64 (q + (2 + (l[j].size : Int)))) := by
        unfold Hid
        rw [HQ.out, w64_w64, isz_snoc l j hlt]
        congr 1
        omega
      have hj1 : (j : Int) < (l.length : Int) := by omega
      obtain ⟨s, hs⟩ : ∃ s, l[j] = s := ⟨_, rfl⟩
      rw [hs] at k1 hz HT
      clear c1 hs
      subst e1
      go_wp2_with fail
      go_round
      case rel => exact ⟨j + 1, _, by omega, by go_num, rfl, (w64_bd _).1, (w64_bd _).2, HT.out.symm⟩
      case measure => simp [intOf]; omega
    · have e : l.take j = l := List.take_of_length_le (by omega)
      rw [e] at HQ
      go_wp2_with fail
      go_ret
      exact ⟨ret_int HQ.out, HO.out⟩
/-- The number of bytes of a page whose items are few. -/
theorem w64_few {h : ByteArray} {l : List ByteArray} (hs : ∀ s ∈ l, s.size ≤ 140737488355328) (hh : h.size ≤ 140737488355328) (hl : l.length ≤ 255) : wrap64 (20 + h.size + isz l) = 20 + h.size + isz l := by
  have := isz_le hs
  unfold wrap64
  omega
set_option maxRecDepth 100000 in
set_option maxHeartbeats 800000 in
theorem tooLong_any (w : World) (a k v r : Int) (h : ByteArray) (B cp : Nat) (ao : Option Addr) (l : List ByteArray) (hS : Strs w B ao l) (hh : h.size ≤ 140737488355328) :
    Calls Tryz.prog 139 #[.agg #[.int .i64 a, .int .i64 k, .int .i64 v, .int .i64 r, .string h, .slice ao l.length cp]] w fun e w' => e = .returned (.bool (decide (255 < l.length ∨ 512 < 20 + h.size + isz l))) ∧ Only (fun _ => False) w w' := by
  have hlen := hS.len
  have HS := hide hS
  clear hS
  have HO := hide (onlyA w (.cells #[.int .i64 a, .int .i64 k, .int .i64 v, .int .i64 r, .string h, .slice ao l.length cp] 30))
  by_cases hn : 255 < l.length
  · have HR : Hid (decide (255 < l.length ∨ 512 < 20 + h.size + isz l) = true) := decide_eq_true (.inl hn)
    rw [HR.out]
    go_enter Tryz.func139, Tryz.ntmps139
    go_wp2_with fail
    go_ret
    exact ⟨rfl, HO.out⟩
  · have HZ := hide (w64_few HS.out.size hh (by omega))
    have hbb := isz_le HS.out.size
    obtain ⟨z, hz⟩ : ∃ z : Nat, 20 + h.size + isz l = z := ⟨_, rfl⟩
    have hz2 : (20 + h.size + isz l : Int) = z := by omega
    rw [hz2] at HZ
    rw [hz]
    by_cases hc : 512 < z
    · have HR : Hid (decide (255 < l.length ∨ 512 < z) = true) := decide_eq_true (.inr hc)
      rw [HR.out]
      go_enter Tryz.func139, Tryz.ntmps139
      go_wp2_with fail
      refine (psize_any _ a k v r h B cp ao l (HS.out.more HO.out) hh).mono ?_
      rw [hz2, HZ.out]
      rintro e w1 ⟨rfl, ho1⟩
      have HO1 := hide (o2 HO.out ho1)
      clear ho1
      go_wp2_with fail
      go_ret
      exact ⟨ret_bool (by simp; omega), HO1.out⟩
    · have HR : Hid (decide (255 < l.length ∨ 512 < z) = false) := decide_eq_false (by omega)
      rw [HR.out]
      go_enter Tryz.func139, Tryz.ntmps139
      go_wp2_with fail
      refine (psize_any _ a k v r h B cp ao l (HS.out.more HO.out) hh).mono ?_
      rw [hz2, HZ.out]
      rintro e w1 ⟨rfl, ho1⟩
      have HO1 := hide (o2 HO.out ho1)
      clear ho1
      go_wp2_with fail
      go_ret
      exact ⟨ret_bool (by simp; omega), HO1.out⟩
set_option maxRecDepth 100000 in
set_option maxHeartbeats 800000 in
theorem fitting_any (w : World) (a k v r : Int) (h : ByteArray) (B cp : Nat) (ao : Option Addr) (l : List ByteArray) (hS : Strs w B ao l) (hh : h.size ≤ 140737488355328) :
    Calls Tryz.prog 94 #[.agg #[.int .i64 a, .int .i64 k, .int .i64 v, .int .i64 r, .string h, .slice ao l.length cp]] w fun e w' =>
      e = .returned (if 255 < l.length ∨ 512 < 20 + h.size + isz l then .tuple #[.agg #[.int .i64 0, .int .i64 0, .int .i64 0, .int .i64 0, .string ⟨#[]⟩, .slice none 0 0], .int .i64 3] else .tuple #[.agg #[.int .i64 a, .int .i64 k, .int .i64 v, .int .i64 r, .string h, .slice ao l.length cp], .int .i64 0]) ∧ Only (fun _ => False) w w' := by
  have hlen := hS.len
  have HS := hide hS
  clear hS
  have HP := hide ((Pag.new w (.int .i64 a) (.int .i64 k) (.int .i64 v) (.int .i64 r) (.string h) (.slice ao l.length cp)).more (onlyA _ (.cells #[.int .i64 0, .int .i64 0, .int .i64 0, .int .i64 0, .string ⟨#[]⟩, .slice none 0 0] 30)))
  have HQ := hide (Pag.new (w.alloc (.cells #[.int .i64 a, .int .i64 k, .int .i64 v, .int .i64 r, .string h, .slice ao l.length cp] 30)) (.int .i64 0) (.int .i64 0) (.int .i64 0) (.int .i64 0) (.string ⟨#[]⟩) (.slice none 0 0))
  have HO := hide (o2 (onlyA w (.cells #[.int .i64 a, .int .i64 k, .int .i64 v, .int .i64 r, .string h, .slice ao l.length cp] 30)) (onlyA _ (.cells #[.int .i64 0, .int .i64 0, .int .i64 0, .int .i64 0, .string ⟨#[]⟩, .slice none 0 0] 30)))
  go_enter Tryz.func94, Tryz.ntmps94
  go_wp2_with fail
  refine (tooLong_any _ a k v r h B cp ao l (HS.out.more HO.out) hh).mono ?_
  rintro e w1 ⟨rfl, ho1⟩
  have HO1 := hide (o2 HO.out ho1)
  obtain ⟨p0, p1, p2, p3, p4, p5, g0, g1, g2, g3, g4, g5, gl⟩ := HP.out.more ho1
  obtain ⟨q0, q1, q2, q3, q4, q5, t0, t1, t2, t3, t4, t5, tl⟩ := HQ.out.more ho1
  have hsz : (w.alloc (.cells #[.int .i64 a, .int .i64 k, .int .i64 v, .int .i64 r, .string h, .slice ao l.length cp] 30)).heap.size = w.heap.size + 1 := by simp
  rw [hsz] at q0 q1 q2 q3 q4 q5 t0 t1 t2 t3 t4 t5 tl
  clear ho1 hsz
  by_cases hc : 255 < l.length ∨ 512 < 20 + h.size + isz l
  · have HR := hide (decide_eq_true hc)
    rw [HR.out]
    go_wp2_with fail
    refine bodyPost_ret (results_page rfl rfl (Pag.six ⟨q0, q1, q2, q3, q4, q5, t0, t1, t2, t3, t4, t5, tl⟩ _ _ _ _ _ _)) rfl ?_
    exact ⟨rfl, HO1.out.trans (Only.six w1 (w.heap.size + 1) _ _ _ _ _ _) (fun i hi e => by omega)⟩
  · have HR := hide (decide_eq_false hc)
    rw [HR.out]
    go_wp2_with fail
    refine bodyPost_ret (results_page rfl rfl (Pag.six ⟨q0, q1, q2, q3, q4, q5, t0, t1, t2, t3, t4, t5, tl⟩ _ _ _ _ _ _)) rfl ?_
    exact ⟨rfl, HO1.out.trans (Only.six w1 (w.heap.size + 1) _ _ _ _ _ _) (fun i hi e => by omega)⟩
theorem getD_of {l : List ByteArray} {j : Nat} (h : j < l.length) : l.getD j ByteArray.empty = l[j] := by simp [List.getD_eq_getElem?_getD, h]
set_option maxRecDepth 100000 in
set_option maxHeartbeats 800000 in
theorem hasItem_any (w : World) (a k v r i : Int) (h : ByteArray) (cp n : Nat) (ao : Option Addr) :
    Calls Tryz.prog 93 #[.agg #[.int .i64 a, .int .i64 k, .int .i64 v, .int .i64 r, .string h, .slice ao n cp], .int .i64 i] w fun e w' => e = .returned (.bool (decide (0 ≤ i ∧ i < n))) ∧ Only (fun _ => False) w w' := by
  have HO := hide (onlyA w (.cells #[.int .i64 a, .int .i64 k, .int .i64 v, .int .i64 r, .string h, .slice ao n cp] 30))
  go_enter Tryz.func93, Tryz.ntmps93
  go_wp2_with fail
  all_goals go_ret
  all_goals exact ⟨ret_bool (by rw [Bool.eq_iff_iff]; first | (simp; done) | (simp; omega)), HO.out⟩
theorem add_at (b o n : Nat) : (⟨b, o, none⟩ : Addr).add n = ⟨b, o + n, none⟩ := by
  unfold Addr.add
  split
  · rename_i h; rw [h]; rfl
  · rfl
def scells (l : List ByteArray) : List Value := l.map Value.string
/-- Texts that the value v owns, in a block from base on. -/
def Ls (w : World) (base : Nat) (v : Value) (l : List ByteArray) : Prop := w.ownsRow base 9 1 v l.length (scells l)
/-- A slice that is what Go lets it be. -/
structure Fit (ao : Option Addr) (n cp : Nat) : Prop where
  nil : ao = none → cp = 0
  le : n ≤ cp
  big : cp ≤ maxLen
theorem Ls.nil (w : World) (base : Nat) : Ls w base (.slice none 0 0) [] := World.ownsRow_nil _ _ _ _
theorem Ls.kept {S : Nat → Prop} {w w' : World} {base : Nat} {v : Value} {l : List ByteArray} (h : Ls w base v l) (ho : Only S w w') (hS : ∀ k, v.ownBlock = some k → ¬ S k) : Ls w' base v l := by
  obtain ⟨h1, h2⟩ := h
  refine ⟨h1, ?_⟩
  rcases h2 with h2 | ⟨g, cap, cur, hv, hg, hh, r⟩
  · exact .inl h2
  · subst hv
    exact .inr ⟨g, cap, cur, rfl, hg, by rw [ho.block g (Array.getElem?_eq_some_iff.1 hh).1 (hS g rfl)]; exact hh, r⟩
theorem Ls.strs {w : World} {base : Nat} {v : Value} {l : List ByteArray} (h : Ls w base v l) (hl : l.length ≤ 8796093022207) (hs : ∀ s ∈ l, s.size ≤ 140737488355328) :
    ∃ B ao cp, v = .slice ao l.length cp ∧ Strs w B ao l ∧ Fit ao l.length cp ∧ (0 < l.length → base ≤ B) ∧ (ao = none ∨ ao = some ⟨B, 0, none⟩) := by
  rcases h.2 with ⟨rfl, h0⟩ | ⟨g, cap, cur, rfl, hb, hg, hn, hm, _⟩
  · have e : l = [] := List.eq_nil_of_length_eq_zero h0
    subst e
    exact ⟨0, none, 0, rfl, Strs.nil _ _ _, ⟨fun _ => rfl, by simp, by simp⟩, fun h => absurd h (by simp), .inl rfl⟩
  · refine ⟨g, some ⟨g, 0, none⟩, cap, rfl, ⟨fun _ => ⟨0, rfl, fun j hj => ?_⟩, fun _ => (Array.getElem?_eq_some_iff.1 hg).1, hl, hs⟩, ⟨(fun h => by cases h), hn, hm⟩, fun _ => hb, .inr rfl⟩
    rw [Nat.zero_add, World.ownsRow.cellAt h j (by omega)]
    simp [scells, hj]
theorem Strs.none_nil {w : World} {B : Nat} {l : List ByteArray} (h : Strs w B none l) : l = [] := by
  cases l with
  | nil => rfl
  | cons s t =>
    obtain ⟨o, e, _⟩ := h.at_ (by simp)
    cases e
/-- A list's copy. -/
theorem clone_any (w : World) (B cp : Nat) (ao : Option Addr) (l : List ByteArray) (h : Strs w B ao l) :
    Calls Tryz.prog 69 #[.slice ao l.length cp] w fun e w' => ∃ v, e = .returned v ∧ Ls w' w.heap.size v l ∧ Only (fun _ => False) w w' := by
  have only : ∀ w', Below w.heap.size w w' → Only (fun _ => False) w w' := fun w' hb => ⟨hb.os, hb.tape, hb.output, hb.size, fun k hk _ => hb.block k hk⟩
  cases ao with
  | none =>
    have e := h.none_nil
    subst e
    refine (Tryz.slices_Clone_string_nil _ cp w).mono ?_
    rintro e w' ⟨rfl, rfl⟩
    exact ⟨_, rfl, Ls.nil _ _, Only.refl _ _⟩
  | some ad =>
    by_cases h0 : l.length = 0
    · have e : l = [] := List.eq_nil_of_length_eq_zero h0
      subst e
      refine (Tryz.slices_Clone_string_zero ad cp w).mono ?_
      rintro e w' ⟨v, rfl, ho, _, hb⟩
      exact ⟨v, rfl, ho, only _ hb⟩
    · obtain ⟨o, e, hc⟩ := h.at_ (by omega)
      cases e
      have hl := h.len
      refine (Tryz.slices_Clone_string B o l.length cp l w (Nat.le_refl _) (by omega) (fun j hj => by rw [hc j hj, getD_of hj])).mono ?_
      rintro e w' ⟨v, rfl, ho, _, hb⟩
      rw [List.take_of_length_le (Nat.le_refl _)] at ho
      exact ⟨v, rfl, ho, only _ hb⟩
/-- A page and a code that a call returned, in memory of its own. -/
def Res (w w' : World) (e : Ending) (p : Pg) (c : Int) : Prop := ∃ B ao cp, e = .returned (.tuple #[.agg #[.int .i64 p.lsn, .int .i64 p.kind, .int .i64 p.level, .int .i64 p.right, .string p.high, .slice ao p.items.length cp], .int .i64 c]) ∧
  Strs w' B ao p.items ∧ Fit ao p.items.length cp ∧ Only (fun _ => False) w w' ∧ (0 < p.items.length → w.heap.size ≤ B)
theorem Res.none {w w' : World} (c : Int) (ho : Only (fun _ => False) w w') : Res w w' (.returned (.tuple #[.agg #[.int .i64 0, .int .i64 0, .int .i64 0, .int .i64 0, .string ⟨#[]⟩, .slice none 0 0], .int .i64 c])) .none c :=
  ⟨0, Option.none, 0, rfl, Strs.nil _ _ _, ⟨fun _ => rfl, by simp [Pg.none], by simp⟩, ho, fun h => absurd h (by simp [Pg.none])⟩
/-- Refused as too long, or the page. -/
def Or3 (w w' : World) (e : Ending) (c : Prop) (p : Pg) : Prop := (c → Res w w' e .none 3) ∧ (¬ c → Res w w' e p 0)
theorem Or3.yes {w w' : World} {e : Ending} {c : Prop} {p : Pg} (hc : c) (h : Res w w' e .none 3) : Or3 w w' e c p := ⟨fun _ => h, fun n => absurd hc n⟩
theorem Or3.no {w w' : World} {e : Ending} {c : Prop} {p : Pg} (hc : ¬ c) (h : Res w w' e p 0) : Or3 w w' e c p := ⟨fun n => absurd n hc, fun _ => h⟩
theorem Pag.set5 {w : World} {b : Nat} {v0 v1 v2 v3 v4 v5 : Value} (h : Pag w b v0 v1 v2 v3 v4 v5) (x : Value) : Pag (w.setCell ⟨b, 5, none⟩ x) b v0 v1 v2 v3 v4 x := by
  have oth : ∀ (j : Nat) (y : Value), 5 ≠ j → w.cell? ⟨b, j, none⟩ = some y → (w.setCell ⟨b, 5, none⟩ x).cell? ⟨b, j, none⟩ = some y := fun j y hij hx => (World.cell?_setCell_other _ _ _ _ (by intro e; injection e with _ e2; exact hij e2)).trans hx
  exact ⟨oth 0 _ (by omega) h.c0, oth 1 _ (by omega) h.c1, oth 2 _ (by omega) h.c2, oth 3 _ (by omega) h.c3, oth 4 _ (by omega) h.c4, World.cell?_setCell_same _ _ _ h.c5, by simpa using h.f0, by simpa using h.f1, by simpa using h.f2, by simpa using h.f3, by simpa using h.f4, by simpa using h.f5, by simpa using h.lt⟩
/-- The two boxes that With, Put and Out lay: the page, and the answer. -/
def boxes (w : World) (a k v r : Int) (h : ByteArray) (sl : Value) : World := (w.alloc (.cells #[.int .i64 a, .int .i64 k, .int .i64 v, .int .i64 r, .string h, sl] 30)).alloc (.cells #[.int .i64 0, .int .i64 0, .int .i64 0, .int .i64 0, .string ⟨#[]⟩, .slice none 0 0] 30)
theorem boxes_only (w : World) (a k v r : Int) (h : ByteArray) (sl : Value) : Only (fun _ => False) w (boxes w a k v r h sl) := o2 (onlyA _ _) (onlyA _ _)
theorem boxes_size (w : World) (a k v r : Int) (h : ByteArray) (sl : Value) : (boxes w a k v r h sl).heap.size = w.heap.size + 1 + 1 := by simp [boxes]
theorem boxes_one (w : World) (a k v r : Int) (h : ByteArray) (sl : Value) : Pag (boxes w a k v r h sl) w.heap.size (.int .i64 a) (.int .i64 k) (.int .i64 v) (.int .i64 r) (.string h) sl := (Pag.new w _ _ _ _ _ _).more (onlyA _ _)
theorem boxes_two (w : World) (a k v r : Int) (h : ByteArray) (sl : Value) : Pag (boxes w a k v r h sl) (w.heap.size + 1) (.int .i64 0) (.int .i64 0) (.int .i64 0) (.int .i64 0) (.string ⟨#[]⟩) (.slice none 0 0) := by
  have h1 := Pag.new (w.alloc (.cells #[.int .i64 a, .int .i64 k, .int .i64 v, .int .i64 r, .string h, sl] 30)) (.int .i64 0) (.int .i64 0) (.int .i64 0) (.int .i64 0) (.string ⟨#[]⟩) (.slice none 0 0)
  have e : (w.alloc (.cells #[.int .i64 a, .int .i64 k, .int .i64 v, .int .i64 r, .string h, sl] 30)).heap.size = w.heap.size + 1 := by simp
  rw [e] at h1
  exact h1
/-- Behind the laying of a new list: the two boxes, and the list nl, new. -/
structure Aft (w w5 : World) (a k v r : Int) (h : ByteArray) (sl : Value) (B5 : Nat) (ao5 : Option Addr) (cp5 : Nat) (nl : List ByteArray) : Prop where
  one : Pag w5 w.heap.size (.int .i64 a) (.int .i64 k) (.int .i64 v) (.int .i64 r) (.string h) sl
  two : Pag w5 (w.heap.size + 1) (.int .i64 0) (.int .i64 0) (.int .i64 0) (.int .i64 0) (.string ⟨#[]⟩) (.slice none 0 0)
  strs : Strs w5 B5 ao5 nl
  fit : Fit ao5 nl.length cp5
  only : Only (fun _ => False) w w5
  new : 0 < nl.length → w.heap.size + 1 < B5
theorem Aft.store {w w5 : World} {a k v r : Int} {h : ByteArray} {sl : Value} {B5 : Nat} {ao5 : Option Addr} {cp5 : Nat} {nl : List ByteArray} (H : Aft w w5 a k v r h sl B5 ao5 cp5 nl) (x : Value) : Aft w (w5.setCell ⟨w.heap.size, 5, none⟩ x) a k v r h x B5 ao5 cp5 nl := by
  have ho : Only (fun k => k = w.heap.size) w5 (w5.setCell ⟨w.heap.size, 5, none⟩ x) := Only.setCell w5 ⟨w.heap.size, 5, none⟩ x rfl
  exact ⟨H.one.set5 x, H.two.kept ho (by omega), H.strs.kept ho (fun h => by have := H.new h; omega), H.fit, H.only.trans ho (fun i hi e => by omega), H.new⟩
theorem Aft.more {w w5 w6 : World} {a k v r : Int} {h : ByteArray} {sl : Value} {B5 : Nat} {ao5 : Option Addr} {cp5 : Nat} {nl : List ByteArray} (H : Aft w w5 a k v r h sl B5 ao5 cp5 nl) (ho : Only (fun _ => False) w5 w6) : Aft w w6 a k v r h sl B5 ao5 cp5 nl :=
  ⟨H.one.more ho, H.two.more ho, H.strs.more ho, H.fit, o2 H.only ho, H.new⟩
theorem Aft.setItem {w w5 : World} {a k v r : Int} {h : ByteArray} {sl : Value} {g cap base : Nat} {l : List ByteArray} (H : Aft w w5 a k v r h sl g (some ⟨g, 0, none⟩) cap l) (hL : Ls w5 base (.slice (some ⟨g, 0, none⟩) l.length cap) l) (i : Nat) (it : ByteArray) (hit : it.size ≤ 140737488355328) (h0 : 0 < l.length) :
    Aft w (w5.setCell ⟨g, i, none⟩ (.string it)) a k v r h sl g (some ⟨g, 0, none⟩) cap (l.set i it) := by
  have hs := (World.ownsRow.stored hL i (.string it)).1
  have e : (scells l).set i (.string it) = scells (l.set i it) := by unfold scells; rw [List.map_set]
  rw [e] at hs
  have hL2 : Ls (w5.setCell ⟨g, i, none⟩ (.string it)) base (.slice (some ⟨g, 0, none⟩) l.length cap) (l.set i it) := by unfold Ls; rw [List.length_set]; exact hs
  obtain ⟨B5, ao5, cp5, hv, hS5, hF5, hB5, hO5⟩ := hL2.strs (by rw [List.length_set]; exact H.strs.len) (fun s hs => by
    rcases List.mem_or_eq_of_mem_set hs with hs | rfl
    · exact H.strs.size s hs
    · exact hit)
  rcases hO5 with rfl | rfl
  · cases hv
  · simp at hv
    obtain ⟨rfl, rfl⟩ := hv
    have ho : Only (fun k => k = g) w5 (w5.setCell ⟨g, i, none⟩ (.string it)) := Only.setCell w5 ⟨g, i, none⟩ _ rfl
    have hn := H.new h0
    exact ⟨H.one.kept ho (by omega), H.two.kept ho (by omega), hS5, hF5, H.only.trans ho (fun i hi e => by omega), fun _ => hn⟩
/-- The answer is laid. -/
theorem Aft.res {w w5 : World} {a k v r : Int} {h : ByteArray} {sl : Value} {B5 : Nat} {ao5 : Option Addr} {cp5 : Nat} {nl : List ByteArray} (H : Aft w w5 a k v r h sl B5 ao5 cp5 nl) (v0 v1 v2 v3 v4 v5 : Value) (c : Int) (w6 : World)
    (hw : w6 = ((((((w5.setCell ⟨w.heap.size + 1, 0, none⟩ v0).setCell ⟨w.heap.size + 1, 1, none⟩ v1).setCell ⟨w.heap.size + 1, 2, none⟩ v2).setCell ⟨w.heap.size + 1, 3, none⟩ v3).setCell ⟨w.heap.size + 1, 4, none⟩ v4).setCell ⟨w.heap.size + 1, 5, none⟩ v5)) :
    Res w w6 (.returned (.tuple #[.agg #[.int .i64 a, .int .i64 k, .int .i64 v, .int .i64 r, .string h, .slice ao5 nl.length cp5], .int .i64 c])) ⟨a, k, v, r, h, nl⟩ c ∧ Only (fun _ => False) w w6 := by
  have ho := Only.six w5 (w.heap.size + 1) v0 v1 v2 v3 v4 v5
  rw [← hw] at ho
  have ho2 : Only (fun _ => False) w w6 := H.only.trans ho (fun i hi e => by omega)
  exact ⟨⟨B5, ao5, cp5, rfl, H.strs.kept ho (fun h => by have := H.new h; omega), H.fit, ho2, fun h => by have := H.new h; omega⟩, ho2⟩
theorem only_below {w w' : World} (hb : Below w.heap.size w w') : Only (fun _ => False) w w' := ⟨hb.os, hb.tape, hb.output, hb.size, fun k hk _ => hb.block k hk⟩
theorem rep_zero (c : Nat) : Lib.repeatL (⟨#[0]⟩ : ByteArray).data.toList c = List.replicate c 0 := by
  induction c with
  | zero => rfl
  | succ c ih => rw [Lib.repeatL, ih, List.replicate_succ]; rfl
set_option maxHeartbeats 400000 in
theorem xgap_any (m a b : Int) (w : World) (hm : I64 m) (ha : I64 a) (hb : I64 b) :
    Calls Tryz.prog 112 #[.int .i64 m, .int .i64 a, .int .i64 b] w fun e w' => e = .returned (.int .i64 (xgap m a b)) ∧ w' = w := by
  have hc := right_any m w hm
  have hd := id_any m a w hm ha
  have he := id_any m b w hm hb
  by_cases hM : Md m
  · rw [decide_eq_true hM] at hc
    by_cases hI : 1 ≤ a ∧ a ≤ m
    · rw [decide_eq_true hI] at hd
      by_cases hJ : 1 ≤ b ∧ b ≤ m
      · rw [decide_eq_true hJ] at he
        have hlt := xgap_lt (m := m) (a := a) (b := b) ⟨hM, hI⟩ ⟨hM, hJ⟩
        have hg := fun n => gap_first (m := m) (a := a) (b := b) (n := n) ⟨hM, hI⟩ ⟨hM, hJ⟩
        have hA : Hid (∀ n : Int, 0 ≤ n → n < 2000 → ∀ w, Calls Tryz.prog 152 #[.int .i64 m, .int .i64 a, .int .i64 n] w fun e w' => e = .returned (.int .i64 (xadd m a n)) ∧ w' = w) := fun n h0 h1 w => xadd_any m a n w hm ha (I64.of (by omega) (by omega))
        have hm1 := hM.2.1
        clear hM hI hJ hm ha hb
        obtain ⟨g, hgg⟩ : ∃ g, xgap m a b = g := ⟨_, rfl⟩
        rw [hgg] at hlt
        rw [hgg]
        simp only [hgg] at hg
        clear hgg
        have HG := hide hg
        clear hg
        go_enter Tryz.func112, Tryz.ntmps112
        go_wp2_with fail
        go_at_call 150
        refine hc.mono ?_
        rintro e w' ⟨rfl, hw⟩; obtain rfl := hw.symm; clear hw
        go_wp2_with fail
        go_at_call 151
        refine hd.mono ?_
        rintro e w' ⟨rfl, hw⟩; obtain rfl := hw.symm; clear hw
        go_wp2_with fail
        go_at_call 151
        refine he.mono ?_
        rintro e w' ⟨rfl, hw⟩; obtain rfl := hw.symm; clear hw
        go_wp2_with fail
        clear hc hd he
        go_loop [7] (fun i => ∃ n : Int, i = .int .i64 n ∧ 0 ≤ n ∧ n ≤ g) (fun i => (g - intOf i).toNat)
        case atStart => exact ⟨0, rfl, by omega, by omega⟩
        case round =>
          obtain ⟨n, rfl, hn0, hn1⟩ := hrel
          have hiff := HG.out n hn0 hn1
          have hcall := fun w => hA.out n hn0 (by omega) w
          obtain ⟨v, hv⟩ : ∃ v, xadd m a n = v := ⟨_, rfl⟩
          simp only [hv] at hcall
          rw [hv] at hiff
          clear hv
          by_cases hlast : n = g
          · have hvb : (v == b) = true := by simpa using hiff.2 hlast
            have hgn := hide hlast.symm
            clear hiff hlast
            go_wp2_with (first
              | (go_at_call 152; refine (hcall _).mono ?_; rintro e w' ⟨rfl, hw⟩; obtain rfl := hw.symm; clear hw))
            go_ret
            refine ⟨?_, rfl⟩
            rw [hgn.out]
            rfl
          · have hvb : (v == b) = false := by
              have : ¬ v = b := fun e => hlast (hiff.1 e)
              simpa using this
            have hlt2 : n < g := by omega
            clear hiff hlast
            go_wp2_with (first
              | (go_at_call 152; refine (hcall _).mono ?_; rintro e w' ⟨rfl, hw⟩; obtain rfl := hw.symm; clear hw))
            go_round
            case rel => exact ⟨n + 1, by go_num, by omega, by omega⟩
            case measure => simp [intOf]; omega
      · rw [decide_eq_false hJ] at he
        have hq : xgap m a b = 0 := by unfold xgap; rw [if_neg (fun h => hJ h.2.2)]
        rw [hq]
        clear hI hJ hM hq hm ha hb
        go_enter Tryz.func112, Tryz.ntmps112
        go_wp2_with fail
        go_at_call 150
        refine hc.mono ?_
        rintro e w' ⟨rfl, hw⟩; obtain rfl := hw.symm; clear hw
        go_wp2_with fail
        go_at_call 151
        refine hd.mono ?_
        rintro e w' ⟨rfl, hw⟩; obtain rfl := hw.symm; clear hw
        go_wp2_with fail
        go_at_call 151
        refine he.mono ?_
        rintro e w' ⟨rfl, hw⟩; obtain rfl := hw.symm; clear hw
        go_wp2_with fail
        go_ret
        exact ⟨rfl, rfl⟩
    · rw [decide_eq_false hI] at hd
      have hq : xgap m a b = 0 := by unfold xgap; rw [if_neg (fun h => hI h.1.2)]
      rw [hq]
      clear hI hM hq hm ha hb he
      go_enter Tryz.func112, Tryz.ntmps112
      go_wp2_with fail
      go_at_call 150
      refine hc.mono ?_
      rintro e w' ⟨rfl, hw⟩; obtain rfl := hw.symm; clear hw
      go_wp2_with fail
      go_at_call 151
      refine hd.mono ?_
      rintro e w' ⟨rfl, hw⟩; obtain rfl := hw.symm; clear hw
      go_wp2_with fail
      go_ret
      exact ⟨rfl, rfl⟩
  · rw [decide_eq_false hM] at hc
    have hq : xgap m a b = 0 := by unfold xgap; rw [if_neg (fun h => hM h.1.1)]
    rw [hq]
    clear hM hq hm ha hb he hd
    go_enter Tryz.func112, Tryz.ntmps112
    go_wp2_with fail
    go_at_call 150
    refine hc.mono ?_
    rintro e w' ⟨rfl, hw⟩; obtain rfl := hw.symm; clear hw
    go_wp2_with fail
    go_ret
    exact ⟨rfl, rfl⟩
theorem xbefore_any (m a b : Int) (w : World) (hm : I64 m) (ha : I64 a) (hb : I64 b) :
    Calls Tryz.prog 66 #[.int .i64 m, .int .i64 a, .int .i64 b] w fun e w' => e = .returned (.bool (xbef m a b)) ∧ w' = w := by
  have hc := xgap_any m a b w hm ha hb
  have hbd := xgap_bd (m := m) (a := a) (b := b)
  have hid := xgap_id (m := m) (a := a) (b := b)
  obtain ⟨k, hk⟩ : ∃ k, xgap m a b = k := ⟨_, rfl⟩
  have hX : xbef m a b = decide (1 ≤ k ∧ k ≤ m / 2 - 1) := by unfold xbef; rw [hk]
  rw [hX]
  rw [hk] at hc hbd hid
  clear hX hk hm ha hb
  by_cases h1 : 1 ≤ k
  · obtain ⟨h16, h1024⟩ := hid h1
    clear hid
    by_cases h2 : k ≤ m / 2 - 1
    · rw [show decide (1 ≤ k ∧ k ≤ m / 2 - 1) = true from by simp [h1, h2]]
      go_enter Tryz.func66, Tryz.ntmps66
      go_wp2_with (first
        | (go_at_call 112; refine hc.mono ?_; rintro e w' ⟨rfl, hw⟩; obtain rfl := hw.symm; clear hw))
      go_ret
      exact ⟨rfl, rfl⟩
    · rw [show decide (1 ≤ k ∧ k ≤ m / 2 - 1) = false from by simp [h2]]
      have hd : decide (k ≤ m / 2 - 1) = false := decide_eq_false h2
      go_enter Tryz.func66, Tryz.ntmps66
      go_wp2_with (first
        | (go_at_call 112; refine hc.mono ?_; rintro e w' ⟨rfl, hw⟩; obtain rfl := hw.symm; clear hw))
      go_ret
      exact ⟨rfl, rfl⟩
  · rw [show decide (1 ≤ k ∧ k ≤ m / 2 - 1) = false from by simp [h1]]
    clear hid
    go_enter Tryz.func66, Tryz.ntmps66
    go_wp2_with (first
      | (go_at_call 112; refine hc.mono ?_; rintro e w' ⟨rfl, hw⟩; obtain rfl := hw.symm; clear hw))
    go_ret
    exact ⟨rfl, rfl⟩
/-- The document's Reader in block x. -/
structure XR (w : World) (x : Nat) (s : ByteArray) (p : Nat) (y : Int) : Prop where
  c0 : w.cell? ⟨x, 0, none⟩ = some (.string s)
  c1 : w.cell? ⟨x, 1, none⟩ = some (.int .i64 (p : Int))
  c2 : w.cell? ⟨x, 2, none⟩ = some (.int .i64 y)
  f0 : w.frozen? ⟨x, 0, none⟩ = false
  f1 : w.frozen? ⟨x, 1, none⟩ = false
  f2 : w.frozen? ⟨x, 2, none⟩ = false
  lt : x < w.heap.size
theorem XR.kept {S : Nat → Prop} {w w' : World} {x : Nat} {s : ByteArray} {p : Nat} {y : Int} (h : XR w x s p y) (ho : Only S w w') (hr : ¬ S x) : XR w' x s p y :=
  ⟨(ho.cell (p := ⟨x, 0, none⟩) h.lt hr).trans h.c0, (ho.cell (p := ⟨x, 1, none⟩) h.lt hr).trans h.c1, (ho.cell (p := ⟨x, 2, none⟩) h.lt hr).trans h.c2, (ho.frozen (p := ⟨x, 0, none⟩) h.lt hr).trans h.f0, (ho.frozen (p := ⟨x, 1, none⟩) h.lt hr).trans h.f1, (ho.frozen (p := ⟨x, 2, none⟩) h.lt hr).trans h.f2, Nat.lt_of_lt_of_le h.lt ho.size⟩
theorem XR.set1 {w : World} {x : Nat} {s : ByteArray} {p : Nat} {y : Int} (h : XR w x s p y) (q : Nat) : XR (w.setCell ⟨x, 1, none⟩ (.int .i64 (q : Int))) x s q y :=
  ⟨(World.cell?_setCell_other _ _ _ _ (by simp)).trans h.c0, World.cell?_setCell_same _ _ _ h.c1, (World.cell?_setCell_other _ _ _ _ (by simp)).trans h.c2, by simpa using h.f0, by simpa using h.f1, by simpa using h.f2, by simpa using h.lt⟩
theorem XR.set2 {w : World} {x : Nat} {s : ByteArray} {p : Nat} {y : Int} (h : XR w x s p y) (q : Int) : XR (w.setCell ⟨x, 2, none⟩ (.int .i64 q)) x s p q :=
  ⟨(World.cell?_setCell_other _ _ _ _ (by simp)).trans h.c0, (World.cell?_setCell_other _ _ _ _ (by simp)).trans h.c1, World.cell?_setCell_same _ _ _ h.c2, by simpa using h.f0, by simpa using h.f1, by simpa using h.f2, by simpa using h.lt⟩
theorem XR.new (w : World) (s : ByteArray) : XR (w.alloc (.cells #[.string s, .int .i64 0, .int .i64 0] 111)) w.heap.size s 0 0 :=
  ⟨by simp, by simp, by simp, by simp, by simp, by simp, by simp⟩
theorem XR.drew {w : World} {x : Nat} {s : ByteArray} {p : Nat} {y : Int} (h : XR w x s p y) : XR w.drew x s p y := h.kept (Only.drew (fun _ => False) w) (fun h => h)
theorem wrong_any (w : World) (x : Nat) (s : ByteArray) (p : Nat) (y z : Int) (h : XR w x s p y) :
    Calls Tryz.prog 107 #[.pointer (some ⟨x, 0, none⟩), .int .i64 z] w fun e w' => e = .returned (.int .i64 0) ∧ w' = w.setCell ⟨x, 2, none⟩ (.int .i64 z) := by
  obtain ⟨c0, c1, c2, f0, f1, f2, hl⟩ := h
  go_enter Tryz.func107, Tryz.ntmps107
  go_wp2
  go_ret
  exact ⟨rfl, rfl⟩
theorem xnum_err (w : World) (x : Nat) (s : ByteArray) (p : Nat) (y z : Int) (h : XR w x s p y) (hy : (y != 0) = true) :
    Calls Tryz.prog 106 #[.pointer (some ⟨x, 0, none⟩), .int .i64 z] w fun e w' => e = .returned (.int .i64 0) ∧ w' = w := by
  obtain ⟨c0, c1, c2, f0, f1, f2, hl⟩ := h
  go_enter Tryz.func106, Tryz.ntmps106
  go_wp2
  go_ret
  exact ⟨rfl, rfl⟩
theorem xend_err (w : World) (x : Nat) (s : ByteArray) (p : Nat) (y : Int) (h : XR w x s p y) (hy : (y == 0) = false) :
    Calls Tryz.prog 64 #[.pointer (some ⟨x, 0, none⟩)] w fun e w' => e = .returned (.int .i64 y) ∧ w' = w.drew := by
  obtain ⟨c0, c1, c2, f0, f1, f2, hl⟩ := h
  go_enter Tryz.func64, Tryz.ntmps64
  go_wp2
  go_region
  go_wp2
  go_ret
  exact ⟨rfl, rfl⟩
theorem xend_ok (w : World) (x : Nat) (s : ByteArray) (p : Nat) (h : XR w x s p 0) (hp : p ≤ s.size) :
    Calls Tryz.prog 64 #[.pointer (some ⟨x, 0, none⟩)] w fun e w' => e = .returned (.int .i64 (if s.size - p = 0 then 0 else 12)) ∧ w' = w.drew := by
  obtain ⟨c0, c1, c2, f0, f1, f2, hl⟩ := h
  by_cases hz : p < s.size
  · rw [if_neg (by omega)]
    go_enter Tryz.func64, Tryz.ntmps64
    go_wp2
    go_region
    go_wp2
    go_ret
    exact ⟨rfl, rfl⟩
  · rw [if_pos (by omega)]
    go_enter Tryz.func64, Tryz.ntmps64
    go_wp2
    go_region
    go_wp2
    go_ret
    exact ⟨rfl, rfl⟩
/-- A version as plain data. -/
structure Tu where
  xmin : Int
  xmax : Int
  frozen : Bool
  key : ByteArray
  value : ByteArray
theorem Tu.ext' {a b : Tu} (h1 : a.xmin = b.xmin) (h2 : a.xmax = b.xmax) (h3 : a.frozen = b.frozen) (h4 : a.key = b.key) (h5 : a.value = b.value) : a = b := by
  cases a; cases b; simp_all
def okK (k : ByteArray) : Bool := decide (1 ≤ k.size ∧ k.size ≤ 24)
theorem okK_iff {k : ByteArray} : okK k = true ↔ 1 ≤ k.size ∧ k.size ≤ 24 := by unfold okK; simp
def Tu.ok (t : Tu) : Bool := decide (1 ≤ t.xmin ∧ t.xmin ≤ 1024 ∧ 0 ≤ t.xmax ∧ t.xmax ≤ 1024 ∧ 1 ≤ t.key.size ∧ t.key.size ≤ 24 ∧ t.value.size ≤ 64)
theorem Tu.ok_iff {t : Tu} : t.ok = true ↔ (1 ≤ t.xmin ∧ t.xmin ≤ 1024 ∧ 0 ≤ t.xmax ∧ t.xmax ≤ 1024 ∧ 1 ≤ t.key.size ∧ t.key.size ≤ 24 ∧ t.value.size ≤ 64) := by unfold Tu.ok; simp
theorem Tu.ok_key {t : Tu} (h : t.ok = true) : okK t.key = true := by
  rw [Tu.ok_iff] at h
  rw [okK_iff]
  omega
/-- A text as it is laid. -/
def txL (s : ByteArray) : List UInt8 := sev s.size ++ s.data.toList
/-- A version's first byte. -/
def mkB (b : Bool) : UInt8 := if b then 3 else 1
/-- A version's bytes. -/
def Tu.enc (t : Tu) : List UInt8 := mkB t.frozen :: (bigF 2 t.xmin.toNat ++ (bigF 2 t.xmax.toNat ++ (txL t.key ++ txL t.value)))
/-- Two texts read one behind the other: both, what is left, what is wrong. -/
def rdTT (l : List UInt8) : List UInt8 × List UInt8 × List UInt8 × Int :=
  if (rdT 24 l).2.2 = 0 then ((rdT 24 l).1, (rdT 64 (rdT 24 l).2.1).1, (rdT 64 (rdT 24 l).2.1).2.1, (rdT 64 (rdT 24 l).2.1).2.2) else ((rdT 24 l).1, [], (rdT 24 l).2.1, (rdT 24 l).2.2)
/-- What is wrong at the end. -/
def endE (l : List UInt8) (x : Int) : Int := if x = 0 then (if l.length = 0 then 0 else 12) else x
/-- What stands in bytes that may be a version's. -/
def rawT (l : List UInt8) : Tu := ⟨ofTo ((l.drop 1).take 2), ofTo ((l.drop 3).take 2), l.head? == some 3, str (rdTT (l.drop 5)).1, str (rdTT (l.drop 5)).2.1⟩
def marked (l : List UInt8) : Bool := l.head? == some 1 || l.head? == some 3
def headed (l : List UInt8) : Bool := decide (5 ≤ l.length) && marked l
def endT (l : List UInt8) : Int := endE (rdTT l).2.2.1 (rdTT l).2.2.2
def goodT (l : List UInt8) : Bool := headed l && (endT (l.drop 5) == 0 && (rawT l).ok)
/-- The version of bytes. -/
def decT (l : List UInt8) : Option Tu := if goodT l then some (rawT l) else none
def noT : Tu := ⟨0, 0, false, ⟨#[]⟩, ⟨#[]⟩⟩
/-- What a dead slot holds. -/
def dlay (k : ByteArray) : List UInt8 := 4 :: txL k
def endD (l : List UInt8) : Int := endE (rdT 24 l).2.1 (rdT 24 l).2.2
def deadK (l : List UInt8) : Option ByteArray := if l.head? = some 4 ∧ endD (l.drop 1) = 0 ∧ okK (str (rdT 24 (l.drop 1)).1) = true then some (str (rdT 24 (l.drop 1)).1) else none
def keyT (l : List UInt8) : Option ByteArray := match decT l with | some t => some t.key | none => deadK l
/-- A slot's state. -/
def stT (l : List UInt8) : Int := if (decT l).isSome then 3 else if (deadK l).isSome then 2 else if l = [] then 1 else 0
theorem endE_zero {l : List UInt8} {x : Int} (h : endE l x = 0) : x = 0 ∧ l = [] := by
  unfold endE at h
  split at h
  · split at h
    · exact ⟨by assumption, List.eq_nil_of_length_eq_zero (by assumption)⟩
    · simp at h
  · contradiction
theorem rdN_upto (z : Int) (m : Nat) (rest : List UInt8) (hm : m < 9223372036854775808) (hz : (m : Int) ≤ z) : rdN z (sev m ++ rest) = ((m : Int), rest, 0) := by
  have h := rd_sev 9 0 m 0 rest rfl (by omega) (fun h => by omega) (by omega)
  have h' : rd 0 0 (sev m ++ rest) = ((m : Int), ((sev m).length : Int), 0) := by
    have e : sev m = sevF 9 m := rfl
    rw [e, h]; simp
  rw [rdN_ok h' (by omega)]
  simp
theorem rdT_upto (z : Int) (s : ByteArray) (rest : List UInt8) (hm : s.size < 9223372036854775808) (hz : (s.size : Int) ≤ z) : rdT z (txL s ++ rest) = (bl s, rest, 0) := by
  have h := rdN_upto z s.size (bl s ++ rest) hm hz
  have hl := bl_len s
  unfold txL
  rw [List.append_assoc]
  rw [show s.data.toList = bl s from rfl]
  rw [rdT_ok (by rw [h]) (by rw [h]; simp; omega)]
  rw [h]
  rw [show ((s.size : Int)).toNat = (bl s).length by omega, List.take_left, List.drop_left]
theorem sev_one (n : Nat) (h : n < 128) : (sev n).length = 1 := by
  unfold sev
  rw [sevF_end h]
  rfl
theorem txL_len (s : ByteArray) (h : s.size < 128) : (txL s).length = 1 + s.size := by
  unfold txL
  rw [List.length_append, sev_one _ h, show s.data.toList = bl s from rfl, bl_len]
theorem rdT_txL {z : Int} {l : List UInt8} (h : (rdT z l).2.2 = 0) : l = txL (str (rdT z l).1) ++ (rdT z l).2.1 := by
  have := rdT_canon z l h
  unfold txL
  rw [str_size]
  exact this
theorem mkB_head (b : Bool) (l : List UInt8) : headed (mkB b :: l) = decide (4 ≤ l.length) := by
  unfold headed marked mkB
  cases b <;> simp
theorem dec_encT {t : Tu} (h : t.ok = true) : decT t.enc = some t := by
  have h' := Tu.ok_iff.1 h
  have l1 := bigF_len 2 t.xmin.toNat
  have l2 := bigF_len 2 t.xmax.toNat
  have d5 : t.enc.drop 5 = txL t.key ++ txL t.value := by
    unfold Tu.enc
    rw [List.drop_succ_cons, ← List.append_assoc, List.drop_append_of_le_length (by simp; omega), List.drop_of_length_le (by simp; omega), List.nil_append]
  have d1 : (t.enc.drop 1).take 2 = bigF 2 t.xmin.toNat := by
    unfold Tu.enc
    rw [List.drop_succ_cons, List.drop_zero, List.take_append_of_le_length (by omega), List.take_of_length_le (by omega)]
  have d3 : (t.enc.drop 3).take 2 = bigF 2 t.xmax.toNat := by
    unfold Tu.enc
    rw [List.drop_succ_cons, List.drop_append_of_le_length (by omega), List.drop_of_length_le (by omega), List.nil_append, List.take_append_of_le_length (by omega), List.take_of_length_le (by omega)]
  have t1 : rdT 24 (t.enc.drop 5) = (bl t.key, txL t.value, 0) := by
    rw [d5]
    exact rdT_upto 24 t.key _ (by omega) (by omega)
  have t2 : rdT 64 (txL t.value) = (bl t.value, [], 0) := by
    have := rdT_upto 64 t.value [] (by omega) (by omega)
    rwa [List.append_nil] at this
  have tt : rdTT (t.enc.drop 5) = (bl t.key, bl t.value, [], 0) := by
    unfold rdTT
    rw [t1]
    simp only [if_pos]
    rw [t2]
  have hr : rawT t.enc = t := by
    unfold rawT
    rw [d1, d3, tt, ofTo_big 2 _ (by omega) (by omega), ofTo_big 2 _ (by omega) (by omega)]
    simp only [str_bl]
    refine Tu.ext' ?_ ?_ ?_ rfl rfl
    · simp; omega
    · simp; omega
    · simp only [Tu.enc, mkB, List.head?_cons]
      cases t.frozen <;> rfl
  have hh : headed t.enc = true := by
    unfold Tu.enc
    rw [mkB_head]
    simp only [List.length_append, decide_eq_true_eq]
    omega
  unfold decT goodT
  rw [hr, hh, h]
  unfold endT
  rw [tt]
  rfl
theorem list5 {l : List UInt8} (h : 5 ≤ l.length) : ∃ a b c d e r, l = a :: b :: c :: d :: e :: r := by
  match l, h with
  | a :: b :: c :: d :: e :: r, _ => exact ⟨a, b, c, d, e, r, rfl⟩
theorem enc_decT {l : List UInt8} {t : Tu} (h : decT l = some t) : t.ok = true ∧ t.enc = l ∧ headed l = true := by
  unfold decT at h
  split at h
  · rename_i hg
    simp only [Option.some.injEq] at h
    subst h
    unfold goodT at hg
    simp only [Bool.and_eq_true, beq_iff_eq] at hg
    obtain ⟨hh, he, hok⟩ := hg
    refine ⟨hok, ?_, hh⟩
    unfold headed at hh
    simp only [Bool.and_eq_true, decide_eq_true_eq] at hh
    obtain ⟨h5, hm⟩ := hh
    obtain ⟨a, b, c, d, e, r, rfl⟩ := list5 h5
    obtain ⟨hx, hl⟩ := endE_zero he
    simp only [List.drop_succ_cons, List.drop_zero] at hx hl
    have hq : r = txL (str (rdTT r).1) ++ txL (str (rdTT r).2.1) := by
      unfold rdTT at hx hl ⊢
      by_cases h0 : (rdT 24 r).2.2 = 0
      · rw [if_pos h0] at hx hl ⊢
        simp only at hx hl ⊢
        have e1 := rdT_txL h0
        have e2 := rdT_txL hx
        rw [hl, List.append_nil] at e2
        rw [← e2]
        exact e1
      · rw [if_neg h0] at hx
        exact absurd hx h0
    have b1 := big_ofTo [b, c] (by simp)
    have b2 := big_ofTo [d, e] (by simp)
    simp only [List.length_cons, List.length_nil] at b1 b2
    unfold Tu.enc rawT
    simp only [List.drop_succ_cons, List.drop_zero, List.take_succ_cons, List.take_zero, List.head?_cons]
    rw [← hq, b1, b2]
    unfold marked at hm
    simp only [List.head?_cons] at hm
    simp only [List.cons_append, List.nil_append, List.cons.injEq, and_true]
    unfold mkB
    by_cases ha : a = 3
    · subst ha; rfl
    · have : a = 1 := by simpa [ha] using hm
      subst this; rfl
  · cases h
theorem dead_lay {k : ByteArray} (h : okK k = true) : deadK (dlay k) = some k := by
  have h' := okK_iff.1 h
  have t1 : rdT 24 ((dlay k).drop 1) = (bl k, [], 0) := by
    have := rdT_upto 24 k [] (by omega) (by omega)
    rwa [List.append_nil] at this
  unfold deadK endD
  rw [t1]
  rw [if_pos ⟨rfl, rfl, by simpa [str_bl] using h⟩]
  simp [str_bl]
theorem lay_dead {l : List UInt8} {k : ByteArray} (h : deadK l = some k) : okK k = true ∧ dlay k = l ∧ l.head? = some 4 := by
  unfold deadK at h
  split at h
  · rename_i hc
    obtain ⟨h0, h1, h2⟩ := hc
    simp only [Option.some.injEq] at h
    subst h
    refine ⟨h2, ?_, h0⟩
    obtain ⟨hx, hl⟩ := endE_zero h1
    have e1 := rdT_txL hx
    rw [hl, List.append_nil] at e1
    unfold dlay
    rw [← e1]
    cases l with
    | nil => simp at h0
    | cons a r =>
      simp only [List.head?_cons, Option.some.injEq] at h0
      subst h0
      rfl
  · cases h
theorem headed_four {l : List UInt8} (h : headed l = true) : l.head? ≠ some 4 := by
  unfold headed marked at h
  intro e
  rw [e] at h
  simp at h
theorem dec_dead {l : List UInt8} {t : Tu} (h : decT l = some t) : deadK l = none := by
  cases hd : deadK l with
  | none => rfl
  | some k => exact absurd (lay_dead hd).2.2 (headed_four (enc_decT h).2.2)
theorem dead_dec {l : List UInt8} {k : ByteArray} (h : deadK l = some k) : decT l = none := by
  cases hd : decT l with
  | none => rfl
  | some t => rw [dec_dead hd] at h; cases h
/-- An entry as plain data. -/
structure En where
  key : ByteArray
  page : Int
  slot : Int
end Go.Proofs.YtpnbhddmdfcjdaaGreat
