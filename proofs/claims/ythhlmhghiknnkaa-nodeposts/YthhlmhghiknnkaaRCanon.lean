/- What is read is written just so, and the other way round. -/
import Derived.Test.YthhlmhghiknnkaaRRd
namespace Go.Proofs.Ythhlmhghiknnkaa
open Go.RowKit

set_option maxRecDepth 100000 in
theorem rd_canon (L : List UInt8) (i : Nat) (q n : Int) (k : Nat) (hi : i ≤ 8) (h : rd i q L = (n, (k : Int), 0)) :
    ∃ m : Nat, n = q + (m : Int) * 128 ^ i ∧ (0 < i → 0 < m) ∧ i < k ∧ L = sevF (9 - i) m ++ L.drop (k - i) := by
  induction L generalizing i q with
  | nil =>
    rw [show rd i q [] = (0, 0, 10) from rfl] at h
    simp only [Prod.mk.injEq] at h
    omega
  | cons d t ih =>
    have hd := d.toNat_lt
    rw [rd_cons] at h
    split at h
    · rename_i h1
      split at h
      · simp at h
      · rename_i h2
        simp only [Prod.mk.injEq] at h
        obtain ⟨e1, e2, _⟩ := h
        have ek : k = i + 1 := by omega
        refine ⟨d.toNat, e1.symm, fun hp => by omega, by omega, ?_⟩
        rw [ek, show i + 1 - i = 1 by omega, sevF_end (by omega)]
        have e : UInt8.ofNat d.toNat = d := by simp
        rw [e]; rfl
    · rename_i h1
      split at h
      · simp at h
      · rename_i h8
        obtain ⟨m, e1, e2, e3, e4⟩ := ih (i + 1) _ (by omega) h
        have hm := e2 (by omega)
        refine ⟨(d.toNat - 128) + 128 * m, ?_, fun _ => by omega, by omega, ?_⟩
        · rw [e1, Int.pow_succ]
          have e : ((d.toNat - 128 + 128 * m : Nat) : Int) = ((d.toNat : Int) - 128) + 128 * (m : Int) := by omega
          rw [e, Int.add_mul, Int.mul_comm (128 ^ i) 128, ← Int.mul_assoc, Int.mul_comm (m : Int) 128]
          omega
        · have e9 : 9 - i = (9 - (i + 1)) + 1 := by omega
          rw [e9, sevF_more (by omega)]
          have em : (d.toNat - 128 + 128 * m) % 128 + 128 = d.toNat := by omega
          have ed : (d.toNat - 128 + 128 * m) / 128 = m := by omega
          rw [em, ed]
          have e : UInt8.ofNat d.toNat = d := by simp
          rw [e, show k - i = (k - (i + 1)) + 1 by omega, List.drop_succ_cons, List.cons_append, ← e4]

theorem rd_sev (f i m : Nat) (q : Int) (rest : List UInt8) (hf : f + i = 9) (hm : m < 128 ^ f) (hp : 0 < i → 0 < m) (hi : i ≤ 8) :
    rd i q (sevF f m ++ rest) = (q + (m : Int) * 128 ^ i, ((i + (sevF f m).length : Nat) : Int), 0) := by
  induction f generalizing i m q with
  | zero => omega
  | succ f ih =>
    by_cases h : m < 128
    · rw [sevF_end h]
      have e : ((UInt8.ofNat m).toNat : Int) = (m : Int) := by rw [UInt8.toNat_ofNat_of_lt' (show m < 256 by omega)]
      rw [List.cons_append, List.nil_append, rd_cons, e, if_pos (by omega), if_neg (by omega)]
      simp
    · rw [sevF_more h, List.cons_append, rd_cons]
      have e : ((UInt8.ofNat (m % 128 + 128)).toNat : Int) = ((m % 128 + 128 : Nat) : Int) := by rw [UInt8.toNat_ofNat_of_lt' (show m % 128 + 128 < 256 by omega)]
      have h8 : i ≠ 8 := by
        intro e8
        have : f = 0 := by omega
        subst this
        simp at hm
        omega
      rw [Nat.pow_succ] at hm
      rw [e, if_neg (by omega), if_neg h8, ih (i + 1) (m / 128) _ (by omega) (by omega) (fun _ => by omega) (by omega)]
      refine Prod.ext ?_ (Prod.ext ?_ rfl)
      · show _ + ((m / 128 : Nat) : Int) * 128 ^ (i + 1) = q + (m : Int) * 128 ^ i
        rw [Int.pow_succ]
        have e1 : ((m % 128 + 128 : Nat) : Int) - 128 = ((m % 128 : Nat) : Int) := by omega
        have e2 : (m : Int) = ((m % 128 : Nat) : Int) + ((m / 128 : Nat) : Int) * 128 := by omega
        rw [e1]
        conv => rhs; rw [e2, Int.add_mul, Int.mul_assoc, Int.mul_comm 128 (128 ^ i)]
        omega
      · show ((i + 1 + _ : Nat) : Int) = _
        simp only [List.length_cons]
        congr 1
        omega

/-- Num: what is taken is written just so. -/
theorem rdN_canon (z : Int) (l : List UInt8) (h : (rdN z l).2.2 = 0) : l = sev (rdN z l).1.toNat ++ (rdN z l).2.1 := by
  rcases rd_cases l 0 0 (by omega) (by omega) (by decide) with h' | h' | ⟨n, k, h', h2, h3, h4, h5, h6⟩
  · rw [rdN_bad h' (by decide)] at h; simp at h
  · rw [rdN_bad h' (by decide)] at h; simp at h
  · by_cases hm : max z 0 < n
    · rw [rdN_big h' hm] at h; simp at h
    · rw [rdN_ok h' hm]
      obtain ⟨m, e1, _, _, e4⟩ := rd_canon l 0 0 n k (by omega) h'
      have e : n.toNat = m := by rw [e1]; simp
      show l = sev n.toNat ++ l.drop k
      rw [e]
      simpa [sev] using e4
theorem rdT_canon (z : Int) (l : List UInt8) (h : (rdT z l).2.2 = 0) : l = (sev (rdT z l).1.length ++ (rdT z l).1) ++ (rdT z l).2.1 := by
  by_cases hx : (rdN z l).2.2 = 0
  · by_cases hs : ((rdN z l).2.1.length : Int) < (rdN z l).1
    · rw [rdT_short hx hs] at h; simp at h
    · rw [rdT_ok hx hs]
      have hc := rdN_canon z l hx
      have hf := rdN_facts z l
      show l = (sev ((rdN z l).2.1.take (rdN z l).1.toNat).length ++ (rdN z l).2.1.take (rdN z l).1.toNat) ++ (rdN z l).2.1.drop (rdN z l).1.toNat
      have e : ((rdN z l).2.1.take (rdN z l).1.toNat).length = (rdN z l).1.toNat := by rw [List.length_take]; omega
      rw [e, List.append_assoc, List.take_append_drop]
      exact hc
  · rw [rdT_err hx] at h; exact absurd h hx
/-- What is laid is read by the same calls. -/
theorem rdN_sev (m : Nat) (rest : List UInt8) (hm : m < 9223372036854775808) : rdN (m : Int) (sev m ++ rest) = ((m : Int), rest, 0) := by
  have h := rd_sev 9 0 m 0 rest rfl (by omega) (fun h => by omega) (by omega)
  have h' : rd 0 0 (sev m ++ rest) = ((m : Int), ((sev m).length : Int), 0) := by
    have e : sev m = sevF 9 m := rfl
    rw [e, h]; simp
  rw [rdN_ok h' (by omega)]
  simp
theorem rdT_sev (t rest : List UInt8) (hm : t.length < 9223372036854775808) : rdT (t.length : Int) ((sev t.length ++ t) ++ rest) = (t, rest, 0) := by
  have h := rdN_sev t.length (t ++ rest) hm
  rw [List.append_assoc, rdT_ok (by rw [h]) (by rw [h]; simp; omega)]
  rw [h]
  simp
theorem sev_zero : sev 0 = [0] := by decide
end Go.Proofs.Ythhlmhghiknnkaa
