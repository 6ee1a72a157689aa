/- Parts. -/
import Derived.WalkKit
set_option maxRecDepth 100000
namespace Go.Proofs.Ytpnbhddmdfcjdaa
open Go.RowKit
/-- One bit of the sum. -/
def sbit (q : Int) : Int := if (bits BinOp.and IntKind.u32 q 1 == 1) = true then bits BinOp.xor IntKind.u32 (q / 2) 3988292384 else q / 2
def sby : Nat → Int → Int
  | 0, q => q
  | k + 1, q => sbit (sby k q)
/-- The sum's state behind bytes. -/
def sumTo (l : List UInt8) : Int := l.foldl (fun c b => sby 8 (bits BinOp.xor IntKind.u32 c ((b.toNat : Int) % 4294967296))) 4294967295
def sum (l : List UInt8) : Int := bits BinOp.xor IntKind.u32 (sumTo l) 4294967295
/-- The number of bytes, the highest first, modulo 2 to the 64. -/
def ofTo (l : List UInt8) : Int := l.foldl (fun c b => (c * 256 + (b.toNat : Int)) % 18446744073709551616) 0
theorem ofTo_snoc (l : List UInt8) (b : UInt8) : ofTo (l ++ [b]) = (ofTo l * 256 + (b.toNat : Int)) % 18446744073709551616 := by
  simp [ofTo]
theorem take_snoc (s : ByteArray) (k : Nat) (h : k < s.size) : s.data.toList.take (k + 1) = s.data.toList.take k ++ [s[k]] := by
  rw [List.take_succ_eq_append_getElem (by simpa using h)]; rfl
theorem take_all (s : ByteArray) (k : Nat) (h : ¬ k < s.size) : s.data.toList.take k = s.data.toList := by
  rw [List.take_of_length_le (by simpa using h)]
theorem ret_int {k : IntKind} {a b : Int} (h : a = b) : Ending.returned (.int k a) = .returned (.int k b) := by rw [h]
theorem wraps_u64 (n : Int) (h₀ : 0 ≤ n) (h₁ : n < 2 ^ 64) : IntKind.u64.wrap n = n := by rw [IntKind.wrap_u64]; omega
theorem of_step (q : Int) (b : UInt8) : bits BinOp.or IntKind.u64 (IntKind.u64.wrap (q * 256)) (IntKind.u64.wrap (b.toNat : Int)) = (q * 256 + (b.toNat : Int)) % 18446744073709551616 := by
  have hb := b.toNat_lt
  rw [IntKind.wrap_u64, IntKind.wrap_u64, bits_join .u64 64 (by decide) wraps_u64 8 _ _ (by omega) (by omega) (by omega) (by omega) (by omega) (by omega)]
  omega
theorem of_last (q : Int) (h0 : 0 ≤ q) (h1 : q < 18446744073709551616) : wrap64 (bits BinOp.and IntKind.u64 q 9223372036854775807) = q % 9223372036854775808 := by
  have h := bits_mask .u64 64 (by decide) wraps_u64 63 (by decide) q h0 (by omega)
  have e1 : ((2 : Int) ^ 63 - 1) = 9223372036854775807 := by decide
  have e2 : ((2 : Int) ^ 63) = 9223372036854775808 := by decide
  rw [e1, e2] at h
  rw [h]; unfold wrap64; omega
theorem ofTo_bd (l : List UInt8) : 0 ≤ ofTo l ∧ ofTo l < 18446744073709551616 := by
  rcases List.eq_nil_or_concat l with rfl | ⟨l', b, rfl⟩
  · exact ⟨by decide, by decide⟩
  · rw [List.concat_eq_append, ofTo_snoc]; omega
/-- The number whose sevens bytes begin with, how many they are, and what is wrong. -/
def rd (i : Nat) (n : Int) : List UInt8 → Int × Int × Int
  | [] => (0, 0, 10)
  | d :: t =>
    if (d.toNat : Int) < 128 then (if (d.toNat : Int) = 0 ∧ 0 < i then (0, 0, 11) else (n + (d.toNat : Int) * 128 ^ i, (i : Int) + 1, 0))
    else if i = 8 then (0, 0, 11)
    else rd (i + 1) (n + ((d.toNat : Int) - 128) * 128 ^ i) t
theorem w64_id (n : Int) (h : -9223372036854775808 ≤ n ∧ n ≤ 9223372036854775807) : wrap64 n = n := by unfold wrap64; omega
theorem rd_cons (i : Nat) (n : Int) (d : UInt8) (t : List UInt8) : rd i n (d :: t) = if (d.toNat : Int) < 128 then (if (d.toNat : Int) = 0 ∧ 0 < i then (0, 0, 11) else (n + (d.toNat : Int) * 128 ^ i, (i : Int) + 1, 0)) else if i = 8 then (0, 0, 11) else rd (i + 1) (n + ((d.toNat : Int) - 128) * 128 ^ i) t := rfl
theorem bits_or_comm (k : IntKind) (x y : Int) : bits BinOp.or k x y = bits BinOp.or k y x := by simp [bits, BitVec.or_comm]
theorem wraps_i64 (n : Int) (h₀ : 0 ≤ n) (h₁ : n < 2 ^ 63) : IntKind.i64.wrap n = n := by rw [IntKind.wrap_i64]; omega
theorem or_shift (k : Nat) (q d : Int) (hk : k ≤ 8) (q0 : 0 ≤ q) (q1 : q < 128 ^ k) (d0 : 0 ≤ d) (d1 : d < 128) :
    bits BinOp.or IntKind.i64 q (wrap64 (d * 2 ^ (7 * k))) = q + d * 128 ^ k ∧ 0 ≤ q + d * 128 ^ k ∧ q + d * 128 ^ k < 128 ^ (k + 1) := by
  have hc : k = 0 ∨ k = 1 ∨ k = 2 ∨ k = 3 ∨ k = 4 ∨ k = 5 ∨ k = 6 ∨ k = 7 ∨ k = 8 := by omega
  rcases hc with rfl | rfl | rfl | rfl | rfl | rfl | rfl | rfl | rfl
  all_goals
    simp at q1 ⊢
    rw [w64_id _ (by omega), bits_or_comm]
  · rw [bits_join .i64 63 (by decide) wraps_i64 0 _ _ (by omega) (by omega) (by omega) (by omega) (by omega) (by omega)]; omega
  · rw [bits_join .i64 63 (by decide) wraps_i64 7 _ _ (by omega) (by omega) (by omega) (by omega) (by omega) (by omega)]; omega
  · rw [bits_join .i64 63 (by decide) wraps_i64 14 _ _ (by omega) (by omega) (by omega) (by omega) (by omega) (by omega)]; omega
  · rw [bits_join .i64 63 (by decide) wraps_i64 21 _ _ (by omega) (by omega) (by omega) (by omega) (by omega) (by omega)]; omega
  · rw [bits_join .i64 63 (by decide) wraps_i64 28 _ _ (by omega) (by omega) (by omega) (by omega) (by omega) (by omega)]; omega
  · rw [bits_join .i64 63 (by decide) wraps_i64 35 _ _ (by omega) (by omega) (by omega) (by omega) (by omega) (by omega)]; omega
  · rw [bits_join .i64 63 (by decide) wraps_i64 42 _ _ (by omega) (by omega) (by omega) (by omega) (by omega) (by omega)]; omega
  · rw [bits_join .i64 63 (by decide) wraps_i64 49 _ _ (by omega) (by omega) (by omega) (by omega) (by omega) (by omega)]; omega
  · rw [bits_join .i64 63 (by decide) wraps_i64 56 _ _ (by omega) (by omega) (by omega) (by omega) (by omega) (by omega)]; omega
theorem drop_cons (s : ByteArray) (k : Nat) (h : k < s.size) : s.data.toList.drop k = s[k] :: s.data.toList.drop (k + 1) := by
  rw [List.drop_eq_getElem_cons (by simpa using h)]; rfl
theorem drop_none (s : ByteArray) (k : Nat) (h : ¬ k < s.size) : s.data.toList.drop k = [] := by
  rw [List.drop_of_length_le (by simpa using h)]
theorem rd_zero {k : Nat} {q : Int} {d : UInt8} {t : List UInt8} {R : Int × Int × Int} (h : rd k q (d :: t) = R) (h1 : (d.toNat : Int) < 128) (h2 : (d.toNat : Int) = 0) (h3 : 0 < k) : R = (0, 0, 11) := by
  rw [← h, rd_cons, if_pos h1, if_pos ⟨h2, h3⟩]
theorem rd_last {k : Nat} {q : Int} {d : UInt8} {t : List UInt8} {R : Int × Int × Int} (h : rd k q (d :: t) = R) (h1 : (d.toNat : Int) < 128) (h2 : ¬ ((d.toNat : Int) = 0 ∧ 0 < k)) : R = (q + (d.toNat : Int) * 128 ^ k, (k : Int) + 1, 0) := by
  rw [← h, rd_cons, if_pos h1, if_neg h2]
theorem rd_nine {k : Nat} {q : Int} {d : UInt8} {t : List UInt8} {R : Int × Int × Int} (h : rd k q (d :: t) = R) (h1 : ¬ (d.toNat : Int) < 128) (h3 : k = 8) : R = (0, 0, 11) := by
  rw [← h, rd_cons, if_neg h1, if_pos h3]
theorem rd_more {k : Nat} {q : Int} {d : UInt8} {t : List UInt8} {R : Int × Int × Int} (h : rd k q (d :: t) = R) (h1 : ¬ (d.toNat : Int) < 128) (h3 : ¬ k = 8) : rd (k + 1) (q + ((d.toNat : Int) - 128) * 128 ^ k) t = R := by
  rw [← h, rd_cons, if_neg h1, if_neg h3]
/-- The sevens of a number. -/
def sevF : Nat → Nat → List UInt8
  | 0, n => [UInt8.ofNat n]
  | f + 1, n => if n < 128 then [UInt8.ofNat n] else UInt8.ofNat (n % 128 + 128) :: sevF f (n / 128)
def sev (n : Nat) : List UInt8 := sevF 9 n
theorem sevF_len (f n : Nat) : (sevF f n).length ≤ f + 1 := by
  induction f generalizing n with
  | zero => simp [sevF]
  | succ f ih =>
    rw [sevF]
    split
    · simp
    · simp only [List.length_cons]; have := ih (n / 128); omega
theorem sevF_end {f n : Nat} (h : n < 128) : sevF f n = [UInt8.ofNat n] := by
  cases f with
  | zero => rfl
  | succ f => rw [sevF, if_pos h]
theorem sevF_more {f n : Nat} (h : ¬ n < 128) : sevF (f + 1) n = UInt8.ofNat (n % 128 + 128) :: sevF f (n / 128) := by rw [sevF, if_neg h]
theorem sevF_step {f q : Nat} {l' t : List UInt8} (h : l' ++ sevF f q = t) (hq : q < 128 ^ f) (h1 : ¬ q < 128) : ∃ f', f = f' + 1 ∧ (l' ++ [UInt8.ofNat (q % 128 + 128)]) ++ sevF f' (q / 128) = t ∧ q / 128 < 128 ^ f' := by
  cases f with
  | zero => simp at hq; omega
  | succ f =>
    refine ⟨f, rfl, ?_, ?_⟩
    · rw [← h, sevF_more h1]; simp
    · rw [Nat.pow_succ] at hq; omega
theorem pow_le9 (i : Nat) (hi : i ≤ 8) : (128 : Int) ^ (i + 1) ≤ 9223372036854775808 := by
  have hc : i = 0 ∨ i = 1 ∨ i = 2 ∨ i = 3 ∨ i = 4 ∨ i = 5 ∨ i = 6 ∨ i = 7 ∨ i = 8 := by omega
  rcases hc with rfl | rfl | rfl | rfl | rfl | rfl | rfl | rfl | rfl <;> decide
theorem rd_cases (l : List UInt8) (i : Nat) (q : Int) (hi : i ≤ 8) (q0 : 0 ≤ q) (q1 : q < 128 ^ i) :
    rd i q l = (0, 0, 10) ∨ rd i q l = (0, 0, 11) ∨ ∃ (n : Int) (k : Nat), rd i q l = (n, (k : Int), 0) ∧ 0 ≤ n ∧ n < 9223372036854775808 ∧ i < k ∧ k ≤ i + l.length ∧ k ≤ 9 := by
  induction l generalizing i q with
  | nil => exact .inl rfl
  | cons d t ih =>
    have hd := d.toNat_lt
    rw [rd_cons]
    split
    · split
      · exact .inr (.inl rfl)
      · have h := or_shift i q (d.toNat : Int) hi q0 q1 (by omega) (by omega)
        refine .inr (.inr ⟨_, i + 1, rfl, h.2.1, ?_, by omega, by simp, by omega⟩)
        have h9 := pow_le9 i hi
        omega
    · split
      · exact .inr (.inl rfl)
      · have h := or_shift i q ((d.toNat : Int) - 128) hi q0 q1 (by omega) (by omega)
        rcases ih (i + 1) _ (by omega) h.2.1 h.2.2 with h1 | h1 | ⟨n, k, h1, h2, h3, h4, h5, h6⟩
        · exact .inl h1
        · exact .inr (.inl h1)
        · exact .inr (.inr ⟨n, k, h1, h2, h3, by omega, by simp; omega, h6⟩)
/-- What a Reader's Num takes of bytes: the number, what is left, what is wrong. -/
def rdN (most : Int) (l : List UInt8) : Int × List UInt8 × Int :=
  if (rd 0 0 l).2.2 = 0 then (if max most 0 < (rd 0 0 l).1 then (0, [], 11) else ((rd 0 0 l).1, l.drop (rd 0 0 l).2.1.toNat, 0)) else (0, [], (rd 0 0 l).2.2)
/-- What a Reader's Text takes of bytes. -/
def rdT (most : Int) (l : List UInt8) : List UInt8 × List UInt8 × Int :=
  if (rdN most l).2.2 = 0 then (if ((rdN most l).2.1.length : Int) < (rdN most l).1 then ([], [], 10) else ((rdN most l).2.1.take (rdN most l).1.toNat, (rdN most l).2.1.drop (rdN most l).1.toNat, 0)) else ([], [], (rdN most l).2.2)
end Go.Proofs.Ytpnbhddmdfcjdaa
