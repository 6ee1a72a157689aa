/- Parts. -/
import Derived.Test.YtpnbhddmdfcjdaaGreatK05
set_option maxRecDepth 100000
namespace Go.Proofs.YtpnbhddmdfcjdaaGreat
open Go.RowKit
structure Pg where
  lsn : Int
  kind : Int
  level : Int
  right : Int
  high : ByteArray
  items : List ByteArray
abbrev bl (s : ByteArray) : List UInt8 := s.data.toList
theorem bl_len (s : ByteArray) : (bl s).length = s.size := by rw [Array.length_toList]; rfl
def str (l : List UInt8) : ByteArray := ⟨l.toArray⟩
theorem bl_str (l : List UInt8) : bl (str l) = l := rfl
theorem str_bl (s : ByteArray) : str (bl s) = s := by obtain ⟨⟨l⟩⟩ := s; rfl
theorem str_size (l : List UInt8) : (str l).size = l.length := rfl
/-- The bytes that items need. -/
def isz (l : List ByteArray) : Nat := (l.map fun s => 2 + s.size).sum
theorem isz_nil : isz [] = 0 := rfl
theorem isz_cons (s : ByteArray) (l : List ByteArray) : isz (s :: l) = 2 + s.size + isz l := by simp [isz]
theorem isz_app (l m : List ByteArray) : isz (l ++ m) = isz l + isz m := by simp [isz]
theorem isz_snoc (l : List ByteArray) (k : Nat) (h : k < l.length) : isz (l.take (k + 1)) = isz (l.take k) + (2 + l[k].size) := by
  rw [List.take_succ_eq_append_getElem h, isz_app, isz_cons, isz_nil, Nat.add_zero]
def u8 (n : Int) : UInt8 := UInt8.ofNat n.toNat
theorem ofTo_small (l : List UInt8) (h : l.length ≤ 8) : 0 ≤ ofTo l ∧ ofTo l < 256 ^ l.length := by
  induction hn : l.length generalizing l with
  | zero => have : l = [] := List.eq_nil_of_length_eq_zero hn; subst this; exact ⟨by decide, by decide⟩
  | succ n ih =>
    rcases List.eq_nil_or_concat l with rfl | ⟨l', b, rfl⟩
    · simp at hn
    · rw [List.concat_eq_append] at hn h ⊢
      have hl : l'.length = n := by simpa using hn
      have h1 := ih l' (by simp at h; omega) hl
      have hb := b.toNat_lt
      rw [ofTo_snoc]
      have hp : (256 : Int) ^ (n + 1) = 256 ^ n * 256 := Int.pow_succ 256 n
      have hle : (256 : Int) ^ n ≤ 72057594037927936 := by
        have : n ≤ 7 := by simp at h; omega
        have hc : n = 0 ∨ n = 1 ∨ n = 2 ∨ n = 3 ∨ n = 4 ∨ n = 5 ∨ n = 6 ∨ n = 7 := by omega
        rcases hc with rfl | rfl | rfl | rfl | rfl | rfl | rfl | rfl <;> decide
      rw [hp]
      rw [Int.emod_eq_of_lt (by omega) (by omega)]
      omega
theorem ofTo_big (k n : Nat) (hk : k ≤ 8) (hn : n < 256 ^ k) : ofTo (bigF k n) = n := by
  induction k generalizing n with
  | zero => simp at hn; subst hn; rfl
  | succ k ih =>
    rw [bigF, ofTo_snoc, ih (n / 256) (by omega) (by rw [Nat.pow_succ] at hn; omega), byte_nat (by omega)]
    have hle : n < 18446744073709551616 := by
      have : k ≤ 7 := by omega
      have hc : k = 0 ∨ k = 1 ∨ k = 2 ∨ k = 3 ∨ k = 4 ∨ k = 5 ∨ k = 6 ∨ k = 7 := by omega
      rcases hc with rfl | rfl | rfl | rfl | rfl | rfl | rfl | rfl <;> simp at hn <;> omega
    omega
theorem big_ofTo (l : List UInt8) (h : l.length ≤ 8) : bigF l.length (ofTo l).toNat = l := by
  induction hn : l.length generalizing l with
  | zero => have : l = [] := List.eq_nil_of_length_eq_zero hn; subst this; rfl
  | succ n ih =>
    rcases List.eq_nil_or_concat l with rfl | ⟨l', b, rfl⟩
    · simp at hn
    · rw [List.concat_eq_append] at hn h ⊢
      have hl : l'.length = n := by simpa using hn
      have h1 := ih l' (by simp at h; omega) hl
      have hs := ofTo_small l' (by simp at h; omega)
      rw [hl] at hs
      have hb := b.toNat_lt
      have hle : (256 : Int) ^ n ≤ 72057594037927936 := by
        have : n ≤ 7 := by simp at h; omega
        have hc : n = 0 ∨ n = 1 ∨ n = 2 ∨ n = 3 ∨ n = 4 ∨ n = 5 ∨ n = 6 ∨ n = 7 := by omega
        rcases hc with rfl | rfl | rfl | rfl | rfl | rfl | rfl | rfl <;> decide
      rw [ofTo_snoc, Int.emod_eq_of_lt (by omega) (by omega), bigF]
      have e1 : (ofTo l' * 256 + (b.toNat : Int)).toNat / 256 = (ofTo l').toNat := by omega
      have e2 : (ofTo l' * 256 + (b.toNat : Int)).toNat % 256 = b.toNat := by omega
      rw [e1, e2, h1, UInt8.ofNat_toNat]
def more (a : List ByteArray) : Option (List ByteArray × List UInt8) → Option (List ByteArray × List UInt8)
  | none => none
  | some (l, r) => some (a ++ l, r)
/-- A modulus. -/
def Md (m : Int) : Prop := 16 ≤ m ∧ m ≤ 1024 ∧ m % 2 = 0
instance (m : Int) : Decidable (Md m) := by unfold Md; infer_instance
/-- An id of the modulus m. -/
def Idd (m x : Int) : Prop := Md m ∧ 1 ≤ x ∧ x ≤ m
instance (m x : Int) : Decidable (Idd m x) := by unfold Idd; infer_instance
def xadd (m x n : Int) : Int := if Idd m x then (x - 1 + n) % m + 1 else 0
def xgap (m a b : Int) : Int := if Idd m a ∧ Idd m b then (b - a) % m else 0
def xbef (m a b : Int) : Bool := decide (1 ≤ xgap m a b ∧ xgap m a b ≤ m / 2 - 1)
/-- A number that an int may be. -/
def I64 (n : Int) : Prop := -9223372036854775808 ≤ n ∧ n < 9223372036854775808
theorem tmod2 {m : Int} (h : 0 ≤ m) : m.tmod 2 = m % 2 := Int.tmod_eq_emod_of_nonneg h
theorem emod_bd {m n : Int} (h : 16 ≤ m) : 0 ≤ n % m ∧ n % m < m := ⟨Int.emod_nonneg n (by omega), Int.emod_lt_of_pos n (by omega)⟩
theorem tmod_two {m n : Int} (h : 16 ≤ m) : n.tmod m = n % m ∨ (n.tmod m = n % m - m ∧ 0 < n % m) := by
  have h1 : n.tmod m = n % m - ↑(if 0 ≤ n ∨ m ∣ n then 0 else m.natAbs) := Int.tmod_eq_emod
  by_cases hc : 0 ≤ n ∨ m ∣ n
  · rw [if_pos hc] at h1
    exact .inl (by omega)
  · rw [if_neg hc] at h1
    have h2 := emod_bd (n := n) h
    have h3 : ¬ n % m = 0 := fun e => hc (.inr (Int.dvd_of_emod_eq_zero e))
    exact .inr ⟨by omega, by omega⟩
theorem tmod_bd {m n : Int} (h : 16 ≤ m) : -m < n.tmod m ∧ n.tmod m < m := by
  have h2 := emod_bd (n := n) h
  rcases tmod_two (n := n) h with e | ⟨e, _⟩ <;> rw [e] <;> omega
theorem around_is {m n : Int} (h : 16 ≤ m) : (n.tmod m + m).tmod m = n % m := by
  have h2 := emod_bd (n := n) h
  have h4 := tmod_bd (n := n) h
  rw [Int.tmod_eq_emod_of_nonneg (show 0 ≤ n.tmod m + m by omega)]
  rcases tmod_two (n := n) h with e | ⟨e, _⟩ <;> rw [e]
  · rw [Int.add_emod_right]; exact Int.emod_eq_of_lt h2.1 h2.2
  · rw [Int.sub_add_cancel]; exact Int.emod_eq_of_lt h2.1 h2.2
theorem plus_mod (y n m : Int) : (y + n % m) % m = (y + n) % m := by
  rw [Int.add_emod, Int.emod_emod_of_dvd _ (Int.dvd_refl m), ← Int.add_emod]
theorem add_is {m y n : Int} (h : 16 ≤ m) : (y + n.tmod m) % m = (y + n) % m := by
  rcases tmod_two (n := n) h with e | ⟨e, _⟩ <;> rw [e]
  · exact plus_mod y n m
  · rw [show y + (n % m - m) = y + n % m - m from by omega, Int.sub_emod_right]; exact plus_mod y n m
theorem xgap_bd {m a b : Int} : 0 ≤ xgap m a b ∧ xgap m a b < 1024 := by
  unfold xgap
  split
  · rename_i h
    have := emod_bd (m := m) (n := b - a) h.1.1.1
    have := h.1.1.2.1
    omega
  · omega
theorem xadd_id {m x n : Int} (h : Idd m x) : Idd m (xadd m x n) := by
  unfold xadd
  rw [if_pos h]
  have := emod_bd (m := m) (n := x - 1 + n) h.1.1
  exact ⟨h.1, by omega, by omega⟩
theorem xadd_bd {m x n : Int} : 0 ≤ xadd m x n ∧ xadd m x n ≤ 1024 := by
  by_cases h : Idd m x
  · have h1 := xadd_id (n := n) h
    have := h1.1.2.1
    have := h1.2
    omega
  · unfold xadd; rw [if_neg h]; omega
theorem mod_near {m y : Int} (h0 : 0 ≤ y) (h1 : y < 2 * m) : y % m = if y < m then y else y - m := by
  split
  · exact Int.emod_eq_of_lt h0 (by omega)
  · have e : y = (y - m) + m := by omega
    rw [e, Int.add_emod_right, Int.emod_eq_of_lt (by omega) (by omega)]
    omega
theorem mod_back {m y : Int} (h0 : -m ≤ y) (h1 : y < m) : y % m = if 0 ≤ y then y else y + m := by
  split
  · exact Int.emod_eq_of_lt (by omega) (by omega)
  · have e : y = (y + m) - m := by omega
    rw [e, Int.sub_emod_right, Int.emod_eq_of_lt (by omega) (by omega)]
    omega
/-- Some steps on, in plain words. -/
theorem ring_on {m a n : Int} (h : Idd m a) (h0 : 0 ≤ n) (h1 : n < m) : xadd m a n = if a + n ≤ m then a + n else a + n - m := by
  have hm := h.1.1
  have h2 := h.2
  unfold xadd
  rw [if_pos h, mod_near (by omega) (by omega)]
  split <;> split <;> omega
theorem ring_gap {m a b : Int} (h : Idd m a) (h' : Idd m b) : xgap m a b = if a ≤ b then b - a else b - a + m := by
  have hm := h.1.1
  have h2 := h.2
  have h3 := h'.2
  unfold xgap
  rw [if_pos ⟨h, h'⟩, mod_back (by omega) (by omega)]
  split <;> split <;> omega
def Pg.none : Pg := ⟨0, 0, 0, 0, ⟨#[]⟩, []⟩
/-- What stands in the bytes behind the sum is a page's. -/
def good (D : List UInt8) (p : Pg) (r : List UInt8) : Prop := (D.getD 0 0).toNat ≤ 127 ∧ (1 ≤ p.kind ∧ p.kind ≤ 3) ∧ r = List.replicate r.length 0
instance (D : List UInt8) (p : Pg) (r : List UInt8) : Decidable (good D p r) := by unfold good; exact inferInstance
end Go.Proofs.YtpnbhddmdfcjdaaGreat
