/- Parts. -/
import Derived.Test.YtpnbhddmdfcjdaaK05
set_option maxRecDepth 100000
namespace Go.Proofs.Ytpnbhddmdfcjdaa
open Go.RowKit
structure Pg where
  lsn : Int
  kind : Int
  level : Int
  right : Int
  high : ByteArray
  items : List ByteArray
abbrev bl (s : ByteArray) : List UInt8 := s.data.toList
theorem bl_len (s : ByteArray) : (bl s).length = s.size := by rw [Array.length_toList]; rfl
def str (l : List UInt8) : ByteArray := ⟨l.toArray⟩
theorem bl_str (l : List UInt8) : bl (str l) = l := rfl
theorem str_bl (s : ByteArray) : str (bl s) = s := by obtain ⟨⟨l⟩⟩ := s; rfl
theorem str_size (l : List UInt8) : (str l).size = l.length := rfl
/-- The bytes that items need. -/
def isz (l : List ByteArray) : Nat := (l.map fun s => 2 + s.size).sum
theorem isz_nil : isz [] = 0 := rfl
theorem isz_cons (s : ByteArray) (l : List ByteArray) : isz (s :: l) = 2 + s.size + isz l := by simp [isz]
theorem isz_app (l m : List ByteArray) : isz (l ++ m) = isz l + isz m := by simp [isz]
theorem isz_snoc (l : List ByteArray) (k : Nat) (h : k < l.length) : isz (l.take (k + 1)) = isz (l.take k) + (2 + l[k].size) := by
  rw [List.take_succ_eq_append_getElem h, isz_app, isz_cons, isz_nil, Nat.add_zero]
def u8 (n : Int) : UInt8 := UInt8.ofNat n.toNat
theorem ofTo_small (l : List UInt8) (h : l.length ≤ 8) : 0 ≤ ofTo l ∧ ofTo l < 256 ^ l.length := by
  induction hn : l.length generalizing l with
  | zero => have : l = [] := List.eq_nil_of_length_eq_zero hn; subst this; exact ⟨by decide, by decide⟩
  | succ n ih =>
    rcases List.eq_nil_or_concat l with rfl | ⟨l', b, rfl⟩
    · simp at hn
    · rw [List.concat_eq_append] at hn h ⊢
      have hl : l'.length = n := by simpa using hn
      have h1 := ih l' (by simp at h; omega) hl
      have hb := b.toNat_lt
      rw [ofTo_snoc]
      have hp : (256 : Int) ^ (n + 1) = 256 ^ n * 256 := Int.pow_succ 256 n
      have hle : (256 : Int) ^ n ≤ 72057594037927936 := by
        have : n ≤ 7 := by simp at h; omega
        have hc : n = 0 ∨ n = 1 ∨ n = 2 ∨ n = 3 ∨ n = 4 ∨ n = 5 ∨ n = 6 ∨ n = 7 := by omega
        rcases hc with rfl | rfl | rfl | rfl | rfl | rfl | rfl | rfl <;> decide
      rw [hp]
      rw [Int.emod_eq_of_lt (by omega) (by omega)]
      omega
theorem ofTo_big (k n : Nat) (hk : k ≤ 8) (hn : n < 256 ^ k) : ofTo (bigF k n) = n := by
  induction k generalizing n with
  | zero => simp at hn; subst hn; rfl
  | succ k ih =>
    rw [bigF, ofTo_snoc, ih (n / 256) (by omega) (by rw [Nat.pow_succ] at hn; omega), byte_nat (by omega)]
    have hle : n < 18446744073709551616 := by
      have : k ≤ 7 := by omega
      have hc : k = 0 ∨ k = 1 ∨ k = 2 ∨ k = 3 ∨ k = 4 ∨ k = 5 ∨ k = 6 ∨ k = 7 := by omega
      rcases hc with rfl | rfl | rfl | rfl | rfl | rfl | rfl | rfl <;> simp at hn <;> omega
    omega
theorem big_ofTo (l : List UInt8) (h : l.length ≤ 8) : bigF l.length (ofTo l).toNat = l := by
  induction hn : l.length generalizing l with
  | zero => have : l = [] := List.eq_nil_of_length_eq_zero hn; subst this; rfl
  | succ n ih =>
    rcases List.eq_nil_or_concat l with rfl | ⟨l', b, rfl⟩
    · simp at hn
    · rw [List.concat_eq_append] at hn h ⊢
      have hl : l'.length = n := by simpa using hn
      have h1 := ih l' (by simp at h; omega) hl
      have hs := ofTo_small l' (by simp at h; omega)
      rw [hl] at hs
      have hb := b.toNat_lt
      have hle : (256 : Int) ^ n ≤ 72057594037927936 := by
        have : n ≤ 7 := by simp at h; omega
        have hc : n = 0 ∨ n = 1 ∨ n = 2 ∨ n = 3 ∨ n = 4 ∨ n = 5 ∨ n = 6 ∨ n = 7 := by omega
        rcases hc with rfl | rfl | rfl | rfl | rfl | rfl | rfl | rfl <;> decide
      rw [ofTo_snoc, Int.emod_eq_of_lt (by omega) (by omega), bigF]
      have e1 : (ofTo l' * 256 + (b.toNat : Int)).toNat / 256 = (ofTo l').toNat := by omega
      have e2 : (ofTo l' * 256 + (b.toNat : Int)).toNat % 256 = b.toNat := by omega
      rw [e1, e2, h1, UInt8.ofNat_toNat]
def more (a : List ByteArray) : Option (List ByteArray × List UInt8) → Option (List ByteArray × List UInt8)
  | none => none
  | some (l, r) => some (a ++ l, r)
end Go.Proofs.Ytpnbhddmdfcjdaa
