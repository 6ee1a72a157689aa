/- Pages as plain data: what their bytes are, and which page bytes are. -/
import Derived.Test.YtpogphaflhfmbaaPBits
namespace Go.Proofs.Ytpogphaflhfmbaa
open Go.RowKit

structure Pg where
  lsn : Int
  kind : Int
  level : Int
  right : Int
  high : ByteArray
  items : List ByteArray

abbrev bl (s : ByteArray) : List UInt8 := s.data.toList
theorem bl_len (s : ByteArray) : (bl s).length = s.size := by rw [Array.length_toList]; rfl
def str (l : List UInt8) : ByteArray := ⟨l.toArray⟩
theorem bl_str (l : List UInt8) : bl (str l) = l := rfl
theorem str_bl (s : ByteArray) : str (bl s) = s := by obtain ⟨⟨l⟩⟩ := s; rfl
theorem str_size (l : List UInt8) : (str l).size = l.length := rfl
/-- The bytes that items need. -/
def isz (l : List ByteArray) : Nat := (l.map fun s => 2 + s.size).sum
theorem isz_nil : isz [] = 0 := rfl
theorem isz_cons (s : ByteArray) (l : List ByteArray) : isz (s :: l) = 2 + s.size + isz l := by simp [isz]
theorem isz_app (l m : List ByteArray) : isz (l ++ m) = isz l + isz m := by simp [isz]
theorem isz_snoc (l : List ByteArray) (k : Nat) (h : k < l.length) : isz (l.take (k + 1)) = isz (l.take k) + (2 + l[k].size) := by
  rw [List.take_succ_eq_append_getElem h, isz_app, isz_cons, isz_nil, Nat.add_zero]
def Pg.size (p : Pg) : Nat := 20 + p.high.size + isz p.items
def u8 (n : Int) : UInt8 := UInt8.ofNat n.toNat
def itemsL (l : List ByteArray) : List UInt8 := (l.map fun s => bigF 2 s.size ++ bl s).flatten
theorem itemsL_nil : itemsL [] = [] := rfl
theorem itemsL_cons (s : ByteArray) (l : List ByteArray) : itemsL (s :: l) = bigF 2 s.size ++ bl s ++ itemsL l := by simp [itemsL]
theorem itemsL_app (l m : List ByteArray) : itemsL (l ++ m) = itemsL l ++ itemsL m := by simp [itemsL]
theorem itemsL_len (l : List ByteArray) : (itemsL l).length = isz l := by
  induction l with
  | nil => rfl
  | cons s l ih => rw [itemsL_cons, isz_cons]; simp only [List.length_append, bigF_len, bl_len, ih]
theorem itemsL_snoc (l : List ByteArray) (k : Nat) (h : k < l.length) : itemsL (l.take (k + 1)) = itemsL (l.take k) ++ (bigF 2 l[k].size ++ bl l[k]) := by
  rw [List.take_succ_eq_append_getElem h, itemsL_app, itemsL_cons, itemsL_nil, List.append_nil]
/-- The bytes between the sum and High. -/
def Pg.head (p : Pg) : List UInt8 := bigF 8 p.lsn.toNat ++ (u8 p.kind :: u8 p.level :: (bigF 4 p.right.toNat ++ [UInt8.ofNat p.items.length, UInt8.ofNat p.high.size]))
theorem head_len (p : Pg) : p.head.length = 16 := by simp [Pg.head, bigF_len]
def Pg.front (p : Pg) : List UInt8 := p.head ++ (bl p.high ++ itemsL p.items)
theorem front_len (p : Pg) : p.front.length + 4 = p.size := by
  simp only [Pg.front, List.length_append, head_len, bl_len, itemsL_len, Pg.size]; omega
def Pg.body (p : Pg) : List UInt8 := p.front ++ List.replicate (512 - p.size) 0
def Pg.enc (p : Pg) : List UInt8 := bigF 4 (sum p.body).toNat ++ p.body
theorem body_len (p : Pg) (h : p.size ≤ 512) : p.body.length = 508 := by
  have := front_len p
  simp only [Pg.body, List.length_append, List.length_replicate]; omega
theorem enc_len (p : Pg) (h : p.size ≤ 512) : p.enc.length = 512 := by
  simp only [Pg.enc, List.length_append, bigF_len, body_len p h]
def Pg.inRange (p : Pg) : Prop := 0 ≤ p.lsn ∧ 1 ≤ p.kind ∧ p.kind ≤ 3 ∧ 0 ≤ p.level ∧ p.level ≤ 255 ∧ 0 ≤ p.right ∧ p.right ≤ 4294967295
def Pg.fits (p : Pg) : Prop := p.high.size ≤ 255 ∧ p.items.length ≤ 255 ∧ p.size ≤ 512
structure Pg.valid (p : Pg) : Prop where
  rng : p.inRange
  fit : p.fits
  lsn : p.lsn < 9223372036854775808

theorem ofTo_app (l : List UInt8) (b : UInt8) : ofTo (l ++ [b]) = (ofTo l * 256 + (b.toNat : Int)) % 18446744073709551616 := ofTo_snoc l b
theorem ofTo_small (l : List UInt8) (h : l.length ≤ 8) : 0 ≤ ofTo l ∧ ofTo l < 256 ^ l.length := by
  induction hn : l.length generalizing l with
  | zero => have : l = [] := List.eq_nil_of_length_eq_zero hn; subst this; exact ⟨by decide, by decide⟩
  | succ n ih =>
    rcases List.eq_nil_or_concat l with rfl | ⟨l', b, rfl⟩
    · simp at hn
    · rw [List.concat_eq_append] at hn h ⊢
      have hl : l'.length = n := by simpa using hn
      have h1 := ih l' (by simp at h; omega) hl
      have hb := b.toNat_lt
      rw [ofTo_snoc]
      have hp : (256 : Int) ^ (n + 1) = 256 ^ n * 256 := Int.pow_succ 256 n
      have hle : (256 : Int) ^ n ≤ 72057594037927936 := by
        have : n ≤ 7 := by simp at h; omega
        have hc : n = 0 ∨ n = 1 ∨ n = 2 ∨ n = 3 ∨ n = 4 ∨ n = 5 ∨ n = 6 ∨ n = 7 := by omega
        rcases hc with rfl | rfl | rfl | rfl | rfl | rfl | rfl | rfl <;> decide
      rw [hp]
      rw [Int.emod_eq_of_lt (by omega) (by omega)]
      omega
theorem ofTo_big (k n : Nat) (hk : k ≤ 8) (hn : n < 256 ^ k) : ofTo (bigF k n) = n := by
  induction k generalizing n with
  | zero => simp at hn; subst hn; rfl
  | succ k ih =>
    rw [bigF, ofTo_snoc, ih (n / 256) (by omega) (by rw [Nat.pow_succ] at hn; omega), byte_nat (by omega)]
    have hle : n < 18446744073709551616 := by
      have : k ≤ 7 := by omega
      have hc : k = 0 ∨ k = 1 ∨ k = 2 ∨ k = 3 ∨ k = 4 ∨ k = 5 ∨ k = 6 ∨ k = 7 := by omega
      rcases hc with rfl | rfl | rfl | rfl | rfl | rfl | rfl | rfl <;> simp at hn <;> omega
    omega
theorem big_ofTo (l : List UInt8) (h : l.length ≤ 8) : bigF l.length (ofTo l).toNat = l := by
  induction hn : l.length generalizing l with
  | zero => have : l = [] := List.eq_nil_of_length_eq_zero hn; subst this; rfl
  | succ n ih =>
    rcases List.eq_nil_or_concat l with rfl | ⟨l', b, rfl⟩
    · simp at hn
    · rw [List.concat_eq_append] at hn h ⊢
      have hl : l'.length = n := by simpa using hn
      have h1 := ih l' (by simp at h; omega) hl
      have hs := ofTo_small l' (by simp at h; omega)
      rw [hl] at hs
      have hb := b.toNat_lt
      have hle : (256 : Int) ^ n ≤ 72057594037927936 := by
        have : n ≤ 7 := by simp at h; omega
        have hc : n = 0 ∨ n = 1 ∨ n = 2 ∨ n = 3 ∨ n = 4 ∨ n = 5 ∨ n = 6 ∨ n = 7 := by omega
        rcases hc with rfl | rfl | rfl | rfl | rfl | rfl | rfl | rfl <;> decide
      rw [ofTo_snoc, Int.emod_eq_of_lt (by omega) (by omega), bigF]
      have e1 : (ofTo l' * 256 + (b.toNat : Int)).toNat / 256 = (ofTo l').toNat := by omega
      have e2 : (ofTo l' * 256 + (b.toNat : Int)).toNat % 256 = b.toNat := by omega
      rw [e1, e2, h1, UInt8.ofNat_toNat]

/-- So many items that bytes begin with, and what is behind them. -/
def takeI : Nat → List UInt8 → Option (List ByteArray × List UInt8)
  | 0, d => some ([], d)
  | k + 1, d =>
    if d.length < 2 then none
    else if (d.drop 2).length < (ofTo (d.take 2)).toNat then none
    else match takeI k ((d.drop 2).drop (ofTo (d.take 2)).toNat) with
      | none => none
      | some (l, r) => some (str ((d.drop 2).take (ofTo (d.take 2)).toNat) :: l, r)
def more (a : List ByteArray) : Option (List ByteArray × List UInt8) → Option (List ByteArray × List UInt8)
  | none => none
  | some (l, r) => some (a ++ l, r)
theorem more_nil (o : Option (List ByteArray × List UInt8)) : more [] o = o := by cases o <;> rfl
theorem takeI_short {k : Nat} {d : List UInt8} (a : List ByteArray) (h : d.length < 2) : more a (takeI (k + 1) d) = none := by rw [takeI, if_pos h]; rfl
theorem takeI_long {k : Nat} {d : List UInt8} (a : List ByteArray) (h : ¬ d.length < 2) (h2 : (d.drop 2).length < (ofTo (d.take 2)).toNat) : more a (takeI (k + 1) d) = none := by rw [takeI, if_neg h, if_pos h2]; rfl
theorem takeI_next {k : Nat} {d : List UInt8} (a : List ByteArray) (h : ¬ d.length < 2) (h2 : ¬ (d.drop 2).length < (ofTo (d.take 2)).toNat) :
    more a (takeI (k + 1) d) = more (a ++ [str ((d.drop 2).take (ofTo (d.take 2)).toNat)]) (takeI k ((d.drop 2).drop (ofTo (d.take 2)).toNat)) := by
  rw [takeI, if_neg h, if_neg h2]
  cases takeI k ((d.drop 2).drop (ofTo (d.take 2)).toNat) with
  | none => rfl
  | some q => simp [more]
/-- What is taken is what is laid. -/
theorem takeI_back (k : Nat) (d : List UInt8) (l : List ByteArray) (r : List UInt8) (h : takeI k d = some (l, r)) : d = itemsL l ++ r ∧ l.length = k := by
  induction k generalizing d l with
  | zero => simp [takeI] at h; obtain ⟨rfl, rfl⟩ := h; exact ⟨rfl, rfl⟩
  | succ k ih =>
    rw [takeI] at h
    split at h
    · cases h
    · rename_i h1
      split at h
      · cases h
      · rename_i h2
        split at h
        · cases h
        · rename_i l' r' he
          injection h with h
          injection h with hl hr
          subst hr
          obtain ⟨e, hk⟩ := ih _ _ he
          subst hl
          refine ⟨?_, by simp [hk]⟩
          have h2' : (d.take 2).length = 2 := by simp; omega
          have hb := big_ofTo (d.take 2) (by omega)
          rw [h2'] at hb
          rw [itemsL_cons, str_size, bl_str]
          have hsz : ((d.drop 2).take (ofTo (d.take 2)).toNat).length = (ofTo (d.take 2)).toNat := by rw [List.length_take]; omega
          rw [hsz, hb, List.append_assoc, List.append_assoc, ← e, List.take_append_drop, List.take_append_drop]
theorem takeI_laid (l : List ByteArray) (r : List UInt8) (h : ∀ s ∈ l, s.size < 65536) : takeI l.length (itemsL l ++ r) = some (l, r) := by
  induction l with
  | nil => rfl
  | cons s l ih =>
    have hs := h s (by simp)
    have e : itemsL (s :: l) ++ r = bigF 2 s.size ++ (bl s ++ (itemsL l ++ r)) := by rw [itemsL_cons]; simp
    have ht : (itemsL (s :: l) ++ r).take 2 = bigF 2 s.size := by rw [e]; exact List.take_left' (bigF_len _ _)
    have hd : (itemsL (s :: l) ++ r).drop 2 = bl s ++ (itemsL l ++ r) := by rw [e]; exact List.drop_left' (bigF_len _ _)
    have hn : (ofTo (bigF 2 s.size)).toNat = s.size := by rw [ofTo_big 2 s.size (by omega) (by simpa using hs)]; rfl
    rw [List.length_cons, takeI, ht, hd, hn, List.drop_left' (bl_len s), List.take_left' (bl_len s), ih (fun t ht => h t (by simp [ht]))]
    rw [if_neg (by rw [e]; simp [bigF_len]), if_neg (by simp)]
    simp [str_bl]
/-- What stands in the bytes behind the sum, read without a look at what may be. -/
def pre (D : List UInt8) : Option (Pg × List UInt8) :=
  match takeI (D.getD 14 0).toNat ((D.drop 16).drop (D.getD 15 0).toNat) with
  | none => none
  | some (l, r) => some (⟨ofTo (D.take 8) % 9223372036854775808, (D.getD 8 0).toNat, (D.getD 9 0).toNat, ofTo ((D.drop 10).take 4) % 9223372036854775808, str ((D.drop 16).take (D.getD 15 0).toNat), l⟩, r)
end Go.Proofs.Ytpogphaflhfmbaa
