/- A version as plain data, its bytes, and what any bytes in a slot are. -/
import Derived.Test.YthjjkhacniebiaaGreatK04
import Derived.Test.YthjjkhacniebiaaGreatK03
namespace Go.Proofs.YthjjkhacniebiaaGreat
open Go.RowKit

set_option maxRecDepth 100000 in
theorem rd_canon (L : List UInt8) (i : Nat) (q n : Int) (k : Nat) (hi : i ≤ 8) (h : rd i q L = (n, (k : Int), 0)) :
    ∃ m : Nat, n = q + (m : Int) * 128 ^ i ∧ (0 < i → 0 < m) ∧ i < k ∧ L = sevF (9 - i) m ++ L.drop (k - i) := by
  induction L generalizing i q with
  | nil =>
    rw [show rd i q [] = (0, 0, 10) from rfl] at h
    simp only [Prod.mk.injEq] at h
    omega
  | cons d t ih =>
    have hd := d.toNat_lt
    rw [rd_cons] at h
    split at h
    · rename_i h1
      split at h
      · simp at h
      · rename_i h2
        simp only [Prod.mk.injEq] at h
        obtain ⟨e1, e2, _⟩ := h
        have ek : k = i + 1 := by omega
        refine ⟨d.toNat, e1.symm, fun hp => by omega, by omega, ?_⟩
        rw [ek, show i + 1 - i = 1 by omega, sevF_end (by omega)]
        have e : UInt8.ofNat d.toNat = d := by simp
        rw [e]; rfl
    · rename_i h1
      split at h
      · simp at h
      · rename_i h8
        obtain ⟨m, e1, e2, e3, e4⟩ := ih (i + 1) _ (by omega) h
        have hm := e2 (by omega)
        refine ⟨(d.toNat - 128) + 128 * m, ?_, fun _ => by omega, by omega, ?_⟩
        · rw [e1, Int.pow_succ]
          have e : ((d.toNat - 128 + 128 * m : Nat) : Int) = ((d.toNat : Int) - 128) + 128 * (m : Int) := by omega
          rw [e, Int.add_mul, Int.mul_comm (128 ^ i) 128, ← Int.mul_assoc, Int.mul_comm (m : Int) 128]
          omega
        · have e9 : 9 - i = (9 - (i + 1)) + 1 := by omega
          rw [e9, sevF_more (by omega)]
          have em : (d.toNat - 128 + 128 * m) % 128 + 128 = d.toNat := by omega
          have ed : (d.toNat - 128 + 128 * m) / 128 = m := by omega
          rw [em, ed]
          have e : UInt8.ofNat d.toNat = d := by simp
          rw [e, show k - i = (k - (i + 1)) + 1 by omega, List.drop_succ_cons, List.cons_append, ← e4]

theorem rd_sev (f i m : Nat) (q : Int) (rest : List UInt8) (hf : f + i = 9) (hm : m < 128 ^ f) (hp : 0 < i → 0 < m) (hi : i ≤ 8) :
    rd i q (sevF f m ++ rest) = (q + (m : Int) * 128 ^ i, ((i + (sevF f m).length : Nat) : Int), 0) := by
  induction f generalizing i m q with
  | zero => omega
  | succ f ih =>
    by_cases h : m < 128
    · rw [sevF_end h]
      have e : ((UInt8.ofNat m).toNat : Int) = (m : Int) := by rw [UInt8.toNat_ofNat_of_lt' (show m < 256 by omega)]
      rw [List.cons_append, List.nil_append, rd_cons, e, if_pos (by omega), if_neg (by omega)]
      simp
    · rw [sevF_more h, List.cons_append, rd_cons]
      have e : ((UInt8.ofNat (m % 128 + 128)).toNat : Int) = ((m % 128 + 128 : Nat) : Int) := by rw [UInt8.toNat_ofNat_of_lt' (show m % 128 + 128 < 256 by omega)]
      have h8 : i ≠ 8 := by
        intro e8
        have : f = 0 := by omega
        subst this
        simp at hm
        omega
      rw [Nat.pow_succ] at hm
      rw [e, if_neg (by omega), if_neg h8, ih (i + 1) (m / 128) _ (by omega) (by omega) (fun _ => by omega) (by omega)]
      refine Prod.ext ?_ (Prod.ext ?_ rfl)
      · show _ + ((m / 128 : Nat) : Int) * 128 ^ (i + 1) = q + (m : Int) * 128 ^ i
        rw [Int.pow_succ]
        have e1 : ((m % 128 + 128 : Nat) : Int) - 128 = ((m % 128 : Nat) : Int) := by omega
        have e2 : (m : Int) = ((m % 128 : Nat) : Int) + ((m / 128 : Nat) : Int) * 128 := by omega
        rw [e1]
        conv => rhs; rw [e2, Int.add_mul, Int.mul_assoc, Int.mul_comm 128 (128 ^ i)]
        omega
      · show ((i + 1 + _ : Nat) : Int) = _
        simp only [List.length_cons]
        congr 1
        omega

/-- Num: what is taken is written just so. -/
theorem rdN_canon (z : Int) (l : List UInt8) (h : (rdN z l).2.2 = 0) : l = sev (rdN z l).1.toNat ++ (rdN z l).2.1 := by
  rcases rd_cases l 0 0 (by omega) (by omega) (by decide) with h' | h' | ⟨n, k, h', h2, h3, h4, h5, h6⟩
  · rw [rdN_bad h' (by decide)] at h; simp at h
  · rw [rdN_bad h' (by decide)] at h; simp at h
  · by_cases hm : max z 0 < n
    · rw [rdN_big h' hm] at h; simp at h
    · rw [rdN_ok h' hm]
      obtain ⟨m, e1, _, _, e4⟩ := rd_canon l 0 0 n k (by omega) h'
      have e : n.toNat = m := by rw [e1]; simp
      show l = sev n.toNat ++ l.drop k
      rw [e]
      simpa [sev] using e4
theorem rdT_canon (z : Int) (l : List UInt8) (h : (rdT z l).2.2 = 0) : l = (sev (rdT z l).1.length ++ (rdT z l).1) ++ (rdT z l).2.1 := by
  by_cases hx : (rdN z l).2.2 = 0
  · by_cases hs : ((rdN z l).2.1.length : Int) < (rdN z l).1
    · rw [rdT_short hx hs] at h; simp at h
    · rw [rdT_ok hx hs]
      have hc := rdN_canon z l hx
      have hf := rdN_facts z l
      show l = (sev ((rdN z l).2.1.take (rdN z l).1.toNat).length ++ (rdN z l).2.1.take (rdN z l).1.toNat) ++ (rdN z l).2.1.drop (rdN z l).1.toNat
      have e : ((rdN z l).2.1.take (rdN z l).1.toNat).length = (rdN z l).1.toNat := by rw [List.length_take]; omega
      rw [e, List.append_assoc, List.take_append_drop]
      exact hc
  · rw [rdT_err hx] at h; exact absurd h hx
/-- What is laid is read by the same calls. -/
theorem rdN_sev (m : Nat) (rest : List UInt8) (hm : m < 9223372036854775808) : rdN (m : Int) (sev m ++ rest) = ((m : Int), rest, 0) := by
  have h := rd_sev 9 0 m 0 rest rfl (by omega) (fun h => by omega) (by omega)
  have h' : rd 0 0 (sev m ++ rest) = ((m : Int), ((sev m).length : Int), 0) := by
    have e : sev m = sevF 9 m := rfl
    rw [e, h]; simp
  rw [rdN_ok h' (by omega)]
  simp
theorem rdT_sev (t rest : List UInt8) (hm : t.length < 9223372036854775808) : rdT (t.length : Int) ((sev t.length ++ t) ++ rest) = (t, rest, 0) := by
  have h := rdN_sev t.length (t ++ rest) hm
  rw [List.append_assoc, rdT_ok (by rw [h]) (by rw [h]; simp; omega)]
  rw [h]
  simp
theorem sev_zero : sev 0 = [0] := by decide
end Go.Proofs.YthjjkhacniebiaaGreat

namespace Go.Proofs.YthjjkhacniebiaaGreat
open Go.RowKit

structure Pg where
  lsn : Int
  kind : Int
  level : Int
  right : Int
  high : ByteArray
  items : List ByteArray

abbrev bl (s : ByteArray) : List UInt8 := s.data.toList
theorem bl_len (s : ByteArray) : (bl s).length = s.size := by rw [Array.length_toList]; rfl
def str (l : List UInt8) : ByteArray := ⟨l.toArray⟩
theorem bl_str (l : List UInt8) : bl (str l) = l := rfl
theorem str_bl (s : ByteArray) : str (bl s) = s := by obtain ⟨⟨l⟩⟩ := s; rfl
theorem str_size (l : List UInt8) : (str l).size = l.length := rfl
/-- The bytes that items need. -/
def isz (l : List ByteArray) : Nat := (l.map fun s => 2 + s.size).sum
theorem isz_nil : isz [] = 0 := rfl
theorem isz_cons (s : ByteArray) (l : List ByteArray) : isz (s :: l) = 2 + s.size + isz l := by simp [isz]
theorem isz_app (l m : List ByteArray) : isz (l ++ m) = isz l + isz m := by simp [isz]
theorem isz_snoc (l : List ByteArray) (k : Nat) (h : k < l.length) : isz (l.take (k + 1)) = isz (l.take k) + (2 + l[k].size) := by
  rw [List.take_succ_eq_append_getElem h, isz_app, isz_cons, isz_nil, Nat.add_zero]
def Pg.size (p : Pg) : Nat := 20 + p.high.size + isz p.items
def u8 (n : Int) : UInt8 := UInt8.ofNat n.toNat
def itemsL (l : List ByteArray) : List UInt8 := (l.map fun s => bigF 2 s.size ++ bl s).flatten
theorem itemsL_nil : itemsL [] = [] := rfl
theorem itemsL_cons (s : ByteArray) (l : List ByteArray) : itemsL (s :: l) = bigF 2 s.size ++ bl s ++ itemsL l := by simp [itemsL]
theorem itemsL_app (l m : List ByteArray) : itemsL (l ++ m) = itemsL l ++ itemsL m := by simp [itemsL]
theorem itemsL_len (l : List ByteArray) : (itemsL l).length = isz l := by
  induction l with
  | nil => rfl
  | cons s l ih => rw [itemsL_cons, isz_cons]; simp only [List.length_append, bigF_len, bl_len, ih]
theorem itemsL_snoc (l : List ByteArray) (k : Nat) (h : k < l.length) : itemsL (l.take (k + 1)) = itemsL (l.take k) ++ (bigF 2 l[k].size ++ bl l[k]) := by
  rw [List.take_succ_eq_append_getElem h, itemsL_app, itemsL_cons, itemsL_nil, List.append_nil]
/-- The bytes between the sum and High. -/
def Pg.head (p : Pg) : List UInt8 := bigF 8 p.lsn.toNat ++ (u8 p.kind :: u8 p.level :: (bigF 4 p.right.toNat ++ [UInt8.ofNat p.items.length, UInt8.ofNat p.high.size]))
theorem head_len (p : Pg) : p.head.length = 16 := by simp [Pg.head, bigF_len]
def Pg.front (p : Pg) : List UInt8 := p.head ++ (bl p.high ++ itemsL p.items)
theorem front_len (p : Pg) : p.front.length + 4 = p.size := by
  simp only [Pg.front, List.length_append, head_len, bl_len, itemsL_len, Pg.size]; omega
def Pg.body (p : Pg) : List UInt8 := p.front ++ List.replicate (512 - p.size) 0
def Pg.enc (p : Pg) : List UInt8 := bigF 4 (sum p.body).toNat ++ p.body
theorem body_len (p : Pg) (h : p.size ≤ 512) : p.body.length = 508 := by
  have := front_len p
  simp only [Pg.body, List.length_append, List.length_replicate]; omega
theorem enc_len (p : Pg) (h : p.size ≤ 512) : p.enc.length = 512 := by
  simp only [Pg.enc, List.length_append, bigF_len, body_len p h]
def Pg.inRange (p : Pg) : Prop := 0 ≤ p.lsn ∧ 1 ≤ p.kind ∧ p.kind ≤ 3 ∧ 0 ≤ p.level ∧ p.level ≤ 255 ∧ 0 ≤ p.right ∧ p.right ≤ 4294967295
def Pg.fits (p : Pg) : Prop := p.high.size ≤ 255 ∧ p.items.length ≤ 255 ∧ p.size ≤ 512
structure Pg.valid (p : Pg) : Prop where
  rng : p.inRange
  fit : p.fits
  lsn : p.lsn < 9223372036854775808

theorem ofTo_app (l : List UInt8) (b : UInt8) : ofTo (l ++ [b]) = (ofTo l * 256 + (b.toNat : Int)) % 18446744073709551616 := ofTo_snoc l b
theorem ofTo_small (l : List UInt8) (h : l.length ≤ 8) : 0 ≤ ofTo l ∧ ofTo l < 256 ^ l.length := by
  induction hn : l.length generalizing l with
  | zero => have : l = [] := List.eq_nil_of_length_eq_zero hn; subst this; exact ⟨by decide, by decide⟩
  | succ n ih =>
    rcases List.eq_nil_or_concat l with rfl | ⟨l', b, rfl⟩
    · simp at hn
    · rw [List.concat_eq_append] at hn h ⊢
      have hl : l'.length = n := by simpa using hn
      have h1 := ih l' (by simp at h; omega) hl
      have hb := b.toNat_lt
      rw [ofTo_snoc]
      have hp : (256 : Int) ^ (n + 1) = 256 ^ n * 256 := Int.pow_succ 256 n
      have hle : (256 : Int) ^ n ≤ 72057594037927936 := by
        have : n ≤ 7 := by simp at h; omega
        have hc : n = 0 ∨ n = 1 ∨ n = 2 ∨ n = 3 ∨ n = 4 ∨ n = 5 ∨ n = 6 ∨ n = 7 := by omega
        rcases hc with rfl | rfl | rfl | rfl | rfl | rfl | rfl | rfl <;> decide
      rw [hp]
      rw [Int.emod_eq_of_lt (by omega) (by omega)]
      omega
theorem ofTo_big (k n : Nat) (hk : k ≤ 8) (hn : n < 256 ^ k) : ofTo (bigF k n) = n := by
  induction k generalizing n with
  | zero => simp at hn; subst hn; rfl
  | succ k ih =>
    rw [bigF, ofTo_snoc, ih (n / 256) (by omega) (by rw [Nat.pow_succ] at hn; omega), byte_nat (by omega)]
    have hle : n < 18446744073709551616 := by
      have : k ≤ 7 := by omega
      have hc : k = 0 ∨ k = 1 ∨ k = 2 ∨ k = 3 ∨ k = 4 ∨ k = 5 ∨ k = 6 ∨ k = 7 := by omega
      rcases hc with rfl | rfl | rfl | rfl | rfl | rfl | rfl | rfl <;> simp at hn <;> omega
    omega
theorem big_ofTo (l : List UInt8) (h : l.length ≤ 8) : bigF l.length (ofTo l).toNat = l := by
  induction hn : l.length generalizing l with
  | zero => have : l = [] := List.eq_nil_of_length_eq_zero hn; subst this; rfl
  | succ n ih =>
    rcases List.eq_nil_or_concat l with rfl | ⟨l', b, rfl⟩
    · simp at hn
    · rw [List.concat_eq_append] at hn h ⊢
      have hl : l'.length = n := by simpa using hn
      have h1 := ih l' (by simp at h; omega) hl
      have hs := ofTo_small l' (by simp at h; omega)
      rw [hl] at hs
      have hb := b.toNat_lt
      have hle : (256 : Int) ^ n ≤ 72057594037927936 := by
        have : n ≤ 7 := by simp at h; omega
        have hc : n = 0 ∨ n = 1 ∨ n = 2 ∨ n = 3 ∨ n = 4 ∨ n = 5 ∨ n = 6 ∨ n = 7 := by omega
        rcases hc with rfl | rfl | rfl | rfl | rfl | rfl | rfl | rfl <;> decide
      rw [ofTo_snoc, Int.emod_eq_of_lt (by omega) (by omega), bigF]
      have e1 : (ofTo l' * 256 + (b.toNat : Int)).toNat / 256 = (ofTo l').toNat := by omega
      have e2 : (ofTo l' * 256 + (b.toNat : Int)).toNat % 256 = b.toNat := by omega
      rw [e1, e2, h1, UInt8.ofNat_toNat]

/-- So many items that bytes begin with, and what is behind them. -/
def takeI : Nat → List UInt8 → Option (List ByteArray × List UInt8)
  | 0, d => some ([], d)
  | k + 1, d =>
    if d.length < 2 then none
    else if (d.drop 2).length < (ofTo (d.take 2)).toNat then none
    else match takeI k ((d.drop 2).drop (ofTo (d.take 2)).toNat) with
      | none => none
      | some (l, r) => some (str ((d.drop 2).take (ofTo (d.take 2)).toNat) :: l, r)
def more (a : List ByteArray) : Option (List ByteArray × List UInt8) → Option (List ByteArray × List UInt8)
  | none => none
  | some (l, r) => some (a ++ l, r)
theorem more_nil (o : Option (List ByteArray × List UInt8)) : more [] o = o := by cases o <;> rfl
theorem takeI_short {k : Nat} {d : List UInt8} (a : List ByteArray) (h : d.length < 2) : more a (takeI (k + 1) d) = none := by rw [takeI, if_pos h]; rfl
theorem takeI_long {k : Nat} {d : List UInt8} (a : List ByteArray) (h : ¬ d.length < 2) (h2 : (d.drop 2).length < (ofTo (d.take 2)).toNat) : more a (takeI (k + 1) d) = none := by rw [takeI, if_neg h, if_pos h2]; rfl
theorem takeI_next {k : Nat} {d : List UInt8} (a : List ByteArray) (h : ¬ d.length < 2) (h2 : ¬ (d.drop 2).length < (ofTo (d.take 2)).toNat) :
    more a (takeI (k + 1) d) = more (a ++ [str ((d.drop 2).take (ofTo (d.take 2)).toNat)]) (takeI k ((d.drop 2).drop (ofTo (d.take 2)).toNat)) := by
  rw [takeI, if_neg h, if_neg h2]
  cases takeI k ((d.drop 2).drop (ofTo (d.take 2)).toNat) with
  | none => rfl
  | some q => simp [more]
/-- What is taken is what is laid. -/
theorem takeI_back (k : Nat) (d : List UInt8) (l : List ByteArray) (r : List UInt8) (h : takeI k d = some (l, r)) : d = itemsL l ++ r ∧ l.length = k := by
  induction k generalizing d l with
  | zero => simp [takeI] at h; obtain ⟨rfl, rfl⟩ := h; exact ⟨rfl, rfl⟩
  | succ k ih =>
    rw [takeI] at h
    split at h
    · cases h
    · rename_i h1
      split at h
      · cases h
      · rename_i h2
        split at h
        · cases h
        · rename_i l' r' he
          injection h with h
          injection h with hl hr
          subst hr
          obtain ⟨e, hk⟩ := ih _ _ he
          subst hl
          refine ⟨?_, by simp [hk]⟩
          have h2' : (d.take 2).length = 2 := by simp; omega
          have hb := big_ofTo (d.take 2) (by omega)
          rw [h2'] at hb
          rw [itemsL_cons, str_size, bl_str]
          have hsz : ((d.drop 2).take (ofTo (d.take 2)).toNat).length = (ofTo (d.take 2)).toNat := by rw [List.length_take]; omega
          rw [hsz, hb, List.append_assoc, List.append_assoc, ← e, List.take_append_drop, List.take_append_drop]
theorem takeI_laid (l : List ByteArray) (r : List UInt8) (h : ∀ s ∈ l, s.size < 65536) : takeI l.length (itemsL l ++ r) = some (l, r) := by
  induction l with
  | nil => rfl
  | cons s l ih =>
    have hs := h s (by simp)
    have e : itemsL (s :: l) ++ r = bigF 2 s.size ++ (bl s ++ (itemsL l ++ r)) := by rw [itemsL_cons]; simp
    have ht : (itemsL (s :: l) ++ r).take 2 = bigF 2 s.size := by rw [e]; exact List.take_left' (bigF_len _ _)
    have hd : (itemsL (s :: l) ++ r).drop 2 = bl s ++ (itemsL l ++ r) := by rw [e]; exact List.drop_left' (bigF_len _ _)
    have hn : (ofTo (bigF 2 s.size)).toNat = s.size := by rw [ofTo_big 2 s.size (by omega) (by simpa using hs)]; rfl
    rw [List.length_cons, takeI, ht, hd, hn, List.drop_left' (bl_len s), List.take_left' (bl_len s), ih (fun t ht => h t (by simp [ht]))]
    rw [if_neg (by rw [e]; simp [bigF_len]), if_neg (by simp)]
    simp [str_bl]
/-- What stands in the bytes behind the sum, read without a look at what may be. -/
def pre (D : List UInt8) : Option (Pg × List UInt8) :=
  match takeI (D.getD 14 0).toNat ((D.drop 16).drop (D.getD 15 0).toNat) with
  | none => none
  | some (l, r) => some (⟨ofTo (D.take 8) % 9223372036854775808, (D.getD 8 0).toNat, (D.getD 9 0).toNat, ofTo ((D.drop 10).take 4) % 9223372036854775808, str ((D.drop 16).take (D.getD 15 0).toNat), l⟩, r)
end Go.Proofs.YthjjkhacniebiaaGreat

namespace Go.Proofs.YthjjkhacniebiaaGreat
open Go.RowKit

/-- A version as plain data. -/
structure Tu where
  xmin : Int
  xmax : Int
  frozen : Bool
  key : ByteArray
  value : ByteArray
theorem Tu.ext' {a b : Tu} (h1 : a.xmin = b.xmin) (h2 : a.xmax = b.xmax) (h3 : a.frozen = b.frozen) (h4 : a.key = b.key) (h5 : a.value = b.value) : a = b := by
  cases a; cases b; simp_all
def okK (k : ByteArray) : Bool := decide (1 ≤ k.size ∧ k.size ≤ 24)
theorem okK_iff {k : ByteArray} : okK k = true ↔ 1 ≤ k.size ∧ k.size ≤ 24 := by unfold okK; simp
def Tu.ok (t : Tu) : Bool := decide (1 ≤ t.xmin ∧ t.xmin ≤ 1024 ∧ 0 ≤ t.xmax ∧ t.xmax ≤ 1024 ∧ 1 ≤ t.key.size ∧ t.key.size ≤ 24 ∧ t.value.size ≤ 64)
theorem Tu.ok_iff {t : Tu} : t.ok = true ↔ (1 ≤ t.xmin ∧ t.xmin ≤ 1024 ∧ 0 ≤ t.xmax ∧ t.xmax ≤ 1024 ∧ 1 ≤ t.key.size ∧ t.key.size ≤ 24 ∧ t.value.size ≤ 64) := by unfold Tu.ok; simp
theorem Tu.ok_key {t : Tu} (h : t.ok = true) : okK t.key = true := by
  rw [Tu.ok_iff] at h
  rw [okK_iff]
  omega
/-- A text as it is laid. -/
def txL (s : ByteArray) : List UInt8 := sev s.size ++ s.data.toList
/-- A version's first byte. -/
def mkB (b : Bool) : UInt8 := if b then 3 else 1
/-- A version's bytes. -/
def Tu.enc (t : Tu) : List UInt8 := mkB t.frozen :: (bigF 2 t.xmin.toNat ++ (bigF 2 t.xmax.toNat ++ (txL t.key ++ txL t.value)))
/-- Two texts read one behind the other: both, what is left, what is wrong. -/
def rdTT (l : List UInt8) : List UInt8 × List UInt8 × List UInt8 × Int :=
  if (rdT 24 l).2.2 = 0 then ((rdT 24 l).1, (rdT 64 (rdT 24 l).2.1).1, (rdT 64 (rdT 24 l).2.1).2.1, (rdT 64 (rdT 24 l).2.1).2.2) else ((rdT 24 l).1, [], (rdT 24 l).2.1, (rdT 24 l).2.2)
/-- What is wrong at the end. -/
def endE (l : List UInt8) (x : Int) : Int := if x = 0 then (if l.length = 0 then 0 else 12) else x
/-- What stands in bytes that may be a version's. -/
def rawT (l : List UInt8) : Tu := ⟨ofTo ((l.drop 1).take 2), ofTo ((l.drop 3).take 2), l.head? == some 3, str (rdTT (l.drop 5)).1, str (rdTT (l.drop 5)).2.1⟩
def marked (l : List UInt8) : Bool := l.head? == some 1 || l.head? == some 3
def headed (l : List UInt8) : Bool := decide (5 ≤ l.length) && marked l
def endT (l : List UInt8) : Int := endE (rdTT l).2.2.1 (rdTT l).2.2.2
def goodT (l : List UInt8) : Bool := headed l && (endT (l.drop 5) == 0 && (rawT l).ok)
/-- The version of bytes. -/
def decT (l : List UInt8) : Option Tu := if goodT l then some (rawT l) else none
def noT : Tu := ⟨0, 0, false, ⟨#[]⟩, ⟨#[]⟩⟩
/-- What a dead slot holds. -/
def dlay (k : ByteArray) : List UInt8 := 4 :: txL k
def endD (l : List UInt8) : Int := endE (rdT 24 l).2.1 (rdT 24 l).2.2
def deadK (l : List UInt8) : Option ByteArray := if l.head? = some 4 ∧ endD (l.drop 1) = 0 ∧ okK (str (rdT 24 (l.drop 1)).1) = true then some (str (rdT 24 (l.drop 1)).1) else none
def keyT (l : List UInt8) : Option ByteArray := match decT l with | some t => some t.key | none => deadK l
/-- A slot's state. -/
def stT (l : List UInt8) : Int := if (decT l).isSome then 3 else if (deadK l).isSome then 2 else if l = [] then 1 else 0

theorem endE_zero {l : List UInt8} {x : Int} (h : endE l x = 0) : x = 0 ∧ l = [] := by
  unfold endE at h
  split at h
  · split at h
    · exact ⟨by assumption, List.eq_nil_of_length_eq_zero (by assumption)⟩
    · simp at h
  · contradiction
theorem rdN_upto (z : Int) (m : Nat) (rest : List UInt8) (hm : m < 9223372036854775808) (hz : (m : Int) ≤ z) : rdN z (sev m ++ rest) = ((m : Int), rest, 0) := by
  have h := rd_sev 9 0 m 0 rest rfl (by omega) (fun h => by omega) (by omega)
  have h' : rd 0 0 (sev m ++ rest) = ((m : Int), ((sev m).length : Int), 0) := by
    have e : sev m = sevF 9 m := rfl
    rw [e, h]; simp
  rw [rdN_ok h' (by omega)]
  simp
theorem rdT_upto (z : Int) (s : ByteArray) (rest : List UInt8) (hm : s.size < 9223372036854775808) (hz : (s.size : Int) ≤ z) : rdT z (txL s ++ rest) = (bl s, rest, 0) := by
  have h := rdN_upto z s.size (bl s ++ rest) hm hz
  have hl := bl_len s
  unfold txL
  rw [List.append_assoc]
  rw [show s.data.toList = bl s from rfl]
  rw [rdT_ok (by rw [h]) (by rw [h]; simp; omega)]
  rw [h]
  rw [show ((s.size : Int)).toNat = (bl s).length by omega, List.take_left, List.drop_left]
theorem sev_one (n : Nat) (h : n < 128) : (sev n).length = 1 := by
  unfold sev
  rw [sevF_end h]
  rfl
theorem txL_len (s : ByteArray) (h : s.size < 128) : (txL s).length = 1 + s.size := by
  unfold txL
  rw [List.length_append, sev_one _ h, show s.data.toList = bl s from rfl, bl_len]
theorem rdT_txL {z : Int} {l : List UInt8} (h : (rdT z l).2.2 = 0) : l = txL (str (rdT z l).1) ++ (rdT z l).2.1 := by
  have := rdT_canon z l h
  unfold txL
  rw [str_size]
  exact this
theorem mkB_head (b : Bool) (l : List UInt8) : headed (mkB b :: l) = decide (4 ≤ l.length) := by
  unfold headed marked mkB
  cases b <;> simp
theorem dec_encT {t : Tu} (h : t.ok = true) : decT t.enc = some t := by
  have h' := Tu.ok_iff.1 h
  have l1 := bigF_len 2 t.xmin.toNat
  have l2 := bigF_len 2 t.xmax.toNat
  have d5 : t.enc.drop 5 = txL t.key ++ txL t.value := by
    unfold Tu.enc
    rw [List.drop_succ_cons, ← List.append_assoc, List.drop_append_of_le_length (by simp; omega), List.drop_of_length_le (by simp; omega), List.nil_append]
  have d1 : (t.enc.drop 1).take 2 = bigF 2 t.xmin.toNat := by
    unfold Tu.enc
    rw [List.drop_succ_cons, List.drop_zero, List.take_append_of_le_length (by omega), List.take_of_length_le (by omega)]
  have d3 : (t.enc.drop 3).take 2 = bigF 2 t.xmax.toNat := by
    unfold Tu.enc
    rw [List.drop_succ_cons, List.drop_append_of_le_length (by omega), List.drop_of_length_le (by omega), List.nil_append, List.take_append_of_le_length (by omega), List.take_of_length_le (by omega)]
  have t1 : rdT 24 (t.enc.drop 5) = (bl t.key, txL t.value, 0) := by
    rw [d5]
    exact rdT_upto 24 t.key _ (by omega) (by omega)
  have t2 : rdT 64 (txL t.value) = (bl t.value, [], 0) := by
    have := rdT_upto 64 t.value [] (by omega) (by omega)
    rwa [List.append_nil] at this
  have tt : rdTT (t.enc.drop 5) = (bl t.key, bl t.value, [], 0) := by
    unfold rdTT
    rw [t1]
    simp only [if_pos]
    rw [t2]
  have hr : rawT t.enc = t := by
    unfold rawT
    rw [d1, d3, tt, ofTo_big 2 _ (by omega) (by omega), ofTo_big 2 _ (by omega) (by omega)]
    simp only [str_bl]
    refine Tu.ext' ?_ ?_ ?_ rfl rfl
    · simp; omega
    · simp; omega
    · simp only [Tu.enc, mkB, List.head?_cons]
      cases t.frozen <;> rfl
  have hh : headed t.enc = true := by
    unfold Tu.enc
    rw [mkB_head]
    simp only [List.length_append, decide_eq_true_eq]
    omega
  unfold decT goodT
  rw [hr, hh, h]
  unfold endT
  rw [tt]
  rfl
theorem list5 {l : List UInt8} (h : 5 ≤ l.length) : ∃ a b c d e r, l = a :: b :: c :: d :: e :: r := by
  match l, h with
  | a :: b :: c :: d :: e :: r, _ => exact ⟨a, b, c, d, e, r, rfl⟩
theorem enc_decT {l : List UInt8} {t : Tu} (h : decT l = some t) : t.ok = true ∧ t.enc = l ∧ headed l = true := by
  unfold decT at h
  split at h
  · rename_i hg
    simp only [Option.some.injEq] at h
    subst h
    unfold goodT at hg
    simp only [Bool.and_eq_true, beq_iff_eq] at hg
    obtain ⟨hh, he, hok⟩ := hg
    refine ⟨hok, ?_, hh⟩
    unfold headed at hh
    simp only [Bool.and_eq_true, decide_eq_true_eq] at hh
    obtain ⟨h5, hm⟩ := hh
    obtain ⟨a, b, c, d, e, r, rfl⟩ := list5 h5
    obtain ⟨hx, hl⟩ := endE_zero he
    simp only [List.drop_succ_cons, List.drop_zero] at hx hl
    have hq : r = txL (str (rdTT r).1) ++ txL (str (rdTT r).2.1) := by
      unfold rdTT at hx hl ⊢
      by_cases h0 : (rdT 24 r).2.2 = 0
      · rw [if_pos h0] at hx hl ⊢
        simp only at hx hl ⊢
        have e1 := rdT_txL h0
        have e2 := rdT_txL hx
        rw [hl, List.append_nil] at e2
        rw [← e2]
        exact e1
      · rw [if_neg h0] at hx
        exact absurd hx h0
    have b1 := big_ofTo [b, c] (by simp)
    have b2 := big_ofTo [d, e] (by simp)
    simp only [List.length_cons, List.length_nil] at b1 b2
    unfold Tu.enc rawT
    simp only [List.drop_succ_cons, List.drop_zero, List.take_succ_cons, List.take_zero, List.head?_cons]
    rw [← hq, b1, b2]
    unfold marked at hm
    simp only [List.head?_cons] at hm
    simp only [List.cons_append, List.nil_append, List.cons.injEq, and_true]
    unfold mkB
    by_cases ha : a = 3
    · subst ha; rfl
    · have : a = 1 := by simpa [ha] using hm
      subst this; rfl
  · cases h
theorem dead_lay {k : ByteArray} (h : okK k = true) : deadK (dlay k) = some k := by
  have h' := okK_iff.1 h
  have t1 : rdT 24 ((dlay k).drop 1) = (bl k, [], 0) := by
    have := rdT_upto 24 k [] (by omega) (by omega)
    rwa [List.append_nil] at this
  unfold deadK endD
  rw [t1]
  rw [if_pos ⟨rfl, rfl, by simpa [str_bl] using h⟩]
  simp [str_bl]
theorem lay_dead {l : List UInt8} {k : ByteArray} (h : deadK l = some k) : okK k = true ∧ dlay k = l ∧ l.head? = some 4 := by
  unfold deadK at h
  split at h
  · rename_i hc
    obtain ⟨h0, h1, h2⟩ := hc
    simp only [Option.some.injEq] at h
    subst h
    refine ⟨h2, ?_, h0⟩
    obtain ⟨hx, hl⟩ := endE_zero h1
    have e1 := rdT_txL hx
    rw [hl, List.append_nil] at e1
    unfold dlay
    rw [← e1]
    cases l with
    | nil => simp at h0
    | cons a r =>
      simp only [List.head?_cons, Option.some.injEq] at h0
      subst h0
      rfl
  · cases h
theorem headed_four {l : List UInt8} (h : headed l = true) : l.head? ≠ some 4 := by
  unfold headed marked at h
  intro e
  rw [e] at h
  simp at h
theorem headed_nil {l : List UInt8} (h : headed l = true) : l ≠ [] := by
  rintro rfl
  simp [headed] at h
theorem dec_dead {l : List UInt8} {t : Tu} (h : decT l = some t) : deadK l = none := by
  cases hd : deadK l with
  | none => rfl
  | some k => exact absurd (lay_dead hd).2.2 (headed_four (enc_decT h).2.2)
theorem dead_dec {l : List UInt8} {k : ByteArray} (h : deadK l = some k) : decT l = none := by
  cases hd : decT l with
  | none => rfl
  | some t => rw [dec_dead hd] at h; cases h
theorem enc_lenT {t : Tu} (h : t.ok = true) : t.enc.length = 7 + t.key.size + t.value.size := by
  have h' := Tu.ok_iff.1 h
  have l1 := bigF_len 2 t.xmin.toNat
  have l2 := bigF_len 2 t.xmax.toNat
  have l3 := txL_len t.key (by omega)
  have l4 := txL_len t.value (by omega)
  unfold Tu.enc
  simp only [List.length_cons, List.length_append]
  omega
theorem enc_injT {a b : Tu} (ha : a.ok = true) (hb : b.ok = true) (h : a.enc = b.enc) : a = b := by
  have e1 := dec_encT ha
  rw [h, dec_encT hb] at e1
  simpa using e1.symm
end Go.Proofs.YthjjkhacniebiaaGreat
