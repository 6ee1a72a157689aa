/- Which page bytes are: read, and laid again. -/
import Derived.Test.YthjjkhacniebiaaGreatK05
namespace Go.Proofs.YthjjkhacniebiaaGreat
open Go.RowKit

theorem ofTo_cons (b : UInt8) (l : List UInt8) (h : l.length ≤ 7) : ofTo (b :: l) = (b.toNat : Int) * 256 ^ l.length + ofTo l := by
  have hb := b.toNat_lt
  induction hn : l.length generalizing l with
  | zero =>
    have : l = [] := List.eq_nil_of_length_eq_zero hn
    subst this
    simp [ofTo]
    omega
  | succ n ih =>
    rcases List.eq_nil_or_concat l with rfl | ⟨l', c, rfl⟩
    · simp at hn
    · rw [List.concat_eq_append] at hn h ⊢
      have hl : l'.length = n := by simpa using hn
      have h1 := ih l' (by simp at h; omega) hl
      have hs := ofTo_small l' (by simp at h; omega)
      rw [hl] at hs
      have hc := c.toNat_lt
      have hle : (256 : Int) ^ n ≤ 281474976710656 := by
        have : n ≤ 6 := by simp at h; omega
        have hc : n = 0 ∨ n = 1 ∨ n = 2 ∨ n = 3 ∨ n = 4 ∨ n = 5 ∨ n = 6 := by omega
        rcases hc with rfl | rfl | rfl | rfl | rfl | rfl | rfl <;> decide
      have hp : (256 : Int) ^ (n + 1) = 256 ^ n * 256 := Int.pow_succ 256 n
      have e : b :: (l' ++ [c]) = (b :: l') ++ [c] := rfl
      rw [e, ofTo_snoc, ofTo_snoc, h1, hp]
      have hbp : (0 : Int) ≤ (b.toNat : Int) * 256 ^ n ∧ (b.toNat : Int) * 256 ^ n ≤ 255 * 256 ^ n := by
        constructor
        · exact Int.mul_nonneg (by omega) (by omega)
        · exact Int.mul_le_mul_of_nonneg_right (by omega) (by omega)
      have e2 : (b.toNat : Int) * (256 ^ n * 256) = (b.toNat : Int) * 256 ^ n * 256 := by rw [Int.mul_assoc]
      rw [e2]
      generalize (b.toNat : Int) * 256 ^ n = y at *
      rw [Int.emod_eq_of_lt (by omega) (by omega), Int.emod_eq_of_lt (by omega) (by omega)]
      omega
theorem top8 (l : List UInt8) (h : l.length = 8) : (l.getD 0 0).toNat ≤ 127 ↔ ofTo l < 9223372036854775808 := by
  match l, h with
  | b :: t, h =>
    have ht : t.length = 7 := by simpa using h
    have hs := ofTo_small t (by omega)
    rw [ht] at hs
    rw [ofTo_cons b t (by omega), ht]
    simp at hs ⊢
    omega
theorem big8 (l : List UInt8) (h : l.length = 8) : (l.getD 0 0).toNat ≤ 127 ↔ bigF 8 (ofTo l % 9223372036854775808).toNat = l := by
  have hs := ofTo_bd l
  have hb := big_ofTo l (by omega)
  rw [h] at hb
  constructor
  · intro h1
    rw [top8 l h] at h1
    rw [Int.emod_eq_of_lt hs.1 h1, hb]
  · intro h1
    rw [top8 l h]
    have h2 := ofTo_big 8 (ofTo l % 9223372036854775808).toNat (by omega) (by omega)
    rw [h1] at h2
    omega
theorem parts_of (a b rest : List UInt8) (x y u v : UInt8) (ha : a.length = 8) (hb : b.length = 4) :
    (a ++ (x :: y :: (b ++ (u :: v :: rest)))).take 8 = a ∧ (a ++ (x :: y :: (b ++ (u :: v :: rest)))).getD 8 0 = x ∧ (a ++ (x :: y :: (b ++ (u :: v :: rest)))).getD 9 0 = y ∧ ((a ++ (x :: y :: (b ++ (u :: v :: rest)))).drop 10).take 4 = b ∧
    (a ++ (x :: y :: (b ++ (u :: v :: rest)))).getD 14 0 = u ∧ (a ++ (x :: y :: (b ++ (u :: v :: rest)))).getD 15 0 = v ∧ (a ++ (x :: y :: (b ++ (u :: v :: rest)))).drop 16 = rest := by
  match a, ha with
  | [_, _, _, _, _, _, _, _], _ =>
    match b, hb with
    | [_, _, _, _], _ => exact ⟨rfl, rfl, rfl, rfl, rfl, rfl, rfl⟩
theorem whole16 (D : List UInt8) (h : 16 ≤ D.length) : D = D.take 8 ++ (D.getD 8 0 :: D.getD 9 0 :: ((D.drop 10).take 4 ++ (D.getD 14 0 :: D.getD 15 0 :: D.drop 16))) := by
  match D, h with
  | _ :: _ :: _ :: _ :: _ :: _ :: _ :: _ :: _ :: _ :: _ :: _ :: _ :: _ :: _ :: _ :: _, _ => rfl
theorem u8_nat (b : UInt8) : u8 (b.toNat : Int) = b := by unfold u8; rw [Int.toNat_natCast, UInt8.ofNat_toNat]
theorem u8_to (n : Int) (h0 : 0 ≤ n) (h1 : n < 256) : ((u8 n).toNat : Int) = n := by unfold u8; rw [byte_nat (by omega)]; omega

structure PreIs (D : List UInt8) (p : Pg) (r : List UInt8) : Prop where
  kind : p.kind = (D.getD 8 0).toNat
  level : p.level = (D.getD 9 0).toNat
  lsn : p.lsn = ofTo (D.take 8) % 9223372036854775808
  right : p.right = ofTo ((D.drop 10).take 4)
  many : p.items.length = (D.getD 14 0).toNat
  high : p.high.size = (D.getD 15 0).toNat
  rest : D.drop 16 = bl p.high ++ itemsL p.items ++ r
  size : p.size + r.length = 512
theorem pre_is (D : List UInt8) (p : Pg) (r : List UInt8) (hD : D.length = 508) (h : pre D = some (p, r)) : PreIs D p r := by
  unfold pre at h
  split at h
  · cases h
  · rename_i l r' he
    injection h with h
    injection h with hp hr
    subst hr
    obtain ⟨e, hk⟩ := takeI_back _ _ _ _ he
    have h15 := (D.getD 15 0).toNat_lt
    have hd : (D.drop 16).length = 492 := by simp [hD]
    have h4 : ((D.drop 10).take 4).length = 4 := by simp [hD]
    have hs := ofTo_small ((D.drop 10).take 4) (by omega)
    rw [h4] at hs
    have hr : D.drop 16 = bl p.high ++ itemsL p.items ++ r' := by
      subst hp
      rw [List.append_assoc, ← e, bl_str, List.take_append_drop]
    have hh : p.high.size = (D.getD 15 0).toNat := by subst hp; rw [str_size, List.length_take]; omega
    have hl := congrArg List.length hr
    rw [hd] at hl
    simp only [List.length_append, bl_len, itemsL_len] at hl
    refine ⟨by subst hp; rfl, by subst hp; rfl, by subst hp; rfl, ?_, by subst hp; exact hk, hh, hr, by unfold Pg.size; omega⟩
    subst hp
    simp at hs
    exact Int.emod_eq_of_lt (by omega) (by omega)
theorem PreIs.fits {D : List UInt8} {p : Pg} {r : List UInt8} (h : PreIs D p r) : p.fits := by
  have h14 := (D.getD 14 0).toNat_lt
  have h15 := (D.getD 15 0).toNat_lt
  have := h.many
  have := h.high
  have := h.size
  exact ⟨by omega, by omega, by omega⟩
/-- What is read may be, and is laid as what was read, just if it begins and ends as it must. -/
theorem PreIs.iff {D : List UInt8} {p : Pg} {r : List UInt8} (hD : D.length = 508) (h : PreIs D p r) : (p.inRange ∧ p.body = D) ↔ ((D.getD 0 0).toNat ≤ 127 ∧ (1 ≤ p.kind ∧ p.kind ≤ 3) ∧ r = List.replicate r.length 0) := by
  have h8 := (D.getD 8 0).toNat_lt
  have h9 := (D.getD 9 0).toNat_lt
  have ht8 : (D.take 8).length = 8 := by simp [hD]
  have ht4 : ((D.drop 10).take 4).length = 4 := by simp [hD]
  have hs4 := ofTo_small ((D.drop 10).take 4) (by omega)
  rw [ht4] at hs4
  simp at hs4
  have hl0 := ofTo_bd (D.take 8)
  have eg : (D.take 8).getD 0 0 = D.getD 0 0 := by match D, hD with | _ :: _, _ => rfl
  have e8 := big8 (D.take 8) ht8
  rw [eg, ← h.lsn] at e8
  have hw := whole16 D (by omega)
  have hrng : (1 ≤ p.kind ∧ p.kind ≤ 3) → p.inRange := by
    intro hk
    have h1 := h.lsn; have h2 := h.level; have h3 := h.right
    exact ⟨by omega, hk.1, hk.2, by omega, by omega, by omega, by omega⟩
  have hb4 : bigF 4 p.right.toNat = (D.drop 10).take 4 := by
    have := big_ofTo ((D.drop 10).take 4) (by omega)
    rw [ht4] at this
    rw [h.right]; exact this
  have hfront : p.front = bigF 8 p.lsn.toNat ++ (D.getD 8 0 :: D.getD 9 0 :: ((D.drop 10).take 4 ++ (D.getD 14 0 :: D.getD 15 0 :: (bl p.high ++ itemsL p.items)))) := by
    unfold Pg.front Pg.head
    rw [hb4, h.kind, h.level, u8_nat, u8_nat, h.many, h.high, UInt8.ofNat_toNat, UInt8.ofNat_toNat]
    simp
  have hz : 512 - p.size = r.length := by have := h.size; omega
  constructor
  · rintro ⟨hr, hb⟩
    refine ⟨?_, ⟨hr.2.1, hr.2.2.1⟩, ?_⟩
    · rw [e8]
      have := congrArg (List.take 8) hb
      rw [← this]
      unfold Pg.body
      rw [hfront]
      simp only [List.append_assoc]
      rw [List.take_left' (bigF_len _ _)]
    · have hl := congrArg List.length hb
      have hx : p.body.drop (508 - r.length) = D.drop (508 - r.length) := by rw [hb]
      have hf := front_len p
      have e1 : p.body.drop (508 - r.length) = List.replicate r.length 0 := by
        unfold Pg.body
        rw [List.drop_left' (by have := h.size; omega), hz]
      have e2 : D.drop (508 - r.length) = r := by
        have : 508 - r.length = 16 + (492 - r.length) := by have := h.size; unfold Pg.size at this; omega
        rw [this, ← List.drop_drop, h.rest]
        exact List.drop_left' (by simp only [List.length_append, bl_len, itemsL_len]; have := h.size; unfold Pg.size at this; omega)
      rw [e1, e2] at hx
      exact hx.symm
  · rintro ⟨h0, hk, hr⟩
    refine ⟨hrng hk, ?_⟩
    rw [e8] at h0
    unfold Pg.body
    rw [hfront, h0, hz, ← hr]
    conv => rhs; rw [hw, h.rest]
    simp
theorem isz_mem {s : ByteArray} {l : List ByteArray} (h : s ∈ l) : 2 + s.size ≤ isz l := by
  induction l with
  | nil => cases h
  | cons t l ih =>
    rw [isz_cons]
    rcases List.mem_cons.1 h with rfl | h
    · omega
    · have := ih h; omega
theorem pre_body (p : Pg) (hv : p.valid) : pre p.body = some (p, List.replicate (512 - p.size) 0) := by
  obtain ⟨⟨r0, r1, r2, r3, r4, r5, r6⟩, ⟨f0, f1, f2⟩, hl⟩ := hv
  have e : p.body = bigF 8 p.lsn.toNat ++ (u8 p.kind :: u8 p.level :: (bigF 4 p.right.toNat ++ (UInt8.ofNat p.items.length :: UInt8.ofNat p.high.size :: (bl p.high ++ (itemsL p.items ++ List.replicate (512 - p.size) 0))))) := by
    unfold Pg.body Pg.front Pg.head; simp
  obtain ⟨q0, q1, q2, q3, q4, q5, q6⟩ := parts_of (bigF 8 p.lsn.toNat) (bigF 4 p.right.toNat) (bl p.high ++ (itemsL p.items ++ List.replicate (512 - p.size) 0)) (u8 p.kind) (u8 p.level) (UInt8.ofNat p.items.length) (UInt8.ofNat p.high.size) (bigF_len _ _) (bigF_len _ _)
  rw [← e] at q0 q1 q2 q3 q4 q5 q6
  have hsz : ∀ s ∈ p.items, s.size < 65536 := by
    intro s hs
    have := isz_mem hs
    unfold Pg.size at f2
    omega
  have n14 : (UInt8.ofNat p.items.length).toNat = p.items.length := UInt8.toNat_ofNat_of_lt' (by show _ < 256; omega)
  have n15 : (UInt8.ofNat p.high.size).toNat = p.high.size := UInt8.toNat_ofNat_of_lt' (by show _ < 256; omega)
  unfold pre
  rw [q0, q1, q2, q3, q4, q5, q6, n14, n15, List.drop_left' (bl_len _), List.take_left' (bl_len _), takeI_laid _ _ hsz, str_bl]
  have k8 := ofTo_big 8 p.lsn.toNat (by omega) (by omega)
  have k4 := ofTo_big 4 p.right.toNat (by omega) (by omega)
  simp only [k8, k4, u8_to p.kind (by omega) (by omega), u8_to p.level (by omega) (by omega)]
  have e1 : ((p.lsn.toNat : Int)) % 9223372036854775808 = p.lsn := by omega
  have e2 : ((p.right.toNat : Int)) % 9223372036854775808 = p.right := by omega
  rw [e1, e2]

def Pg.none : Pg := ⟨0, 0, 0, 0, ⟨#[]⟩, []⟩
/-- What stands in the bytes behind the sum is a page's. -/
def good (D : List UInt8) (p : Pg) (r : List UInt8) : Prop := (D.getD 0 0).toNat ≤ 127 ∧ (1 ≤ p.kind ∧ p.kind ≤ 3) ∧ r = List.replicate r.length 0
instance (D : List UInt8) (p : Pg) (r : List UInt8) : Decidable (good D p r) := by unfold good; exact inferInstance
/-- Which page bytes are, or what is wrong. -/
def dec (l : List UInt8) : Pg × Int :=
  if l.length ≠ 512 then (.none, 31)
  else if ofTo (l.take 4) ≠ sum (l.drop 4) then (.none, 30)
  else match pre (l.drop 4) with
    | some (p, r) => if good (l.drop 4) p r then (p, 0) else (.none, 31)
    | .none => (.none, 31)
theorem sum_bd (l : List UInt8) : 0 ≤ sum l ∧ sum l < 4294967296 := xor32_bd _ _
theorem dec_enc (p : Pg) (hv : p.valid) : dec p.enc = (p, 0) := by
  have hl := enc_len p hv.fit.2.2
  have hb := body_len p hv.fit.2.2
  have ht : p.enc.take 4 = bigF 4 (sum p.body).toNat := List.take_left' (bigF_len _ _)
  have hd : p.enc.drop 4 = p.body := List.drop_left' (bigF_len _ _)
  have hs := sum_bd p.body
  have hpre := pre_body p hv
  have hg : good _ _ _ := ((pre_is _ _ _ hb hpre).iff hb).1 ⟨hv.rng, rfl⟩
  unfold dec
  rw [if_neg (by omega), ht, hd, ofTo_big 4 _ (by omega) (by omega), if_neg (by omega), hpre]
  simp only
  rw [if_pos hg]
/-- Bytes of which the document's Encode gives the same back. -/
theorem dec_ok {l : List UInt8} {p : Pg} (h : dec l = (p, 0)) : p.valid ∧ p.enc = l := by
  unfold dec at h
  split at h
  · simp at h
  · rename_i h1
    split at h
    · simp at h
    · rename_i h2
      split at h
      · rename_i p' r he
        split at h
        · rename_i hg
          injection h with h _
          subst h
          have hD : (l.drop 4).length = 508 := by simp; omega
          have hi := pre_is _ _ _ hD he
          obtain ⟨hr, hb⟩ := (hi.iff hD).2 hg
          refine ⟨⟨hr, hi.fits, ?_⟩, ?_⟩
          · have := hi.lsn; omega
          · unfold Pg.enc
            rw [hb]
            have h4 : (l.take 4).length = 4 := by simp; omega
            have := big_ofTo (l.take 4) (by omega)
            rw [h4] at this
            have h2' : ofTo (l.take 4) = sum (l.drop 4) := by simpa using h2
            rw [← h2', this, List.take_append_drop]
        · simp at h
      · simp at h
end Go.Proofs.YthjjkhacniebiaaGreat
