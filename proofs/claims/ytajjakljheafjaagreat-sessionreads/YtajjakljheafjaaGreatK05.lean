/- Parts. -/
import Derived.Test.YtajjakljheafjaaGreatK03
import Derived.Sort.Walk0
import Derived.Test.YtajjakljheafjaaGreatK04
import Derived.Deep.RegionHeld3
import Derived.Deep.Draws
import Derived.Deep.DeepCutAuto
set_option maxRecDepth 100000
namespace Go.Proofs.YtajjakljheafjaaGreat
open Go.RowKit
set_option maxRecDepth 100000 in
theorem rd_canon (L : List UInt8) (i : Nat) (q n : Int) (k : Nat) (hi : i ≤ 8) (h : rd i q L = (n, (k : Int), 0)) :
    ∃ m : Nat, n = q + (m : Int) * 128 ^ i ∧ (0 < i → 0 < m) ∧ i < k ∧ L = sevF (9 - i) m ++ L.drop (k - i) := by
  induction L generalizing i q with
  | nil =>
    rw [show rd i q [] = (0, 0, 10) from rfl] at h
    simp only [Prod.mk.injEq] at h
    omega
  | cons d t ih =>
    have hd := d.toNat_lt
    rw [rd_cons] at h
    split at h
    · rename_i h1
      split at h
      · simp at h
      · rename_i h2
        simp only [Prod.mk.injEq] at h
        obtain ⟨e1, e2, _⟩ := h
        have ek : k = i + 1 := by omega
        refine ⟨d.toNat, e1.symm, fun hp => by omega, by omega, ?_⟩
        rw [ek, show i + 1 - i = 1 by omega, sevF_end (by omega)]
        have e : UInt8.ofNat d.toNat = d := by simp
        rw [e]; rfl
    · rename_i h1
      split at h
      · simp at h
      · rename_i h8
        obtain ⟨m, e1, e2, e3, e4⟩ := ih (i + 1) _ (by omega) h
        have hm := e2 (by omega)
        refine ⟨(d.toNat - 128) + 128 * m, ?_, fun _ => by omega, by omega, ?_⟩
        · rw [e1, Int.pow_succ]
          have e : ((d.toNat - 128 + 128 * m : Nat) : Int) = ((d.toNat : Int) - 128) + 128 * (m : Int) := by omega
          rw [e, Int.add_mul, Int.mul_comm (128 ^ i) 128, ← Int.mul_assoc, Int.mul_comm (m : Int) 128]
          omega
        · have e9 : 9 - i = (9 - (i + 1)) + 1 := by omega
          rw [e9, sevF_more (by omega)]
          have em : (d.toNat - 128 + 128 * m) % 128 + 128 = d.toNat := by omega
          have ed : (d.toNat - 128 + 128 * m) / 128 = m := by omega
          rw [em, ed]
          have e : UInt8.ofNat d.toNat = d := by simp
          rw [e, show k - i = (k - (i + 1)) + 1 by omega, List.drop_succ_cons, List.cons_append, ← e4]
theorem rd_sev (f i m : Nat) (q : Int) (rest : List UInt8) (hf : f + i = 9) (hm : m < 128 ^ f) (hp : 0 < i → 0 < m) (hi : i ≤ 8) :
    rd i q (sevF f m ++ rest) = (q + (m : Int) * 128 ^ i, ((i + (sevF f m).length : Nat) : Int), 0) := by
  induction f generalizing i m q with
  | zero => omega
  | succ f ih =>
    by_cases h : m < 128
    · rw [sevF_end h]
      have e : ((UInt8.ofNat m).toNat : Int) = (m : Int) := by rw [UInt8.toNat_ofNat_of_lt' (show m < 256 by omega)]
      rw [List.cons_append, List.nil_append, rd_cons, e, if_pos (by omega), if_neg (by omega)]
      simp
    · rw [sevF_more h, List.cons_append, rd_cons]
      have e : ((UInt8.ofNat (m % 128 + 128)).toNat : Int) = ((m % 128 + 128 : Nat) : Int) := by rw [UInt8.toNat_ofNat_of_lt' (show m % 128 + 128 < 256 by omega)]
      have h8 : i ≠ 8 := by
        intro e8
        have : f = 0 := by omega
        subst this
        simp at hm
        omega
      rw [Nat.pow_succ] at hm
      rw [e, if_neg (by omega), if_neg h8, ih (i + 1) (m / 128) _ (by omega) (by omega) (fun _ => by omega) (by omega)]
      refine Prod.ext ?_ (Prod.ext ?_ rfl)
      · show _ + ((m / 128 : Nat) : Int) * 128 ^ (i + 1) = q + (m : Int) * 128 ^ i
        rw [Int.pow_succ]
        have e1 : ((m % 128 + 128 : Nat) : Int) - 128 = ((m % 128 : Nat) : Int) := by omega
        have e2 : (m : Int) = ((m % 128 : Nat) : Int) + ((m / 128 : Nat) : Int) * 128 := by omega
        rw [e1]
        conv => rhs; rw [e2, Int.add_mul, Int.mul_assoc, Int.mul_comm 128 (128 ^ i)]
        omega
      · show ((i + 1 + _ : Nat) : Int) = _
        simp only [List.length_cons]
        congr 1
        omega
/-- Num: what is taken is written just so. -/
theorem rdN_canon (z : Int) (l : List UInt8) (h : (rdN z l).2.2 = 0) : l = sev (rdN z l).1.toNat ++ (rdN z l).2.1 := by
  rcases rd_cases l 0 0 (by omega) (by omega) (by decide) with h' | h' | ⟨n, k, h', h2, h3, h4, h5, h6⟩
  · rw [rdN_bad h' (by decide)] at h; simp at h
  · rw [rdN_bad h' (by decide)] at h; simp at h
  · by_cases hm : max z 0 < n
    · rw [rdN_big h' hm] at h; simp at h
    · rw [rdN_ok h' hm]
      obtain ⟨m, e1, _, _, e4⟩ := rd_canon l 0 0 n k (by omega) h'
      have e : n.toNat = m := by rw [e1]; simp
      show l = sev n.toNat ++ l.drop k
      rw [e]
      simpa [sev] using e4
theorem rdT_canon (z : Int) (l : List UInt8) (h : (rdT z l).2.2 = 0) : l = (sev (rdT z l).1.length ++ (rdT z l).1) ++ (rdT z l).2.1 := by
  by_cases hx : (rdN z l).2.2 = 0
  · by_cases hs : ((rdN z l).2.1.length : Int) < (rdN z l).1
    · rw [rdT_short hx hs] at h; simp at h
    · rw [rdT_ok hx hs]
      have hc := rdN_canon z l hx
      have hf := rdN_facts z l
      show l = (sev ((rdN z l).2.1.take (rdN z l).1.toNat).length ++ (rdN z l).2.1.take (rdN z l).1.toNat) ++ (rdN z l).2.1.drop (rdN z l).1.toNat
      have e : ((rdN z l).2.1.take (rdN z l).1.toNat).length = (rdN z l).1.toNat := by rw [List.length_take]; omega
      rw [e, List.append_assoc, List.take_append_drop]
      exact hc
  · rw [rdT_err hx] at h; exact absurd h hx
/-- A version as plain data. -/
structure Tu where
  xmin : Int
  xmax : Int
  frozen : Bool
  key : ByteArray
  value : ByteArray
theorem Tu.ext' {a b : Tu} (h1 : a.xmin = b.xmin) (h2 : a.xmax = b.xmax) (h3 : a.frozen = b.frozen) (h4 : a.key = b.key) (h5 : a.value = b.value) : a = b := by
  cases a; cases b; simp_all
def okK (k : ByteArray) : Bool := decide (1 ≤ k.size ∧ k.size ≤ 24)
def Tu.ok (t : Tu) : Bool := decide (1 ≤ t.xmin ∧ t.xmin ≤ 1024 ∧ 0 ≤ t.xmax ∧ t.xmax ≤ 1024 ∧ 1 ≤ t.key.size ∧ t.key.size ≤ 24 ∧ t.value.size ≤ 64)
theorem Tu.ok_iff {t : Tu} : t.ok = true ↔ (1 ≤ t.xmin ∧ t.xmin ≤ 1024 ∧ 0 ≤ t.xmax ∧ t.xmax ≤ 1024 ∧ 1 ≤ t.key.size ∧ t.key.size ≤ 24 ∧ t.value.size ≤ 64) := by unfold Tu.ok; simp
/-- A text as it is laid. -/
def txL (s : ByteArray) : List UInt8 := sev s.size ++ s.data.toList
/-- A version's first byte. -/
def mkB (b : Bool) : UInt8 := if b then 3 else 1
/-- A version's bytes. -/
def Tu.enc (t : Tu) : List UInt8 := mkB t.frozen :: (bigF 2 t.xmin.toNat ++ (bigF 2 t.xmax.toNat ++ (txL t.key ++ txL t.value)))
/-- Two texts read one behind the other: both, what is left, what is wrong. -/
def rdTT (l : List UInt8) : List UInt8 × List UInt8 × List UInt8 × Int :=
  if (rdT 24 l).2.2 = 0 then ((rdT 24 l).1, (rdT 64 (rdT 24 l).2.1).1, (rdT 64 (rdT 24 l).2.1).2.1, (rdT 64 (rdT 24 l).2.1).2.2) else ((rdT 24 l).1, [], (rdT 24 l).2.1, (rdT 24 l).2.2)
/-- What is wrong at the end. -/
def endE (l : List UInt8) (x : Int) : Int := if x = 0 then (if l.length = 0 then 0 else 12) else x
/-- What stands in bytes that may be a version's. -/
def rawT (l : List UInt8) : Tu := ⟨ofTo ((l.drop 1).take 2), ofTo ((l.drop 3).take 2), l.head? == some 3, str (rdTT (l.drop 5)).1, str (rdTT (l.drop 5)).2.1⟩
def marked (l : List UInt8) : Bool := l.head? == some 1 || l.head? == some 3
def headed (l : List UInt8) : Bool := decide (5 ≤ l.length) && marked l
def endT (l : List UInt8) : Int := endE (rdTT l).2.2.1 (rdTT l).2.2.2
def goodT (l : List UInt8) : Bool := headed l && (endT (l.drop 5) == 0 && (rawT l).ok)
/-- The version of bytes. -/
def decT (l : List UInt8) : Option Tu := if goodT l then some (rawT l) else none
def noT : Tu := ⟨0, 0, false, ⟨#[]⟩, ⟨#[]⟩⟩
theorem endE_zero {l : List UInt8} {x : Int} (h : endE l x = 0) : x = 0 ∧ l = [] := by
  unfold endE at h
  split at h
  · split at h
    · exact ⟨by assumption, List.eq_nil_of_length_eq_zero (by assumption)⟩
    · simp at h
  · contradiction
theorem rdN_upto (z : Int) (m : Nat) (rest : List UInt8) (hm : m < 9223372036854775808) (hz : (m : Int) ≤ z) : rdN z (sev m ++ rest) = ((m : Int), rest, 0) := by
  have h := rd_sev 9 0 m 0 rest rfl (by omega) (fun h => by omega) (by omega)
  have h' : rd 0 0 (sev m ++ rest) = ((m : Int), ((sev m).length : Int), 0) := by
    have e : sev m = sevF 9 m := rfl
    rw [e, h]; simp
  rw [rdN_ok h' (by omega)]
  simp
theorem rdT_upto (z : Int) (s : ByteArray) (rest : List UInt8) (hm : s.size < 9223372036854775808) (hz : (s.size : Int) ≤ z) : rdT z (txL s ++ rest) = (bl s, rest, 0) := by
  have h := rdN_upto z s.size (bl s ++ rest) hm hz
  have hl := bl_len s
  unfold txL
  rw [List.append_assoc]
  rw [show s.data.toList = bl s from rfl]
  rw [rdT_ok (by rw [h]) (by rw [h]; simp; omega)]
  rw [h]
  rw [show ((s.size : Int)).toNat = (bl s).length by omega, List.take_left, List.drop_left]
theorem sev_one (n : Nat) (h : n < 128) : (sev n).length = 1 := by
  unfold sev
  rw [sevF_end h]
  rfl
theorem txL_len (s : ByteArray) (h : s.size < 128) : (txL s).length = 1 + s.size := by
  unfold txL
  rw [List.length_append, sev_one _ h, show s.data.toList = bl s from rfl, bl_len]
theorem rdT_txL {z : Int} {l : List UInt8} (h : (rdT z l).2.2 = 0) : l = txL (str (rdT z l).1) ++ (rdT z l).2.1 := by
  have := rdT_canon z l h
  unfold txL
  rw [str_size]
  exact this
theorem mkB_head (b : Bool) (l : List UInt8) : headed (mkB b :: l) = decide (4 ≤ l.length) := by
  unfold headed marked mkB
  cases b <;> simp
theorem dec_encT {t : Tu} (h : t.ok = true) : decT t.enc = some t := by
  have h' := Tu.ok_iff.1 h
  have l1 := bigF_len 2 t.xmin.toNat
  have l2 := bigF_len 2 t.xmax.toNat
  have d5 : t.enc.drop 5 = txL t.key ++ txL t.value := by
    unfold Tu.enc
    rw [List.drop_succ_cons, ← List.append_assoc, List.drop_append_of_le_length (by simp; omega), List.drop_of_length_le (by simp; omega), List.nil_append]
  have d1 : (t.enc.drop 1).take 2 = bigF 2 t.xmin.toNat := by
    unfold Tu.enc
    rw [List.drop_succ_cons, List.drop_zero, List.take_append_of_le_length (by omega), List.take_of_length_le (by omega)]
  have d3 : (t.enc.drop 3).take 2 = bigF 2 t.xmax.toNat := by
    unfold Tu.enc
    rw [List.drop_succ_cons, List.drop_append_of_le_length (by omega), List.drop_of_length_le (by omega), List.nil_append, List.take_append_of_le_length (by omega), List.take_of_length_le (by omega)]
  have t1 : rdT 24 (t.enc.drop 5) = (bl t.key, txL t.value, 0) := by
    rw [d5]
    exact rdT_upto 24 t.key _ (by omega) (by omega)
  have t2 : rdT 64 (txL t.value) = (bl t.value, [], 0) := by
    have := rdT_upto 64 t.value [] (by omega) (by omega)
    rwa [List.append_nil] at this
  have tt : rdTT (t.enc.drop 5) = (bl t.key, bl t.value, [], 0) := by
    unfold rdTT
    rw [t1]
    simp only [if_pos]
    rw [t2]
  have hr : rawT t.enc = t := by
    unfold rawT
    rw [d1, d3, tt, ofTo_big 2 _ (by omega) (by omega), ofTo_big 2 _ (by omega) (by omega)]
    simp only [str_bl]
    refine Tu.ext' ?_ ?_ ?_ rfl rfl
    · simp; omega
    · simp; omega
    · simp only [Tu.enc, mkB, List.head?_cons]
      cases t.frozen <;> rfl
  have hh : headed t.enc = true := by
    unfold Tu.enc
    rw [mkB_head]
    simp only [List.length_append, decide_eq_true_eq]
    omega
  unfold decT goodT
  rw [hr, hh, h]
  unfold endT
  rw [tt]
  rfl
theorem list5 {l : List UInt8} (h : 5 ≤ l.length) : ∃ a b c d e r, l = a :: b :: c :: d :: e :: r := by
  match l, h with
  | a :: b :: c :: d :: e :: r, _ => exact ⟨a, b, c, d, e, r, rfl⟩
theorem enc_decT {l : List UInt8} {t : Tu} (h : decT l = some t) : t.ok = true ∧ t.enc = l ∧ headed l = true := by
  unfold decT at h
  split at h
  · rename_i hg
    simp only [Option.some.injEq] at h
    subst h
    unfold goodT at hg
    simp only [Bool.and_eq_true, beq_iff_eq] at hg
    obtain ⟨hh, he, hok⟩ := hg
    refine ⟨hok, ?_, hh⟩
    unfold headed at hh
    simp only [Bool.and_eq_true, decide_eq_true_eq] at hh
    obtain ⟨h5, hm⟩ := hh
    obtain ⟨a, b, c, d, e, r, rfl⟩ := list5 h5
    obtain ⟨hx, hl⟩ := endE_zero he
    simp only [List.drop_succ_cons, List.drop_zero] at hx hl
    have hq : r = txL (str (rdTT r).1) ++ txL (str (rdTT r).2.1) := by
      unfold rdTT at hx hl ⊢
      by_cases h0 : (rdT 24 r).2.2 = 0
      · rw [if_pos h0] at hx hl ⊢
        simp only at hx hl ⊢
        have e1 := rdT_txL h0
        have e2 := rdT_txL hx
        rw [hl, List.append_nil] at e2
        rw [← e2]
        exact e1
      · rw [if_neg h0] at hx
        exact absurd hx h0
    have b1 := big_ofTo [b, c] (by simp)
    have b2 := big_ofTo [d, e] (by simp)
    simp only [List.length_cons, List.length_nil] at b1 b2
    unfold Tu.enc rawT
    simp only [List.drop_succ_cons, List.drop_zero, List.take_succ_cons, List.take_zero, List.head?_cons]
    rw [← hq, b1, b2]
    unfold marked at hm
    simp only [List.head?_cons] at hm
    simp only [List.cons_append, List.nil_append, List.cons.injEq, and_true]
    unfold mkB
    by_cases ha : a = 3
    · subst ha; rfl
    · have : a = 1 := by simpa [ha] using hm
      subst this; rfl
  · cases h
theorem enc_lenT {t : Tu} (h : t.ok = true) : t.enc.length = 7 + t.key.size + t.value.size := by
  have h' := Tu.ok_iff.1 h
  have l1 := bigF_len 2 t.xmin.toNat
  have l2 := bigF_len 2 t.xmax.toNat
  have l3 := txL_len t.key (by omega)
  have l4 := txL_len t.value (by omega)
  unfold Tu.enc
  simp only [List.length_cons, List.length_append]
  omega
/-- An entry as plain data. -/
structure En where
  key : ByteArray
  page : Int
  slot : Int
theorem En.ext' {a b : En} (h1 : a.key = b.key) (h2 : a.page = b.page) (h3 : a.slot = b.slot) : a = b := by
  cases a; cases b; simp_all
instance : DecidableEq En := fun a b => if h : a.key = b.key ∧ a.page = b.page ∧ a.slot = b.slot then isTrue (En.ext' h.1 h.2.1 h.2.2) else isFalse (fun e => h (by subst e; exact ⟨rfl, rfl, rfl⟩))
/-- The least. -/
def noE : En := ⟨⟨#[]⟩, 0, 0⟩
def En.ok (e : En) : Bool := decide (1 ≤ e.key.size ∧ e.key.size ≤ 24 ∧ 0 ≤ e.page ∧ e.page ≤ 65535 ∧ 0 ≤ e.slot ∧ e.slot ≤ 65535)
theorem En.ok_iff {e : En} : e.ok = true ↔ (1 ≤ e.key.size ∧ e.key.size ≤ 24 ∧ 0 ≤ e.page ∧ e.page ≤ 65535 ∧ 0 ≤ e.slot ∧ e.slot ≤ 65535) := by unfold En.ok; simp
theorem noE_ok : noE.ok = false := by decide
theorem En.ok_ne {e : En} (h : e.ok = true) : e ≠ noE := by
  intro x
  rw [x, noE_ok] at h
  exact Bool.noConfusion h
/-- A child. -/
def okC (c : Int) : Bool := decide (1 ≤ c ∧ c ≤ 65535)
theorem okC_iff {c : Int} : okC c = true ↔ 1 ≤ c ∧ c ≤ 65535 := by unfold okC; simp
/-- What may separate. -/
def En.sp (e : En) : Bool := decide (e = noE) || e.ok
theorem En.sp_iff {e : En} : e.sp = true ↔ e = noE ∨ e.ok = true := by unfold En.sp; simp
/-- The order. -/
def En.lt (a b : En) : Prop := if a.key = b.key then (if a.page = b.page then a.slot < b.slot else a.page < b.page) else bl a.key < bl b.key
instance (a b : En) : Decidable (a.lt b) := by unfold En.lt; infer_instance
theorem bl_injN {s t : ByteArray} (h : bl s = bl t) : s = t := by rw [← str_bl s, h, str_bl]
theorem bls_total {a b : List UInt8} (h : a ≠ b) : a < b ∨ b < a := by
  induction a generalizing b with
  | nil =>
    cases b with
    | nil => exact absurd rfl h
    | cons y b => exact .inl (List.nil_lt_cons _ _)
  | cons x a ih =>
    cases b with
    | nil => exact .inr (List.nil_lt_cons _ _)
    | cons y b =>
      rw [List.cons_lt_cons_iff, List.cons_lt_cons_iff]
      by_cases e : x = y
      · subst e
        rcases ih (b := b) (fun e => h (by rw [e])) with k | k
        · exact .inl (.inr ⟨rfl, k⟩)
        · exact .inr (.inr ⟨rfl, k⟩)
      · have : x.toNat ≠ y.toNat := fun k => e (UInt8.toNat_inj.1 k)
        rcases Nat.lt_or_gt_of_ne this with k | k
        · exact .inl (.inl (UInt8.lt_iff_toNat_lt.2 k))
        · exact .inr (.inl (UInt8.lt_iff_toNat_lt.2 k))
theorem En.lt_irrefl (a : En) : ¬ a.lt a := by unfold En.lt; simp
theorem En.lt_asymm {a b : En} (h : a.lt b) (k : b.lt a) : False := by
  unfold En.lt at h k
  by_cases e : a.key = b.key
  · rw [if_pos e] at h
    rw [if_pos e.symm] at k
    by_cases f : a.page = b.page
    · rw [if_pos f] at h
      rw [if_pos f.symm] at k
      omega
    · rw [if_neg f] at h
      rw [if_neg (fun x => f x.symm)] at k
      omega
  · rw [if_neg e] at h
    rw [if_neg (fun x => e x.symm)] at k
    exact List.lt_asymm h k
theorem En.lt_trans {a b c : En} (h : a.lt b) (k : b.lt c) : a.lt c := by
  unfold En.lt at h k ⊢
  by_cases e : a.key = b.key
  · rw [if_pos e] at h
    by_cases g : b.key = c.key
    · rw [if_pos g] at k
      rw [if_pos (e.trans g)]
      by_cases f : a.page = b.page
      · rw [if_pos f] at h
        rw [f]
        by_cases l : b.page = c.page
        · rw [if_pos l] at k ⊢
          omega
        · rw [if_neg l] at k ⊢
          exact k
      · rw [if_neg f] at h
        by_cases l : b.page = c.page
        · rw [if_pos l] at k
          rw [if_neg (by omega)]
          omega
        · rw [if_neg l] at k
          rw [if_neg (by omega)]
          omega
    · rw [if_neg g] at k
      rw [if_neg (by rw [e]; exact g), e]
      exact k
  · rw [if_neg e] at h
    by_cases g : b.key = c.key
    · rw [← g, if_neg e]
      exact h
    · rw [if_neg g] at k
      have l := List.lt_trans h k
      rw [if_neg (fun x => List.lt_irrefl (bl c.key) (by rw [x] at l; exact l))]
      exact l
theorem En.lt_total {a b : En} (h : a ≠ b) : a.lt b ∨ b.lt a := by
  unfold En.lt
  by_cases e : a.key = b.key
  · rw [if_pos e, if_pos e.symm]
    by_cases f : a.page = b.page
    · rw [if_pos f, if_pos f.symm]
      have : a.slot ≠ b.slot := fun g => h (En.ext' e f g)
      omega
    · rw [if_neg f, if_neg (fun x => f x.symm)]
      omega
  · rw [if_neg e, if_neg (fun x => e x.symm)]
    exact bls_total (fun x => e (bl_injN x))
theorem noE_lt {e : En} (h : e.ok = true) : noE.lt e := by
  have h' := En.ok_iff.1 h
  unfold En.lt
  have hk : noE.key ≠ e.key := by
    intro x
    have : e.key.size = 0 := by rw [← x]; rfl
    omega
  rw [if_neg hk]
  have hl := bl_len e.key
  cases hb : bl e.key with
  | nil => rw [hb] at hl; simp at hl; omega
  | cons x l => exact List.nil_lt_cons _ _
theorem not_lt_noE {e : En} (h : e.sp = true) : ¬ e.lt noE := by
  rcases En.sp_iff.1 h with rfl | h
  · exact En.lt_irrefl _
  · exact fun k => En.lt_asymm k (noE_lt h)
/-- How two entries are ordered. -/
def cmpE (a b : En) : Int := if a = b then 0 else if a.lt b then -1 else 1
theorem cmpE_zero {a b : En} : cmpE a b = 0 ↔ a = b := by
  unfold cmpE
  by_cases h : a = b
  · simp [h]
  · rw [if_neg h]
    by_cases k : a.lt b
    · rw [if_pos k]; simp [h]
    · rw [if_neg k]; simp [h]
theorem cmpE_neg {a b : En} : cmpE a b < 0 ↔ a.lt b := by
  unfold cmpE
  by_cases h : a = b
  · subst h; simp [En.lt_irrefl]
  · rw [if_neg h]
    by_cases k : a.lt b
    · rw [if_pos k]; simp [k]
    · rw [if_neg k]; simp [k]
theorem cmpE_pos {a b : En} : 0 < cmpE a b ↔ b.lt a := by
  unfold cmpE
  by_cases h : a = b
  · subst h; simp [En.lt_irrefl]
  · rw [if_neg h]
    by_cases k : a.lt b
    · rw [if_pos k]
      simp only [Int.reduceNeg, Int.not_lt.2 (by decide : (-1 : Int) ≤ 0), false_iff]
      exact fun l => En.lt_asymm k l
    · rw [if_neg k]
      rcases En.lt_total h with l | l
      · exact absurd l k
      · simp [l]
/-- Beyond a high entry; ahead of it. -/
def byd (h e : En) : Bool := decide (h ≠ noE ∧ h.lt e)
def blw (h e : En) : Bool := decide (h = noE ∨ e.lt h)
theorem byd_no {h e : En} : byd h e = false ↔ (h = noE ∨ ¬ h.lt e) := by
  unfold byd
  simp only [decide_eq_false_iff_not, Classical.not_and_iff_not_or_not, Classical.not_not]
theorem byd_noE (e : En) : byd noE e = false := byd_no.2 (.inl rfl)
/-- An entry's bytes. -/
def En.lay (e : En) : List UInt8 := txL e.key ++ (sev e.page.toNat ++ sev e.slot.toNat)
def En.enc (e : En) : ByteArray := str e.lay
/-- A separator's bytes. -/
def En.layS (e : En) (c : Int) : List UInt8 := e.lay ++ sev c.toNat
def En.encS (e : En) (c : Int) : ByteArray := str (e.layS c)
theorem bl_enc (e : En) : bl e.enc = e.lay := rfl
theorem bl_encS (e : En) (c : Int) : bl (e.encS c) = e.layS c := rfl
/-- A number that is read of what is left, if nothing is wrong. -/
def rnS (s : List UInt8 × Int) (z : Int) : Int × List UInt8 × Int := if s.2 = 0 then rdN z s.1 else (0, s.1, s.2)
theorem rnS_zero {s : List UInt8 × Int} {z : Int} (h : s.2 = 0) : rnS s z = rdN z s.1 := by unfold rnS; rw [if_pos h]
theorem rnS_ok {s : List UInt8 × Int} {z : Int} (h : (rnS s z).2.2 = 0) : s.2 = 0 := by
  unfold rnS at h
  by_cases k : s.2 = 0
  · exact k
  · rw [if_neg k] at h; exact h
/-- What is taken of bytes as an entry: it, what is left, what is wrong. -/
def takeE (l : List UInt8) : En × List UInt8 × Int :=
  (⟨str (rdT 24 l).1, (rnS (rdT 24 l).2 65535).1, (rnS (rnS (rdT 24 l).2 65535).2 65535).1⟩, (rnS (rnS (rdT 24 l).2 65535).2 65535).2)
def takeS (l : List UInt8) : (En × Int) × List UInt8 × Int := (((takeE l).1, (rnS (takeE l).2 65535).1), (rnS (takeE l).2 65535).2)
/-- Small enough to be taken. -/
def En.few (e : En) : Prop := e.key.size ≤ 24 ∧ 0 ≤ e.page ∧ e.page ≤ 65535 ∧ 0 ≤ e.slot ∧ e.slot ≤ 65535
theorem En.few_ok {e : En} (h : e.ok = true) : e.few := (En.ok_iff.1 h).2
theorem En.few_sp {e : En} (h : e.sp = true) : e.few := by
  rcases En.sp_iff.1 h with rfl | h
  · exact ⟨by decide, by decide, by decide, by decide, by decide⟩
  · exact En.few_ok h
theorem takeE_lay {e : En} (h : e.few) (rest : List UInt8) : takeE (e.lay ++ rest) = (e, rest, 0) := by
  obtain ⟨h1, h2, h3, h4, h5⟩ := h
  have t1 : rdT 24 (e.lay ++ rest) = (bl e.key, sev e.page.toNat ++ (sev e.slot.toNat ++ rest), 0) := by
    unfold En.lay
    rw [List.append_assoc, List.append_assoc]
    exact rdT_upto 24 e.key _ (by omega) (by omega)
  have t2 : rdN 65535 (sev e.page.toNat ++ (sev e.slot.toNat ++ rest)) = (e.page, sev e.slot.toNat ++ rest, 0) := by
    rw [rdN_upto 65535 e.page.toNat _ (by omega) (by omega), Int.toNat_of_nonneg h2]
  have t3 : rdN 65535 (sev e.slot.toNat ++ rest) = (e.slot, rest, 0) := by
    rw [rdN_upto 65535 e.slot.toNat _ (by omega) (by omega), Int.toNat_of_nonneg h4]
  unfold takeE
  rw [t1, rnS_zero rfl]
  simp only []
  rw [t2, rnS_zero rfl]
  simp only []
  rw [t3]
  simp only [str_bl]
theorem takeE_canon {l : List UInt8} (h : (takeE l).2.2 = 0) : l = (takeE l).1.lay ++ (takeE l).2.1 := by
  have a3 : (rnS (rnS (rdT 24 l).2 65535).2 65535).2.2 = 0 := h
  have a2 := rnS_ok a3
  have a1 := rnS_ok a2
  have c1 := rdT_txL (z := 24) (l := l) a1
  have e2 := rnS_zero (z := 65535) a1
  have e3 := rnS_zero (z := 65535) a2
  have c2 := rdN_canon 65535 (rdT 24 l).2.1 (by rw [← e2]; exact a2)
  have c3 := rdN_canon 65535 (rnS (rdT 24 l).2 65535).2.1 (by rw [← e3]; exact a3)
  rw [← e2] at c2
  rw [← e3] at c3
  show l = (txL (str (rdT 24 l).1) ++ (sev (rnS (rdT 24 l).2 65535).1.toNat ++ sev (rnS (rnS (rdT 24 l).2 65535).2 65535).1.toNat)) ++ (rnS (rnS (rdT 24 l).2 65535).2 65535).2.1
  rw [List.append_assoc, List.append_assoc, ← c3, ← c2]
  exact c1
theorem takeS_lay {e : En} {c : Int} (h : e.few) (h0 : 0 ≤ c) (h1 : c ≤ 65535) (rest : List UInt8) : takeS (e.layS c ++ rest) = ((e, c), rest, 0) := by
  have t : rdN 65535 (sev c.toNat ++ rest) = (c, rest, 0) := by
    rw [rdN_upto 65535 c.toNat _ (by omega) (by omega), Int.toNat_of_nonneg h0]
  unfold takeS En.layS
  rw [List.append_assoc, takeE_lay h, rnS_zero rfl]
  simp only []
  rw [t]
theorem takeS_canon {l : List UInt8} (h : (takeS l).2.2 = 0) : l = (takeS l).1.1.layS (takeS l).1.2 ++ (takeS l).2.1 := by
  have a2 : (rnS (takeE l).2 65535).2.2 = 0 := h
  have a1 := rnS_ok a2
  have e2 := rnS_zero (z := 65535) a1
  have c1 := takeE_canon a1
  have c2 := rdN_canon 65535 (takeE l).2.1 (by rw [← e2]; exact a2)
  rw [← e2] at c2
  show l = ((takeE l).1.lay ++ sev (rnS (takeE l).2 65535).1.toNat) ++ (rnS (takeE l).2 65535).2.1
  rw [List.append_assoc, ← c2]
  exact c1
/-- The entry, the separator of bytes. -/
def decE (l : List UInt8) : Option En := if endE (takeE l).2.1 (takeE l).2.2 = 0 ∧ (takeE l).1.ok = true then some (takeE l).1 else none
def decS (l : List UInt8) : Option (En × Int) := if endE (takeS l).2.1 (takeS l).2.2 = 0 ∧ (takeS l).1.1.sp = true ∧ okC (takeS l).1.2 = true then some (takeS l).1 else none
theorem decE_lay {e : En} (h : e.ok = true) : decE e.lay = some e := by
  have t := takeE_lay (En.few_ok h) []
  rw [List.append_nil] at t
  unfold decE
  rw [t, if_pos ⟨rfl, h⟩]
theorem decE_some {l : List UInt8} {e : En} (h : decE l = some e) : e.ok = true ∧ l = e.lay := by
  unfold decE at h
  split at h
  · rename_i k
    obtain ⟨k1, k2⟩ := k
    cases h
    refine ⟨k2, ?_⟩
    obtain ⟨x0, ln⟩ := endE_zero k1
    have c := takeE_canon x0
    rw [ln, List.append_nil] at c
    exact c
  · cases h
theorem decS_lay {e : En} {c : Int} (h : e.sp = true) (hc : okC c = true) : decS (e.layS c) = some (e, c) := by
  have hc' := okC_iff.1 hc
  have t := takeS_lay (En.few_sp h) (by omega) hc'.2 []
  rw [List.append_nil] at t
  unfold decS
  rw [t, if_pos ⟨rfl, h, hc⟩]
theorem decS_some {l : List UInt8} {e : En} {c : Int} (h : decS l = some (e, c)) : e.sp = true ∧ okC c = true ∧ l = e.layS c := by
  unfold decS at h
  split at h
  · rename_i k
    obtain ⟨k1, k2, k3⟩ := k
    have hp : (takeS l).1 = (e, c) := by simpa using h
    obtain ⟨x0, ln⟩ := endE_zero k1
    have cn := takeS_canon x0
    rw [ln, List.append_nil, hp] at cn
    rw [hp] at k2 k3
    exact ⟨k2, k3, cn⟩
  · cases h
theorem sev_le (n : Nat) : (sev n).length ≤ 10 := sevF_len 9 n
theorem lay_len {e : En} (h : e.key.size ≤ 24) : e.lay.length ≤ 45 := by
  unfold En.lay
  have h1 := txL_len e.key (by omega)
  have h2 := sev_le e.page.toNat
  have h3 := sev_le e.slot.toNat
  simp only [List.length_append]
  omega
/-- The entries that items are, each behind the one ahead, none beyond hi. -/
def rdL (hi : En) : En → List ByteArray → Option (List En)
  | _, [] => some []
  | last, s :: l => match decE (bl s) with
    | none => none
    | some e => if last.lt e ∧ byd hi e = false then (rdL hi e l).map (fun es => e :: es) else none
/-- Strictly rising. -/
def Rise (es : List En) : Prop := es.Pairwise En.lt
/-- Items are these entries. -/
structure LfIs (hi : En) (l : List ByteArray) (es : List En) : Prop where
  items : l = es.map En.enc
  rise : Rise es
  ok : ∀ e ∈ es, e.ok = true
  in_ : ∀ e ∈ es, byd hi e = false
theorem rdL_some {hi : En} {l : List ByteArray} {last : En} {es : List En} (h : rdL hi last l = some es) : LfIs hi l es ∧ ∀ e ∈ es, last.lt e := by
  induction l generalizing last es with
  | nil =>
    cases h
    exact ⟨⟨rfl, List.Pairwise.nil, (fun _ h => by cases h), (fun _ h => by cases h)⟩, fun _ h => by cases h⟩
  | cons s l ih =>
    unfold rdL at h
    cases hd : decE (bl s) with
    | none => rw [hd] at h; cases h
    | some e =>
      rw [hd] at h
      simp only [] at h
      split at h
      · rename_i hc
        cases hr : rdL hi e l with
        | none => rw [hr] at h; cases h
        | some fs =>
          rw [hr] at h
          cases h
          obtain ⟨k1, k2⟩ := ih hr
          obtain ⟨o1, o2⟩ := decE_some hd
          refine ⟨⟨?_, List.pairwise_cons.2 ⟨k2, k1.rise⟩, ?_, ?_⟩, ?_⟩
          · rw [List.map_cons, ← k1.items, show s = e.enc by unfold En.enc; rw [← o2, str_bl]]
          · intro x hx
            rcases List.mem_cons.1 hx with rfl | hx
            · exact o1
            · exact k1.ok x hx
          · intro x hx
            rcases List.mem_cons.1 hx with rfl | hx
            · exact hc.2
            · exact k1.in_ x hx
          · intro x hx
            rcases List.mem_cons.1 hx with rfl | hx
            · exact hc.1
            · exact En.lt_trans hc.1 (k2 x hx)
      · cases h
/-- The separators that items are: the first one the least, each other behind the one ahead. -/
def okI (hi : En) : Option En → En → Bool
  | none, e => decide (e = noE)
  | some x, e => decide (x.lt e) && blw hi e
def rdI (hi : En) : Option En → List ByteArray → Option (List (En × Int))
  | _, [] => some []
  | last, s :: l => match decS (bl s) with
    | none => none
    | some k => if okI hi last k.1 = true then (rdI hi (some k.1) l).map (fun ks => k :: ks) else none
structure InIs (hi : En) (l : List ByteArray) (ks : List (En × Int)) : Prop where
  items : l = ks.map (fun k => k.1.encS k.2)
  rise : Rise (ks.map Prod.fst)
  first : ∃ c r, ks = (noE, c) :: r
  ok : ∀ k ∈ ks.tail, k.1.ok = true ∧ blw hi k.1 = true
  kid : ∀ k ∈ ks, okC k.2 = true
/-- How many are ahead of one. -/
def plE (es : List En) (e : En) : Nat := es.countP (fun x => decide (x.lt e))
theorem plE_le (es : List En) (e : En) : plE es e ≤ es.length := List.countP_le_length
theorem plE_of {es : List En} {e : En} {c : Nat} (hc : c ≤ es.length) (h1 : ∀ x ∈ es.take c, x.lt e) (h2 : ∀ x ∈ es.drop c, ¬ x.lt e) : plE es e = c := by
  unfold plE
  rw [← List.take_append_drop c es, List.countP_append, List.countP_eq_length.2 (fun x hx => by simpa using h1 x hx), List.countP_eq_zero.2 (fun x hx => by simpa using h2 x hx), List.length_take]
  omega
theorem plE_spec {es : List En} (h : Rise es) (e : En) : (∀ x ∈ es.take (plE es e), x.lt e) ∧ (∀ x ∈ es.drop (plE es e), ¬ x.lt e) := by
  induction es with
  | nil => simp
  | cons y es ih =>
    obtain ⟨p1, p2⟩ := List.pairwise_cons.1 h
    by_cases k : y.lt e
    · have hp : plE (y :: es) e = plE es e + 1 := by unfold plE; rw [List.countP_cons_of_pos (by simpa using k)]
      rw [hp, List.take_succ_cons, List.drop_succ_cons]
      refine ⟨?_, (ih p2).2⟩
      intro x hx
      rcases List.mem_cons.1 hx with rfl | hx
      · exact k
      · exact (ih p2).1 x hx
    · have hp : plE (y :: es) e = 0 := by
        refine plE_of (Nat.zero_le _) (fun _ h => by simp at h) ?_
        intro x hx
        rcases List.mem_cons.1 (by simpa using hx) with rfl | hx
        · exact k
        · exact fun l => k (En.lt_trans (p1 x hx) l)
      rw [hp]
      refine ⟨(fun _ h => by simp at h), ?_⟩
      intro x hx
      rcases List.mem_cons.1 (by simpa using hx) with rfl | hx
      · exact k
      · exact fun l => k (En.lt_trans (p1 x hx) l)
/-- One more entry, in its place. -/
def insE (es : List En) (e : En) : List En := es.take (plE es e) ++ e :: es.drop (plE es e)
theorem insE_rise {es : List En} {e : En} (h : Rise es) (hn : e ∉ es) : Rise (insE es e) := by
  obtain ⟨a, b⟩ := plE_spec h e
  have b' : ∀ x ∈ es.drop (plE es e), e.lt x := by
    intro x hx
    rcases En.lt_total (a := e) (b := x) (fun y => hn (by rw [y]; exact List.mem_of_mem_drop hx)) with k | k
    · exact k
    · exact absurd k (b x hx)
  unfold insE Rise
  rw [List.pairwise_append]
  refine ⟨h.sublist (List.take_sublist _ _), List.pairwise_cons.2 ⟨b', h.sublist (List.drop_sublist _ _)⟩, ?_⟩
  intro x hx y hy
  rcases List.mem_cons.1 hy with rfl | hy
  · exact a x hx
  · exact En.lt_trans (a x hx) (b' y hy)
theorem insE_mem {es : List En} {e x : En} : x ∈ insE es e ↔ x = e ∨ x ∈ es := by
  unfold insE
  rw [List.mem_append, List.mem_cons]
  have : x ∈ es ↔ x ∈ es.take (plE es e) ∨ x ∈ es.drop (plE es e) := by rw [← List.mem_append, List.take_append_drop]
  rw [this]
  constructor
  · rintro (h | h | h)
    · exact .inr (.inl h)
    · exact .inl h
    · exact .inr (.inr h)
  · rintro (h | h | h)
    · exact .inr (.inl h)
    · exact .inl h
    · exact .inr (.inr h)
theorem LfIs.ins {hi : En} {l : List ByteArray} {es : List En} {e : En} (h : LfIs hi l es) (ho : e.ok = true) (hb : byd hi e = false) (hn : e ∉ es) : LfIs hi (l.take (plE es e) ++ e.enc :: l.drop (plE es e)) (insE es e) := by
  refine ⟨?_, insE_rise h.rise hn, ?_, ?_⟩
  · rw [h.items]; unfold insE; simp
  · intro x hx
    rcases insE_mem.1 hx with rfl | hx
    · exact ho
    · exact h.ok x hx
  · intro x hx
    rcases insE_mem.1 hx with rfl | hx
    · exact hb
    · exact h.in_ x hx
/-- An entry as a value. -/
def En.agg (e : En) : Value := .agg #[.string e.key, .int .i64 e.page, .int .i64 e.slot]
/-- A number of pages and slots. -/
def nm (n : Int) : Bool := decide (0 ≤ n ∧ n ≤ 65535)
theorem nm_eq (n : Int) : nm n = (decide (0 ≤ n) && decide (n ≤ 65535)) := by unfold nm; rw [Bool.eq_iff_iff]; simp
theorem okC_eq (n : Int) : okC n = (decide (1 ≤ n) && decide (n ≤ 65535)) := by unfold okC; rw [Bool.eq_iff_iff]; simp
theorem En.ok_eq (e : En) : e.ok = (decide ((1 : Int) ≤ e.key.size) && decide ((e.key.size : Int) ≤ 24) && nm e.page && nm e.slot) := by
  unfold En.ok nm
  rw [Bool.eq_iff_iff]
  simp only [Bool.and_eq_true, decide_eq_true_eq]
  omega
theorem isNumber_any (n : Int) (w : World) : Calls Tryz.prog 126 #[.int .i64 n] w fun e w' => e = .returned (.bool (nm n)) ∧ w' = w := by
  rw [nm_eq]
  by_cases h1 : (0 : Int) ≤ n
  · go_enter Tryz.func126, Tryz.ntmps126
    go_wp2
    go_ret
    exact ⟨by simp [h1], rfl⟩
  · go_enter Tryz.func126, Tryz.ntmps126
    go_wp2
    go_ret
    exact ⟨by simp; omega, rfl⟩
theorem isChild_any (n : Int) (w : World) : Calls Tryz.prog 146 #[.int .i64 n] w fun e w' => e = .returned (.bool (okC n)) ∧ w' = w := by
  rw [okC_eq]
  by_cases h1 : (1 : Int) ≤ n
  · go_enter Tryz.func146, Tryz.ntmps146
    go_wp2
    go_ret
    exact ⟨by simp [h1], rfl⟩
  · go_enter Tryz.func146, Tryz.ntmps146
    go_wp2
    go_ret
    exact ⟨by simp; omega, rfl⟩
set_option maxHeartbeats 800000 in
theorem isEntry_any (e : En) (w : World) : Calls Tryz.prog 84 #[e.agg] w fun x w' => x = .returned (.bool e.ok) ∧ Only (fun _ => False) w w' := by
  rw [En.ok_eq]
  obtain ⟨k, p, s⟩ := e
  unfold En.agg
  simp only []
  have HO := hide (onlyA w (.cells #[.string k, .int .i64 p, .int .i64 s] 89))
  obtain ⟨bp, hbp⟩ : ∃ b, nm p = b := ⟨_, rfl⟩
  obtain ⟨bs, hbs⟩ : ∃ b, nm s = b := ⟨_, rfl⟩
  have HP : Hid (∀ W, Calls Tryz.prog 126 #[.int .i64 p] W fun e w' => e = .returned (.bool bp) ∧ w' = W) := fun W => by have := isNumber_any p W; rwa [hbp] at this
  have HS : Hid (∀ W, Calls Tryz.prog 126 #[.int .i64 s] W fun e w' => e = .returned (.bool bs) ∧ w' = W) := fun W => by have := isNumber_any s W; rwa [hbs] at this
  rw [hbp, hbs]
  clear hbp hbs
  by_cases h1 : (1 : Int) ≤ k.size
  · by_cases h2 : (k.size : Int) ≤ 24
    · go_enter Tryz.func84, Tryz.ntmps84
      go_wp2_with fail
      refine (HP.out _).mono ?_
      rintro e w1 ⟨rfl, h⟩
      obtain rfl := h.symm
      cases bp with
      | true =>
        go_wp2_with fail
        refine (HS.out _).mono ?_
        rintro e w1 ⟨rfl, h⟩
        obtain rfl := h.symm
        go_wp2_with fail
        go_ret
        exact ⟨by simp [h1, h2], HO.out⟩
      | false =>
        go_wp2_with fail
        go_ret
        exact ⟨by simp, HO.out⟩
    · go_enter Tryz.func84, Tryz.ntmps84
      go_wp2_with fail
      go_ret
      exact ⟨by simp; intros; omega, HO.out⟩
  · go_enter Tryz.func84, Tryz.ntmps84
    go_wp2_with fail
    go_ret
    exact ⟨by simp; intros; omega, HO.out⟩
theorem ba_eqN {s t : ByteArray} (h : s = t) : (s.toList == t.toList) = true := by simp [h]
theorem ba_neN {s t : ByteArray} (h : ¬ s = t) : (s.toList == t.toList) = false := by
  cases e : (s.toList == t.toList) with
  | false => rfl
  | true =>
    refine absurd ?_ h
    have e' : s.toList = t.toList := by simpa using e
    rw [ByteArray.toList_eq, ByteArray.toList_eq] at e'
    exact bl_injN e'
theorem eqE_run (a b : En) (w : World) : (binOp .eql 89 (.agg #[.string a.key, .int .i64 a.page, .int .i64 a.slot]) (.agg #[.string b.key, .int .i64 b.page, .int .i64 b.slot])).run Tryz.prog w = .ok (.bool (decide (a = b))) w := by
  obtain ⟨k, p, s⟩ := a
  obtain ⟨k', p', s'⟩ := b
  by_cases h1 : k = k'
  · by_cases h2 : p = p'
    · by_cases h3 : s = s'
      · subst h1 h2 h3
        simp [go_sem]
      · simp [go_sem, h1, h2, h3]
    · simp [go_sem, h1, h2]
  · have h4 := ba_neN h1
    have h5 : ¬ k.toList = k'.toList := by simpa using h4
    simp [go_sem, h1, h5]
theorem isLeast_any (e : En) (w : World) : Calls Tryz.prog 127 #[e.agg] w fun x w' => x = .returned (.bool (decide (e = noE))) ∧ Only (fun _ => False) w w' := by
  have he : ∀ W, (binOp .eql 89 (.agg #[.string e.key, .int .i64 e.page, .int .i64 e.slot]) (.agg #[.string ⟨#[]⟩, .int .i64 0, .int .i64 0])).run Tryz.prog W = .ok (.bool (decide (e = noE))) W := fun W => eqE_run e noE W
  obtain ⟨b, hb⟩ : ∃ b, decide (e = noE) = b := ⟨_, rfl⟩
  rw [hb] at he ⊢
  clear hb
  obtain ⟨k, p, s⟩ := e
  unfold En.agg
  simp only [] at he ⊢
  have HO := hide (onlyA w (.cells #[.string k, .int .i64 p, .int .i64 s] 89))
  go_enter Tryz.func127, Tryz.ntmps127
  go_wp2_with fail
  go_ret
  exact ⟨rfl, HO.out⟩
theorem separates_any (e : En) (w : World) : Calls Tryz.prog 145 #[e.agg] w fun x w' => x = .returned (.bool e.sp) ∧ Only (fun _ => False) w w' := by
  have HL : Hid (∀ W, Calls Tryz.prog 127 #[e.agg] W fun x w' => x = .returned (.bool (decide (e = noE))) ∧ Only (fun _ => False) W w') := fun W => isLeast_any e W
  have HE : Hid (∀ W, Calls Tryz.prog 84 #[e.agg] W fun x w' => x = .returned (.bool e.ok) ∧ Only (fun _ => False) W w') := fun W => isEntry_any e W
  unfold En.sp
  obtain ⟨b, hb⟩ : ∃ b, decide (e = noE) = b := ⟨_, rfl⟩
  obtain ⟨c, hc⟩ : ∃ c, e.ok = c := ⟨_, rfl⟩
  rw [hb] at HL ⊢
  rw [hc] at HE ⊢
  clear hb hc
  obtain ⟨k, p, s⟩ := e
  unfold En.agg at HL HE ⊢
  simp only [] at HL HE ⊢
  have HO := hide (onlyA w (.cells #[.string k, .int .i64 p, .int .i64 s] 89))
  cases b with
  | true =>
    go_enter Tryz.func145, Tryz.ntmps145
    go_wp2_with fail
    refine (HL.out _).mono ?_
    rintro x w1 ⟨rfl, ho⟩
    have HO1 := hide (o2 HO.out ho)
    clear ho
    go_wp2_with fail
    go_ret
    exact ⟨rfl, HO1.out⟩
  | false =>
    have c0 : (w.alloc (.cells #[.string k, .int .i64 p, .int .i64 s] 89)).cell? ⟨w.heap.size, 0, none⟩ = some (.string k) := by simp
    have c1 : (w.alloc (.cells #[.string k, .int .i64 p, .int .i64 s] 89)).cell? ⟨w.heap.size, 1, none⟩ = some (.int .i64 p) := by simp
    have c2 : (w.alloc (.cells #[.string k, .int .i64 p, .int .i64 s] 89)).cell? ⟨w.heap.size, 2, none⟩ = some (.int .i64 s) := by simp
    have hz : w.heap.size < (w.alloc (.cells #[.string k, .int .i64 p, .int .i64 s] 89)).heap.size := by simp
    have HC := hide (And.intro c0 (And.intro c1 (And.intro c2 hz)))
    clear c0 c1 c2 hz
    go_enter Tryz.func145, Tryz.ntmps145
    go_wp2_with fail
    refine (HL.out _).mono ?_
    rintro x w1 ⟨rfl, ho⟩
    have HO1 := hide (o2 HO.out ho)
    have d0 := (ho.cell (p := ⟨w.heap.size, 0, none⟩) HC.out.2.2.2 (fun h => h)).trans HC.out.1
    have d1 := (ho.cell (p := ⟨w.heap.size, 1, none⟩) HC.out.2.2.2 (fun h => h)).trans HC.out.2.1
    have d2 := (ho.cell (p := ⟨w.heap.size, 2, none⟩) HC.out.2.2.2 (fun h => h)).trans HC.out.2.2.1
    clear ho
    go_wp2_with fail
    refine (HE.out _).mono ?_
    rintro x w2 ⟨rfl, ho⟩
    have HO2 := hide (o2 HO1.out ho)
    clear ho
    go_wp2_with fail
    go_ret
    exact ⟨by simp, HO2.out⟩
theorem bless_lt {a b : ByteArray} : Op.bytesLess a.toList b.toList = decide (bl a < bl b) := by
  rw [bytesLess_eq, ByteArray.toList_eq, ByteArray.toList_eq]
set_option maxHeartbeats 800000 in
theorem isAhead_any (a b : En) (w : World) : Calls Tryz.prog 156 #[a.agg, b.agg] w fun x w' => x = .returned (.bool (decide (a.lt b))) ∧ Only (fun _ => False) w w' := by
  obtain ⟨k, p, s⟩ := a
  obtain ⟨k', p', s'⟩ := b
  unfold En.agg En.lt
  simp only []
  have HO := hide (o2 (onlyA w (.cells #[.string k, .int .i64 p, .int .i64 s] 89)) (onlyA _ (.cells #[.string k', .int .i64 p', .int .i64 s'] 89)))
  obtain ⟨B, hB⟩ : ∃ B, decide (if k = k' then (if p = p' then s < s' else p < p') else bl k < bl k') = B := ⟨_, rfl⟩
  rw [hB]
  have HB := hide hB
  clear hB
  by_cases h1 : k = k'
  · have e1 := ba_eqN h1
    have H1 := hide h1
    clear h1
    by_cases h2 : p = p'
    · have e2 : (p == p') = true := by simpa using h2
      have H2 := hide h2
      clear h2
      go_enter Tryz.func156, Tryz.ntmps156
      go_wp2_with fail
      go_ret
      exact ⟨ret_bool (by rw [← HB.out]; exact decide_eq_decide.2 (by rw [if_pos H1.out, if_pos H2.out])), HO.out⟩
    · have e2 : (p == p') = false := by simpa using h2
      have H2 := hide h2
      clear h2
      go_enter Tryz.func156, Tryz.ntmps156
      go_wp2_with fail
      go_ret
      exact ⟨ret_bool (by rw [← HB.out]; exact decide_eq_decide.2 (by rw [if_pos H1.out, if_neg H2.out])), HO.out⟩
  · have e1 := ba_neN h1
    have H1 := hide h1
    clear h1
    go_enter Tryz.func156, Tryz.ntmps156
    go_wp2_with fail
    go_ret
    exact ⟨ret_bool (by rw [← HB.out, bless_lt]; exact decide_eq_decide.2 (by rw [if_neg H1.out])), HO.out⟩
/-- An entry in a block. -/
structure Eb (w : World) (b o : Nat) (e : En) : Prop where
  c0 : w.cell? ⟨b, o, none⟩ = some (.string e.key)
  c1 : w.cell? ⟨b, o + 1, none⟩ = some (.int .i64 e.page)
  c2 : w.cell? ⟨b, o + 2, none⟩ = some (.int .i64 e.slot)
  lt : b < w.heap.size
theorem Eb.kept {S : Nat → Prop} {w w' : World} {b o : Nat} {e : En} (h : Eb w b o e) (ho : Only S w w') (hS : ¬ S b) : Eb w' b o e :=
  ⟨(ho.cell (p := ⟨b, o, none⟩) h.lt hS).trans h.c0, (ho.cell (p := ⟨b, o + 1, none⟩) h.lt hS).trans h.c1, (ho.cell (p := ⟨b, o + 2, none⟩) h.lt hS).trans h.c2, Nat.lt_of_lt_of_le h.lt ho.size⟩
theorem Eb.more {w w' : World} {b o : Nat} {e : En} (h : Eb w b o e) (ho : Only (fun _ => False) w w') : Eb w' b o e := h.kept ho (fun h => h)
theorem Eb.new (w : World) (e : En) : Eb (w.alloc (.cells #[.string e.key, .int .i64 e.page, .int .i64 e.slot] 89)) w.heap.size 0 e := ⟨by simp, by simp, by simp, by simp⟩
set_option maxHeartbeats 800000 in
theorem compare_any (a b : En) (w : World) : Calls Tryz.prog 125 #[a.agg, b.agg] w fun x w' => x = .returned (.int .i64 (cmpE a b)) ∧ Only (fun _ => False) w w' := by
  have he := eqE_run a b
  have HA : Hid (∀ W, Calls Tryz.prog 156 #[a.agg, b.agg] W fun x w' => x = .returned (.bool (decide (a.lt b))) ∧ Only (fun _ => False) W w') := fun W => isAhead_any a b W
  have HO := hide (o2 (onlyA w (.cells #[.string a.key, .int .i64 a.page, .int .i64 a.slot] 89)) (onlyA _ (.cells #[.string b.key, .int .i64 b.page, .int .i64 b.slot] 89)))
  by_cases h : a = b
  · have hz : cmpE a b = 0 := cmpE_zero.2 h
    have hd : decide (a = b) = true := decide_eq_true h
    rw [hd] at he
    rw [hz]
    clear h hd hz HA
    obtain ⟨k, p, s⟩ := a
    obtain ⟨k', p', s'⟩ := b
    unfold En.agg
    simp only [] at he HO ⊢
    go_enter Tryz.func125, Tryz.ntmps125
    go_wp2_with fail
    go_ret
    exact ⟨rfl, HO.out⟩
  · have hd : decide (a = b) = false := decide_eq_false h
    rw [hd] at he
    have hz : cmpE a b = if a.lt b then -1 else 1 := by unfold cmpE; rw [if_neg h]
    rw [hz]
    clear h hd hz
    by_cases h : a.lt b
    · have hd : decide (a.lt b) = true := decide_eq_true h
      rw [hd] at HA
      rw [if_pos h]
      clear h hd
      obtain ⟨k, p, s⟩ := a
      obtain ⟨k', p', s'⟩ := b
      unfold En.agg at HA ⊢
      simp only [] at he HO HA ⊢
      go_enter Tryz.func125, Tryz.ntmps125
      go_wp2_with fail
      refine (HA.out _).mono ?_
      rintro x w1 ⟨rfl, ho⟩
      have HO1 := hide (o2 HO.out ho)
      clear ho
      go_wp2_with fail
      go_ret
      exact ⟨rfl, HO1.out⟩
    · have hd : decide (a.lt b) = false := decide_eq_false h
      rw [hd] at HA
      rw [if_neg h]
      clear h hd
      obtain ⟨k, p, s⟩ := a
      obtain ⟨k', p', s'⟩ := b
      unfold En.agg at HA ⊢
      simp only [] at he HO HA ⊢
      go_enter Tryz.func125, Tryz.ntmps125
      go_wp2_with fail
      refine (HA.out _).mono ?_
      rintro x w1 ⟨rfl, ho⟩
      have HO1 := hide (o2 HO.out ho)
      clear ho
      go_wp2_with fail
      go_ret
      exact ⟨rfl, HO1.out⟩
theorem nums_two (a b : Int) : nums [a, b] = sev a.toNat ++ sev b.toNat := by simp [nums]
theorem Wr.only {w W W' : World} {b : Nat} {row row' : Option Nat} {l : List UInt8} (h : Wr W b row l) (hb : w.heap.size ≤ b) (ho : Only (fun _ => False) w W) (hg : WGro W W' b row row') : Only (fun _ => False) w W' := by
  refine ho.trans hg.only ?_
  rintro i hi (e | e)
  · omega
  · have := (h.rowLt i e.symm).1
    omega
/-- Numbers that a slice of a block has. -/
def Nms (w : World) (ao : Option Addr) (zs : List Int) : Prop := zs = [] ∨ ∃ g o, ao = some ⟨g, o, none⟩ ∧ g < w.heap.size ∧ ∀ k, k < zs.length → w.cell? ⟨g, o + k, none⟩ = some (.int .i64 (zs.getD k 0))
theorem wnum_nms (w W : World) (b : Nat) (row : Option Nat) (l : List UInt8) (ao : Option Addr) (cap : Nat) (zs : List Int) (hW : Wr W b row l) (hN : Nms w ao zs) (ho : Only (fun _ => False) w W) (hb : w.heap.size ≤ b) (hz : ∀ k, k < zs.length → zs.getD k 0 < 9223372036854775808) (hl : l.length + 10 * zs.length + 10 ≤ 158329674399744) :
    Calls Tryz.prog 66 #[.pointer (some ⟨b, 0, none⟩), .slice ao zs.length cap] W fun e w' => e = .returned (.tuple #[]) ∧ ∃ row', Wr w' b row' (l ++ nums zs) ∧ WGro W w' b row row' := by
  rcases hN with rfl | ⟨g, o, rfl, hg, hc⟩
  · refine (wnum_none W b ao cap).mono ?_
    rintro e w1 ⟨rfl, rfl⟩
    exact ⟨rfl, row, by simpa [nums] using hW, WGro.refl _ _ _⟩
  · refine wnum_any W b row l zs g o cap hW (fun k hk => (ho.cell (p := ⟨g, o + k, none⟩) hg (fun h => h)).trans (hc k hk)) hz (by omega) ?_ (Nat.lt_of_lt_of_le hg ho.size) hl
    intro e
    have := (hW.rowLt g e.symm).1
    omega
theorem wnum_two (w : World) (b : Nat) (row : Option Nat) (l : List UInt8) (y z : Int) (hW : Wr w b row l) (hy : y < 9223372036854775808) (hz : z < 9223372036854775808) (hl : l.length + 40 ≤ 158329674399744) :
    Calls Tryz.prog 66 #[.pointer (some ⟨b, 0, none⟩), .slice (some ⟨w.heap.size, 0, none⟩) 2 2] (w.alloc (.cells #[.int .i64 y, .int .i64 z] 3)) fun e w' => e = .returned (.tuple #[]) ∧ ∃ row', Wr w' b row' (l ++ nums [y, z]) ∧ WGro w w' b row row' := by
  have hW1 : Wr (w.alloc (.cells #[.int .i64 y, .int .i64 z] 3)) b row l := hW.kept (Only.alloc (fun _ => False) w _) (fun h => h) (fun _ _ h => h)
  have hb := hW.lt
  have h := wnum_any (w.alloc (.cells #[.int .i64 y, .int .i64 z] 3)) b row l [y, z] w.heap.size 0 2 hW1
    (by intro k hk
        match k, hk with
        | 0, _ => simp
        | 1, _ => simp)
    (by intro k hk
        match k, hk with
        | 0, _ => simpa using hy
        | 1, _ => simpa using hz)
    (by omega) (by intro e; have := (hW.rowLt _ e.symm).2; omega) (by simp) (by simp; omega)
  refine Calls.mono h ?_
  rintro e w' ⟨he, row', h1, h2⟩
  exact ⟨he, row', h1, (WGro.alloc w _ b row).trans h2⟩
set_option maxHeartbeats 800000 in
theorem laid_any (e : En) (w : World) (ao : Option Addr) (cap : Nat) (zs : List Int) (hf : e.few) (hN : Nms w ao zs) (hl : zs.length ≤ 1) (hz : ∀ k, k < zs.length → zs.getD k 0 < 9223372036854775808) :
    Calls Tryz.prog 88 #[e.agg, .slice ao zs.length cap] w fun x w' => x = .returned (.string (str (e.lay ++ nums zs))) ∧ Only (fun _ => False) w w' := by
  have HN := hide hN
  have HZ := hide hz
  have HO := hide (onlyA w (.cells #[.string e.key, .int .i64 e.page, .int .i64 e.slot] 89))
  have HL : Hid (e.lay = (sev e.key.size ++ e.key.data.toList) ++ nums [e.page, e.slot]) := by
    unfold Hid
    rw [nums_two]
    rfl
  have HK : Hid (e.key.size ≤ 24) := hf.1
  have HP : Hid (e.page < 9223372036854775808 ∧ e.slot < 9223372036854775808) := ⟨by have := hf.2; omega, by have := hf.2; omega⟩
  have HEb := hide (Eb.new w e)
  have HLL : Hid (e.lay.length + 10 * zs.length ≤ 55) := by
    have := lay_len hf.1
    unfold Hid
    omega
  obtain ⟨L, hL⟩ : ∃ L, e.lay = L := ⟨_, rfl⟩
  rw [hL] at HL HLL ⊢
  clear hN hz hf hL
  obtain ⟨k, p, s⟩ := e
  unfold En.agg
  simp only [] at HO HL HK HP HEb ⊢
  obtain ⟨W0, hW0⟩ : ∃ W, w.alloc (.cells #[.string k, .int .i64 p, .int .i64 s] 89) = W := ⟨_, rfl⟩
  go_enter Tryz.func88, Tryz.ntmps88
  rw [hW0] at HO HEb
  go_wp2_with fail
  refine (new_any _).mono ?_
  rintro x w1 ⟨rfl, hw1⟩
  have HW1 := hide (Wr.new W0)
  have HO1 := hide (o2 HO.out (onlyA W0 (.cells #[.slice none 0 0] 189)))
  have HE1 := hide (HEb.out.more (onlyA W0 (.cells #[.slice none 0 0] 189)))
  have hs0 : w.heap.size < W0.heap.size := HEb.out.lt
  have HS0 := hide hs0
  rw [← hw1] at HW1 HO1 HE1
  clear hw1 hs0 hW0 HO HEb
  have c0 := HE1.out.c0
  go_wp2_with fail
  refine (wtext_any w1 W0.heap.size none [] k HW1.out (by have := HK.out; simp; omega)).mono ?_
  rintro x w2 ⟨rfl, row2, hW2, hg2⟩
  have HO2 := hide (HW1.out.only (Nat.le_of_lt HS0.out) HO1.out hg2)
  have HE2 := hide (HE1.out.kept hg2.only (by rintro (h | h)
                                              · have := HS0.out; omega
                                              · cases h))
  have HW2 := hide hW2
  rw [List.nil_append] at HW2
  clear hW2 hg2 c0 HE1 HO1 HW1
  have c1 := HE2.out.c1
  have c2 := HE2.out.c2
  simp only [Nat.zero_add] at c1 c2
  go_wp2_with fail
  refine (wnum_two w2 W0.heap.size row2 _ p s HW2.out HP.out.1 HP.out.2 (by have := HK.out; have h1 := sev_le k.size; have h2 := bl_len k; unfold bl at h2; simp only [List.length_append]; omega)).mono ?_
  rintro x w3 ⟨rfl, row3, hW3, hg3⟩
  rw [← HL.out] at hW3
  have HO3 := hide (HW2.out.only (Nat.le_of_lt HS0.out) HO2.out hg3)
  have HW3 := hide hW3
  clear hW3 hg3 c1 c2 HE2 HO2 HW2
  go_wp2_with fail
  refine (wnum_nms w w3 W0.heap.size row3 _ ao cap zs HW3.out HN.out HO3.out (Nat.le_of_lt HS0.out) HZ.out (by have := HLL.out; omega)).mono ?_
  rintro x w4 ⟨rfl, row4, hW4, hg4⟩
  have HO4 := hide (HW3.out.only (Nat.le_of_lt HS0.out) HO3.out hg4)
  have HW4 := hide hW4
  clear hW4 hg4 HO3 HW3
  go_wp2_with fail
  refine (wbytes_any w4 W0.heap.size row4 _ HW4.out).mono ?_
  rintro x w5 ⟨rfl, rfl⟩
  go_wp2_with fail
  go_ret
  exact ⟨rfl, HO4.out⟩
theorem laid_one (e : En) (w : World) (hf : e.few) : Calls Tryz.prog 88 #[e.agg, .slice none 0 0] w fun x w' => x = .returned (.string e.enc) ∧ Only (fun _ => False) w w' := by
  have h := laid_any e w none 0 [] hf (.inl rfl) (by simp) (fun k hk => by simp at hk)
  have e0 : e.lay ++ nums [] = e.lay := by simp [nums]
  rw [e0] at h
  exact h
/-- An entry that a variable holds. -/
structure Ev (w : World) (b : Nat) (e : En) : Prop where
  c0 : w.cell? ⟨b, 0, none⟩ = some (.string e.key)
  c1 : w.cell? ⟨b, 1, none⟩ = some (.int .i64 e.page)
  c2 : w.cell? ⟨b, 2, none⟩ = some (.int .i64 e.slot)
  f0 : w.frozen? ⟨b, 0, none⟩ = false
  f1 : w.frozen? ⟨b, 1, none⟩ = false
  f2 : w.frozen? ⟨b, 2, none⟩ = false
  lt : b < w.heap.size
theorem Ev.kept {S : Nat → Prop} {w w' : World} {b : Nat} {e : En} (h : Ev w b e) (ho : Only S w w') (hS : ¬ S b) : Ev w' b e :=
  ⟨(ho.cell (p := ⟨b, 0, none⟩) h.lt hS).trans h.c0, (ho.cell (p := ⟨b, 1, none⟩) h.lt hS).trans h.c1, (ho.cell (p := ⟨b, 2, none⟩) h.lt hS).trans h.c2, (ho.frozen (p := ⟨b, 0, none⟩) h.lt hS).trans h.f0, (ho.frozen (p := ⟨b, 1, none⟩) h.lt hS).trans h.f1, (ho.frozen (p := ⟨b, 2, none⟩) h.lt hS).trans h.f2, Nat.lt_of_lt_of_le h.lt ho.size⟩
theorem Ev.more {w w' : World} {b : Nat} {e : En} (h : Ev w b e) (ho : Only (fun _ => False) w w') : Ev w' b e := h.kept ho (fun h => h)
theorem Ev.new (w : World) (e : En) : Ev (w.alloc (.cells #[.string e.key, .int .i64 e.page, .int .i64 e.slot] 89)) w.heap.size e := ⟨by simp, by simp, by simp, by simp, by simp, by simp, by simp⟩
theorem Ev.zero (w : World) : Ev (w.alloc (.cells #[.string ⟨#[]⟩, .int .i64 0, .int .i64 0] 89)) w.heap.size noE := Ev.new w noE
theorem othN (W : World) (b i j : Nat) (v x : Value) (hij : i ≠ j) (hx : W.cell? ⟨b, j, none⟩ = some x) : (W.setCell ⟨b, i, none⟩ v).cell? ⟨b, j, none⟩ = some x :=
  (World.cell?_setCell_other _ _ _ _ (by intro e; injection e; omega)).trans hx
theorem Ev.s0 {w : World} {b : Nat} {e : En} (h : Ev w b e) (x : ByteArray) : Ev (w.setCell ⟨b, 0, none⟩ (.string x)) b ⟨x, e.page, e.slot⟩ :=
  ⟨World.cell?_setCell_same _ _ _ h.c0, othN _ _ _ _ _ _ (by omega) h.c1, othN _ _ _ _ _ _ (by omega) h.c2, by simpa using h.f0, by simpa using h.f1, by simpa using h.f2, by simpa using h.lt⟩
theorem Ev.s1 {w : World} {b : Nat} {e : En} (h : Ev w b e) (x : Int) : Ev (w.setCell ⟨b, 1, none⟩ (.int .i64 x)) b ⟨e.key, x, e.slot⟩ :=
  ⟨othN _ _ _ _ _ _ (by omega) h.c0, World.cell?_setCell_same _ _ _ h.c1, othN _ _ _ _ _ _ (by omega) h.c2, by simpa using h.f0, by simpa using h.f1, by simpa using h.f2, by simpa using h.lt⟩
theorem Ev.s2 {w : World} {b : Nat} {e : En} (h : Ev w b e) (x : Int) : Ev (w.setCell ⟨b, 2, none⟩ (.int .i64 x)) b ⟨e.key, e.page, x⟩ :=
  ⟨othN _ _ _ _ _ _ (by omega) h.c0, othN _ _ _ _ _ _ (by omega) h.c1, World.cell?_setCell_same _ _ _ h.c2, by simpa using h.f0, by simpa using h.f1, by simpa using h.f2, by simpa using h.lt⟩
theorem Ev.all {w : World} {b : Nat} {u : En} (h : Ev w b u) (e : En) : Ev (((w.setCell ⟨b, 0, none⟩ (.string e.key)).setCell ⟨b, 1, none⟩ (.int .i64 e.page)).setCell ⟨b, 2, none⟩ (.int .i64 e.slot)) b e := ((h.s0 e.key).s1 e.page).s2 e.slot
theorem Only.three (w : World) (b : Nat) (v0 v1 v2 : Value) : Only (fun k => k = b) w (((w.setCell ⟨b, 0, none⟩ v0).setCell ⟨b, 1, none⟩ v1).setCell ⟨b, 2, none⟩ v2) := by
  have st : ∀ (W : World) (i : Nat) (v : Value), Only (fun k => k = b) W (W.setCell ⟨b, i, none⟩ v) := fun W i v => Only.setCell W ⟨b, i, none⟩ v rfl
  exact ((st _ 0 _).trans (st _ 1 _) (fun _ _ h => h)).trans (st _ 2 _) (fun _ _ h => h)
theorem load_ev {w : World} {b : Nat} {e : En} (h : Ev w b e) : (loadVar 89 ⟨b, 0, none⟩).run Tryz.prog w = .ok e.agg w := by
  have c0 := h.c0
  have c1 := h.c1
  have c2 := h.c2
  simp [loadVar, go_sem, c0, c1, c2, En.agg]
theorem results_ev1 {fn : Func} {p : Tmp} (h : fn.results = #[.cell p 89]) {tmps : Array Value} {w : World} {b : Nat} {e : En} (hp : tmps.getD p undef = .pointer (some ⟨b, 0, none⟩)) (hP : Ev w b e) :
    (results fn tmps).run Tryz.prog w = .ok e.agg w := by
  have e : (asAddr (.pointer (some ⟨b, 0, none⟩))).run Tryz.prog w = .ok ⟨b, 0, none⟩ w := rfl
  have hp' : tmps[p]?.getD undef = .pointer (some ⟨b, 0, none⟩) := by simpa using hp
  simp only [results, h]
  simp [Sem.run_bind, Result.andThen, hp', e, load_ev hP]
theorem results_ev {fn : Func} {p u : Tmp} (h : fn.results = #[.cell p 89, .tmp u]) {tmps : Array Value} {w : World} {b : Nat} {t : En} (hp : tmps.getD p undef = .pointer (some ⟨b, 0, none⟩)) (hP : Ev w b t) :
    (results fn tmps).run Tryz.prog w = .ok (.tuple #[t.agg, tmps.getD u undef]) w := by
  have e : (asAddr (.pointer (some ⟨b, 0, none⟩))).run Tryz.prog w = .ok ⟨b, 0, none⟩ w := rfl
  rw [results_cell_tmp h, hp, e]
  simp only [Result.andThen, load_ev hP]
theorem results_ev3 {fn : Func} {p u y : Tmp} (h : fn.results = #[.cell p 89, .tmp u, .tmp y]) {tmps : Array Value} {w : World} {b : Nat} {t : En} (hp : tmps.getD p undef = .pointer (some ⟨b, 0, none⟩)) (hP : Ev w b t) :
    (results fn tmps).run Tryz.prog w = .ok (.tuple #[t.agg, tmps.getD u undef, tmps.getD y undef]) w := by
  have e : (asAddr (.pointer (some ⟨b, 0, none⟩))).run Tryz.prog w = .ok ⟨b, 0, none⟩ w := rfl
  have hp' : tmps[p]?.getD undef = .pointer (some ⟨b, 0, none⟩) := by simpa using hp
  simp only [results, h]
  simp [Sem.run_bind, Result.andThen, hp', e, load_ev hP]
/-- A text, a number taken, if nothing was wrong before. -/
theorem rtext_stN (w : World) (r : Nat) (s : ByteArray) (z : Int) (hR : Rd w r s 0) :
    Calls Tryz.prog 167 #[.pointer (some ⟨r, 0, none⟩), .int .i64 z] w fun e w' => e = .returned (.string (str (rdT z (bl s)).1)) ∧ Rd w' r (str (rdT z (bl s)).2.1) (rdT z (bl s)).2.2 ∧ Only (fun k => k = r) w w' := rtext_any w r s z hR
theorem rnum_st (w : World) (r : Nat) (l : List UInt8) (x z : Int) (hR : Rd w r (str l) x) :
    Calls Tryz.prog 144 #[.pointer (some ⟨r, 0, none⟩), .int .i64 z] w fun e w' => e = .returned (.int .i64 (rnS (l, x) z).1) ∧ Rd w' r (str (rnS (l, x) z).2.1) (rnS (l, x) z).2.2 ∧ Only (fun k => k = r) w w' := by
  unfold rnS
  by_cases hx : x = 0
  · subst hx
    rw [if_pos rfl]
    exact rnum_any w r (str l) z hR
  · rw [if_neg hx]
    refine (rnum_err w r x z hR.c1 (by simpa using hx)).mono ?_
    rintro e w' ⟨he, rfl⟩
    exact ⟨he, hR, Only.refl _ _⟩
theorem rend_stN (w : World) (r : Nat) (l : List UInt8) (x : Int) (hR : Rd w r (str l) x) :
    Calls Tryz.prog 143 #[.pointer (some ⟨r, 0, none⟩)] w fun e w' => e = .returned (.int .i64 (endE l x)) ∧ w' = w := by
  unfold endE
  by_cases hx : x = 0
  · subst hx
    rw [if_pos rfl]
    have h := rend_ok w r (str l) hR.c1 hR.c0
    rw [str_size] at h
    exact h
  · rw [if_neg hx]
    exact rend_err w r x hR.c1 (by simpa using hx)
/-- Variables of taken: what it answers, and the entry that it fills. -/
structure Tk (w W : World) (r : Nat) (l : List UInt8) (x : Int) (e : En) : Prop where
  res : Ev W w.heap.size noE
  ent : Ev W (w.heap.size + 1) e
  rd : Rd W r (str l) x
  only : Only (fun k => k = r) w W
  lt : r < w.heap.size
theorem Tk.set {w W : World} {r : Nat} {l : List UInt8} {x : Int} {e e' : En} (h : Tk w W r l x e) (i : Nat) (v : Value) (ht : Ev (W.setCell ⟨w.heap.size + 1, i, none⟩ v) (w.heap.size + 1) e') : Tk w (W.setCell ⟨w.heap.size + 1, i, none⟩ v) r l x e' := by
  have ho : Only (fun k => k = w.heap.size + 1) W (W.setCell ⟨w.heap.size + 1, i, none⟩ v) := Only.setCell W _ v rfl
  have := h.lt
  exact ⟨h.res.kept ho (by omega), ht, h.rd.kept ho (by omega), h.only.trans ho (fun j hj e => by omega), h.lt⟩
theorem Tk.take {w W W' : World} {r : Nat} {l l' : List UInt8} {x x' : Int} {e : En} (h : Tk w W r l x e) (hr : Rd W' r (str l') x') (ho : Only (fun k => k = r) W W') : Tk w W' r l' x' e := by
  have := h.lt
  exact ⟨h.res.kept ho (by omega), h.ent.kept ho (by omega), hr, h.only.trans ho (fun j hj e => e), h.lt⟩
set_option maxHeartbeats 800000 in
theorem taken_any (w : World) (r : Nat) (s : ByteArray) (hR : Rd w r s 0) (hr : r < w.heap.size) :
    Calls Tryz.prog 142 #[.pointer (some ⟨r, 0, none⟩)] w fun e w' => e = .returned (takeE (bl s)).1.agg ∧ Rd w' r (str (takeE (bl s)).2.1) (takeE (bl s)).2.2 ∧ Only (fun k => k = r) w w' := by
  have H0 : Hid (Tk w ((w.alloc (.cells #[.string ⟨#[]⟩, .int .i64 0, .int .i64 0] 89)).alloc (.cells #[.string ⟨#[]⟩, .int .i64 0, .int .i64 0] 89)) r (bl s) 0 noE) := by
    have e1 := Ev.zero (w.alloc (.cells #[.string ⟨#[]⟩, .int .i64 0, .int .i64 0] 89))
    rw [World.size_alloc] at e1
    refine ⟨(Ev.zero w).more (onlyA _ _), e1, ?_, (o2 (onlyA _ _) (onlyA _ _)).mono (fun _ _ h => h.elim), hr⟩
    rw [str_bl]
    exact (hR.alloc _).alloc _
  obtain ⟨P, hP⟩ : ∃ P, rdT 24 (bl s) = P := ⟨_, rfl⟩
  obtain ⟨A, hA⟩ : ∃ A, rnS P.2 65535 = A := ⟨_, rfl⟩
  obtain ⟨C, hC⟩ : ∃ C, rnS A.2 65535 = C := ⟨_, rfl⟩
  have HT : Hid (takeE (bl s) = (⟨str P.1, A.1, C.1⟩, C.2)) := by
    unfold Hid takeE
    rw [hP, hA, hC]
  have HP := hide hP
  have HA := hide hA
  have HC := hide hC
  rw [HT.out]
  clear hP hA hC hR hr
  obtain ⟨K, hK⟩ : ∃ K, str P.1 = K := ⟨_, rfl⟩
  have HK := hide hK
  clear hK
  go_enter Tryz.func142, Tryz.ntmps142
  go_upto_region 2 with fail
  obtain ⟨W0, hW0⟩ : ∃ x, (w.alloc (.cells #[.string ⟨#[]⟩, .int .i64 0, .int .i64 0] 89)).alloc (.cells #[.string ⟨#[]⟩, .int .i64 0, .int .i64 0] 89) = x := ⟨_, rfl⟩
  rw [hW0] at H0 ⊢
  clear hW0
  go_wp2_with fail
  have h1 := H0.out.rd
  rw [str_bl] at h1
  refine (rtext_stN W0 r s 24 h1).mono ?_
  clear h1
  rintro e W1 ⟨rfl, hr1, ho1⟩
  rw [HP.out] at hr1 ⊢
  rw [HK.out]
  have H1 := hide (H0.out.take hr1 ho1)
  clear hr1 ho1 H0
  have c0 := H1.out.ent.c0
  have f0 := H1.out.ent.f0
  go_wp2_with fail
  have H2 := hide (H1.out.set 0 _ (H1.out.ent.s0 K))
  clear c0 f0 H1
  obtain ⟨W2, hW2⟩ : ∃ x, W1.setCell ⟨w.heap.size + 1, 0, none⟩ (.string K) = x := ⟨_, rfl⟩
  rw [hW2] at H2 ⊢
  clear hW2
  refine (rnum_st W2 r P.2.1 P.2.2 65535 H2.out.rd).mono ?_
  rintro e W3 ⟨rfl, hr3, ho3⟩
  rw [HA.out] at hr3 ⊢
  have H3 := hide (H2.out.take hr3 ho3)
  clear hr3 ho3 H2
  have c1 := H3.out.ent.c1
  have f1 := H3.out.ent.f1
  go_wp2_with fail
  have H4 := hide (H3.out.set 1 _ (H3.out.ent.s1 A.1))
  clear c1 f1 H3
  obtain ⟨W4, hW4⟩ : ∃ x, W3.setCell ⟨w.heap.size + 1, 1, none⟩ (.int .i64 A.1) = x := ⟨_, rfl⟩
  rw [hW4] at H4 ⊢
  clear hW4
  refine (rnum_st W4 r A.2.1 A.2.2 65535 H4.out.rd).mono ?_
  rintro e W5 ⟨rfl, hr5, ho5⟩
  rw [HC.out] at hr5 ⊢
  have H5 := hide (H4.out.take hr5 ho5)
  clear hr5 ho5 H4
  have c2 := H5.out.ent.c2
  have f2 := H5.out.ent.f2
  go_upto_region 5 with fail
  have H6 := hide (H5.out.set 2 _ (H5.out.ent.s2 C.1))
  clear c2 f2 H5
  obtain ⟨W6, hW6⟩ : ∃ x, W5.setCell ⟨w.heap.size + 1, 2, none⟩ (.int .i64 C.1) = x := ⟨_, rfl⟩
  rw [hW6] at H6 ⊢
  clear hW6
  have c0 := H6.out.ent.c0
  have c1 := H6.out.ent.c1
  have c2 := H6.out.ent.c2
  simp only [] at c0 c1 c2
  have r0 := H6.out.res.c0
  have r1 := H6.out.res.c1
  have r2 := H6.out.res.c2
  have g0 := H6.out.res.f0
  have g1 := H6.out.res.f1
  have g2 := H6.out.res.f2
  go_wp2_with fail
  refine bodyPost_ret (results_ev1 rfl rfl (H6.out.res.all ⟨K, A.1, C.1⟩)) rfl ?_
  have ho := Only.three W6 w.heap.size (.string K) (.int .i64 A.1) (.int .i64 C.1)
  have := H6.out.lt
  exact ⟨by rw [HK.out], H6.out.rd.kept ho (by omega), H6.out.only.trans ho (fun j hj e => by omega)⟩
/-- What Decode answers. -/
def outE (o : Option En) : Value := .tuple #[(o.getD noE).agg, .int .i64 (if o.isSome then 0 else 140)]
/-- Variables of Decode: what it answers, its reader, the entry. -/
structure Dc (w W : World) (l : List UInt8) (x : Int) : Prop where
  res : Ev W w.heap.size noE
  rd : Rd W (w.heap.size + 1) (str l) x
  only : Only (fun _ => False) w W
theorem Dc.take {w W W' : World} {l l' : List UInt8} {x x' : Int} (h : Dc w W l x) (hr : Rd W' (w.heap.size + 1) (str l') x') (ho : Only (fun k => k = w.heap.size + 1) W W') : Dc w W' l' x' :=
  ⟨h.res.kept ho (by omega), hr, h.only.trans ho (fun i hi e => by omega)⟩
theorem Dc.more {w W W' : World} {l : List UInt8} {x : Int} (h : Dc w W l x) (ho : Only (fun _ => False) W W') : Dc w W' l x :=
  ⟨h.res.more ho, h.rd.kept ho (fun h => h), o2 h.only ho⟩
set_option maxHeartbeats 800000 in
theorem decode_any (s : ByteArray) (w : World) :
    Calls Tryz.prog 99 #[.string s] w fun e w' => e = .returned (outE (decE (bl s))) ∧ Only (fun _ => False) w w' := by
  have H0 : Hid (Dc w ((w.alloc (.cells #[.string ⟨#[]⟩, .int .i64 0, .int .i64 0] 89)).alloc (.cells #[.string s, .int .i64 0] 233)) (bl s) 0) := by
    have e1 := Rd.new (w.alloc (.cells #[.string ⟨#[]⟩, .int .i64 0, .int .i64 0] 89)) s
    rw [World.size_alloc] at e1
    refine ⟨(Ev.zero w).more (onlyA _ _), by rw [str_bl]; exact e1, o2 (onlyA _ _) (onlyA _ _)⟩
  go_enter Tryz.func99, Tryz.ntmps99
  go_wp2_with fail
  refine (read_any s _).mono ?_
  rintro e w2 ⟨rfl, rfl⟩
  go_upto_region 2 with fail
  obtain ⟨W0, hW0⟩ : ∃ x, (w.alloc (.cells #[.string ⟨#[]⟩, .int .i64 0, .int .i64 0] 89)).alloc (.cells #[.string s, .int .i64 0] 233) = x := ⟨_, rfl⟩
  rw [hW0] at H0 ⊢
  clear hW0
  have h1 := H0.out.rd
  rw [str_bl] at h1
  have HTK := hide (taken_any W0 (w.heap.size + 1) s h1 h1.lt)
  clear h1
  obtain ⟨T, hT⟩ : ∃ T, takeE (bl s) = T := ⟨_, rfl⟩
  have HD : Hid (decE (bl s) = if endE T.2.1 T.2.2 = 0 ∧ T.1.ok = true then some T.1 else none) := by
    unfold Hid decE
    rw [hT]
  rw [hT] at HTK
  clear hT
  obtain ⟨e, l, x⟩ := T
  obtain ⟨k, p, q⟩ := e
  unfold En.agg at HTK
  simp only [] at HTK HD
  go_wp2_with fail
  refine HTK.out.mono ?_
  rintro e W1 ⟨rfl, hr1, ho1⟩
  go_upto_region 3 with fail
  have H1 := hide (H0.out.take hr1 ho1)
  have HV := hide (Ev.new W1 ⟨k, p, q⟩)
  have HA := hide (onlyA W1 (.cells #[.string k, .int .i64 p, .int .i64 q] 89))
  have HS : Hid (w.heap.size + 1 < W1.heap.size) := H1.out.rd.lt
  simp only [] at HV
  clear hr1 ho1 H0 HTK
  obtain ⟨W2, hW2⟩ : ∃ x, W1.alloc (.cells #[.string k, .int .i64 p, .int .i64 q] 89) = x := ⟨_, rfl⟩
  rw [hW2] at HV HA ⊢
  clear hW2
  have H2 := hide (H1.out.more HA.out)
  clear HA H1
  have HIE : Hid (∀ W, Calls Tryz.prog 84 #[.agg #[.string k, .int .i64 p, .int .i64 q]] W fun x w' => x = .returned (.bool (En.ok ⟨k, p, q⟩)) ∧ Only (fun _ => False) W w') := fun W => isEntry_any ⟨k, p, q⟩ W
  obtain ⟨O, hO⟩ : ∃ O, En.ok ⟨k, p, q⟩ = O := ⟨_, rfl⟩
  rw [hO] at HIE HD
  clear hO
  have HRE : Hid (Calls Tryz.prog 143 #[.pointer (some ⟨w.heap.size + 1, 0, none⟩)] W2 fun e w' => e = .returned (.int .i64 (endE l x)) ∧ w' = W2) := rend_stN W2 _ l x H2.out.rd
  obtain ⟨E, hE⟩ : ∃ E, endE l x = E := ⟨_, rfl⟩
  rw [hE] at HRE HD
  clear hE
  by_cases he : E = 0
  · subst he
    have HDX : Hid (decE (bl s) = if O = true then some ⟨k, p, q⟩ else none) := by unfold Hid; rw [HD.out]; simp
    clear HD
    have c0 := HV.out.c0
    have c1 := HV.out.c1
    have c2 := HV.out.c2
    simp only [] at c0 c1 c2
    go_wp2_with fail
    refine HRE.out.mono ?_
    rintro e W3 ⟨rfl, h3⟩
    obtain rfl := h3.symm
    go_wp2_with fail
    refine (HIE.out _).mono ?_
    rintro e W4 ⟨rfl, ho4⟩
    have H4 := hide (H2.out.more ho4)
    have HV4 := hide (HV.out.more ho4)
    clear ho4 c0 c1 c2
    have c0 := HV4.out.c0
    have c1 := HV4.out.c1
    have c2 := HV4.out.c2
    simp only [] at c0 c1 c2
    have r0 := H4.out.res.c0
    have r1 := H4.out.res.c1
    have r2 := H4.out.res.c2
    have g0 := H4.out.res.f0
    have g1 := H4.out.res.f1
    have g2 := H4.out.res.f2
    cases O
    · go_wp2_with fail
      refine bodyPost_ret (results_ev rfl rfl (H4.out.res.all noE)) rfl ?_
      exact ⟨by rw [HDX.out]; rfl, H4.out.only.trans (Only.three _ _ _ _ _) (fun i hi e => by omega)⟩
    · go_wp2_with fail
      refine bodyPost_ret (results_ev rfl rfl (H4.out.res.all ⟨k, p, q⟩)) rfl ?_
      exact ⟨by rw [HDX.out]; rfl, H4.out.only.trans (Only.three _ _ _ _ _) (fun i hi e => by omega)⟩
  · have he' : (E != 0) = true := by simpa using he
    have HDX : Hid (decE (bl s) = none) := by unfold Hid; rw [HD.out, if_neg (fun h => he h.1)]
    clear he HD
    have r0 := H2.out.res.c0
    have r1 := H2.out.res.c1
    have r2 := H2.out.res.c2
    have g0 := H2.out.res.f0
    have g1 := H2.out.res.f1
    have g2 := H2.out.res.f2
    go_wp2_with fail
    refine HRE.out.mono ?_
    rintro e W3 ⟨rfl, h3⟩
    obtain rfl := h3.symm
    go_wp2_with fail
    refine bodyPost_ret (results_ev rfl rfl (H2.out.res.all noE)) rfl ?_
    exact ⟨by rw [HDX.out]; rfl, H2.out.only.trans (Only.three _ _ _ _ _) (fun i hi e => by omega)⟩
/-- What Unsep answers. -/
def outS (o : Option (En × Int)) : Value := .tuple #[(o.getD (noE, 0)).1.agg, .int .i64 (o.getD (noE, 0)).2, .int .i64 (if o.isSome then 0 else 140)]
set_option maxHeartbeats 800000 in
theorem unsep_any (s : ByteArray) (w : World) :
    Calls Tryz.prog 100 #[.string s] w fun e w' => e = .returned (outS (decS (bl s))) ∧ Only (fun _ => False) w w' := by
  have H0 : Hid (Dc w ((w.alloc (.cells #[.string ⟨#[]⟩, .int .i64 0, .int .i64 0] 89)).alloc (.cells #[.string s, .int .i64 0] 233)) (bl s) 0) := by
    have e1 := Rd.new (w.alloc (.cells #[.string ⟨#[]⟩, .int .i64 0, .int .i64 0] 89)) s
    rw [World.size_alloc] at e1
    refine ⟨(Ev.zero w).more (onlyA _ _), by rw [str_bl]; exact e1, o2 (onlyA _ _) (onlyA _ _)⟩
  go_enter Tryz.func100, Tryz.ntmps100
  go_wp2_with fail
  refine (read_any s _).mono ?_
  rintro e w2 ⟨rfl, rfl⟩
  go_upto_region 2 with fail
  obtain ⟨W0, hW0⟩ : ∃ x, (w.alloc (.cells #[.string ⟨#[]⟩, .int .i64 0, .int .i64 0] 89)).alloc (.cells #[.string s, .int .i64 0] 233) = x := ⟨_, rfl⟩
  rw [hW0] at H0 ⊢
  clear hW0
  have h1 := H0.out.rd
  rw [str_bl] at h1
  have HTK := hide (taken_any W0 (w.heap.size + 1) s h1 h1.lt)
  clear h1
  obtain ⟨T, hT⟩ : ∃ T, takeE (bl s) = T := ⟨_, rfl⟩
  obtain ⟨C, hC⟩ : ∃ C, rnS T.2 65535 = C := ⟨_, rfl⟩
  have HD : Hid (decS (bl s) = if endE C.2.1 C.2.2 = 0 ∧ T.1.sp = true ∧ okC C.1 = true then some (T.1, C.1) else none) := by
    unfold Hid decS takeS
    rw [hT, hC]
  have HC := hide hC
  rw [hT] at HTK
  clear hT hC
  obtain ⟨e, l, x⟩ := T
  obtain ⟨k, p, q⟩ := e
  obtain ⟨c, l2, x2⟩ := C
  unfold En.agg at HTK
  simp only [] at HTK HD HC
  go_wp2_with fail
  refine HTK.out.mono ?_
  rintro e W1 ⟨rfl, hr1, ho1⟩
  go_upto_region 3 with fail
  have H1 := hide (H0.out.take hr1 ho1)
  have HV := hide (Ev.new W1 ⟨k, p, q⟩)
  have HA := hide (onlyA W1 (.cells #[.string k, .int .i64 p, .int .i64 q] 89))
  have HS : Hid (w.heap.size + 1 < W1.heap.size) := H1.out.rd.lt
  obtain ⟨b, hb⟩ : ∃ b, W1.heap.size = b := ⟨_, rfl⟩
  rw [hb] at HV HS ⊢
  clear hb
  simp only [] at HV
  clear hr1 ho1 H0 HTK
  obtain ⟨W2, hW2⟩ : ∃ x, W1.alloc (.cells #[.string k, .int .i64 p, .int .i64 q] 89) = x := ⟨_, rfl⟩
  rw [hW2] at HV HA ⊢
  clear hW2
  have H2 := hide (H1.out.more HA.out)
  clear HA H1
  go_wp2_with fail
  refine (rnum_st W2 _ l x 65535 H2.out.rd).mono ?_
  rintro e W3 ⟨rfl, hr3, ho3⟩
  rw [HC.out] at hr3 ⊢
  have H3 := hide (H2.out.take hr3 ho3)
  have HV3 := hide (HV.out.kept ho3 (by have := HS.out; omega))
  clear hr3 ho3 H2 HV
  simp only [] at H3
  have HIE : Hid (∀ W, Calls Tryz.prog 145 #[.agg #[.string k, .int .i64 p, .int .i64 q]] W fun x w' => x = .returned (.bool (En.sp ⟨k, p, q⟩)) ∧ Only (fun _ => False) W w') := fun W => separates_any ⟨k, p, q⟩ W
  have HIC : Hid (∀ W, Calls Tryz.prog 146 #[.int .i64 c] W fun x w' => x = .returned (.bool (okC c)) ∧ w' = W) := fun W => isChild_any c W
  obtain ⟨O, hO⟩ : ∃ O, En.sp ⟨k, p, q⟩ = O := ⟨_, rfl⟩
  obtain ⟨U, hU⟩ : ∃ U, okC c = U := ⟨_, rfl⟩
  rw [hO] at HIE HD
  rw [hU] at HIC HD
  clear hO hU
  have HRE : Hid (Calls Tryz.prog 143 #[.pointer (some ⟨w.heap.size + 1, 0, none⟩)] W3 fun e w' => e = .returned (.int .i64 (endE l2 x2)) ∧ w' = W3) := rend_stN W3 _ l2 x2 H3.out.rd
  obtain ⟨E, hE⟩ : ∃ E, endE l2 x2 = E := ⟨_, rfl⟩
  rw [hE] at HRE HD
  clear hE
  by_cases he : E = 0
  · subst he
    have HDX : Hid (decS (bl s) = if O = true ∧ U = true then some (⟨k, p, q⟩, c) else none) := by unfold Hid; rw [HD.out]; simp
    clear HD
    have c0 := HV3.out.c0
    have c1 := HV3.out.c1
    have c2 := HV3.out.c2
    simp only [] at c0 c1 c2
    go_wp2_with fail
    refine HRE.out.mono ?_
    rintro e W4 ⟨rfl, h4⟩
    obtain rfl := h4.symm
    go_wp2_with fail
    refine (HIE.out _).mono ?_
    rintro e W5 ⟨rfl, ho5⟩
    have H5 := hide (H3.out.more ho5)
    have HV5 := hide (HV3.out.more ho5)
    clear ho5 c0 c1 c2
    have c0 := HV5.out.c0
    have c1 := HV5.out.c1
    have c2 := HV5.out.c2
    simp only [] at c0 c1 c2
    have r0 := H5.out.res.c0
    have r1 := H5.out.res.c1
    have r2 := H5.out.res.c2
    have g0 := H5.out.res.f0
    have g1 := H5.out.res.f1
    have g2 := H5.out.res.f2
    cases O
    · go_wp2_with fail
      refine bodyPost_ret (results_ev3 rfl rfl (H5.out.res.all noE)) rfl ?_
      exact ⟨by rw [HDX.out]; rfl, H5.out.only.trans (Only.three _ _ _ _ _) (fun i hi e => by omega)⟩
    · go_wp2_with fail
      refine (HIC.out _).mono ?_
      rintro e W6 ⟨rfl, h6⟩
      obtain rfl := h6.symm
      cases U
      · go_wp2_with fail
        refine bodyPost_ret (results_ev3 rfl rfl (H5.out.res.all noE)) rfl ?_
        exact ⟨by rw [HDX.out]; rfl, H5.out.only.trans (Only.three _ _ _ _ _) (fun i hi e => by omega)⟩
      · go_wp2_with fail
        refine bodyPost_ret (results_ev3 rfl rfl (H5.out.res.all ⟨k, p, q⟩)) rfl ?_
        exact ⟨by rw [HDX.out]; rfl, H5.out.only.trans (Only.three _ _ _ _ _) (fun i hi e => by omega)⟩
  · have he' : (E != 0) = true := by simpa using he
    have HDX : Hid (decS (bl s) = none) := by unfold Hid; rw [HD.out, if_neg (fun h => he h.1)]
    clear he HD
    have r0 := H3.out.res.c0
    have r1 := H3.out.res.c1
    have r2 := H3.out.res.c2
    have g0 := H3.out.res.f0
    have g1 := H3.out.res.f1
    have g2 := H3.out.res.f2
    go_wp2_with fail
    refine HRE.out.mono ?_
    rintro e W4 ⟨rfl, h4⟩
    obtain rfl := h4.symm
    go_wp2_with fail
    refine bodyPost_ret (results_ev3 rfl rfl (H3.out.res.all noE)) rfl ?_
    exact ⟨by rw [HDX.out]; rfl, H3.out.only.trans (Only.three _ _ _ _ _) (fun i hi e => by omega)⟩
end Go.Proofs.YtajjakljheafjaaGreat
namespace Go.Proofs.YtajjakljheafjaaGreat
open Go.RowKit
/-- A version as a value. -/
def Tu.agg (t : Tu) : Value := .agg #[.int .i64 t.xmin, .int .i64 t.xmax, .bool t.frozen, .string t.key, .string t.value]
theorem isKey_any (k : ByteArray) (w : World) : Calls Tryz.prog 122 #[.string k] w fun e w' => e = .returned (.bool (okK k)) ∧ w' = w := by
  have hk : okK k = (decide ((1 : Int) ≤ k.size) && decide ((k.size : Int) ≤ 24)) := by
    unfold okK
    rw [Bool.eq_iff_iff]
    simp only [Bool.and_eq_true, decide_eq_true_eq]
    omega
  rw [hk]
  by_cases h1 : (1 : Int) ≤ k.size
  · go_enter Tryz.func122, Tryz.ntmps122
    go_wp2
    go_ret
    exact ⟨by simp [h1], rfl⟩
  · go_enter Tryz.func122, Tryz.ntmps122
    go_wp2
    go_ret
    exact ⟨by simp; omega, rfl⟩
theorem umark_any (b : Bool) (w : World) : Calls Tryz.prog 80 #[.bool b] w fun e w' => e = .returned (.string ⟨#[mkB b]⟩) ∧ w' = w := by
  cases b
  all_goals
    go_enter Tryz.func80, Tryz.ntmps80
    go_wp2
    go_ret
    exact ⟨rfl, rfl⟩
theorem ba_eqU {s t : ByteArray} (h : s = t) : (s.toList == t.toList) = true := by simp [h]
theorem ba_neU {s t : ByteArray} (h : ¬ s = t) : (s.toList == t.toList) = false := by
  cases e : (s.toList == t.toList) with
  | false => rfl
  | true =>
    refine absurd ?_ h
    have e' : s.toList = t.toList := by simpa using e
    rw [ByteArray.toList_eq, ByteArray.toList_eq] at e'
    exact ByteArray.ext (Array.toList_inj.1 e')
theorem one_ne {a b : UInt8} (h : ¬ a = b) : ¬ (⟨#[a]⟩ : ByteArray) = ⟨#[b]⟩ := by
  intro e
  injection e with e
  simp at e
  exact h e
theorem isMark_any (a : UInt8) (w : World) : Calls Tryz.prog 196 #[.string ⟨#[a]⟩] w fun e w' => e = .returned (.bool (a == 1 || a == 3)) ∧ w' = w := by
  by_cases h1 : a = 1
  · subst h1
    go_enter Tryz.func196, Tryz.ntmps196
    go_wp2
    go_ret
    exact ⟨rfl, rfl⟩
  · have e1 : ((⟨#[a]⟩ : ByteArray).toList == (⟨#[1]⟩ : ByteArray).toList) = false := ba_neU (one_ne h1)
    by_cases h3 : a = 3
    · subst h3
      go_enter Tryz.func196, Tryz.ntmps196
      go_wp2
      go_ret
      exact ⟨rfl, rfl⟩
    · have e3 : ((⟨#[a]⟩ : ByteArray).toList == (⟨#[3]⟩ : ByteArray).toList) = false := ba_neU (one_ne h3)
      go_enter Tryz.func196, Tryz.ntmps196
      go_wp2
      go_ret
      exact ⟨ret_bool (by simp_all), rfl⟩
set_option maxRecDepth 100000 in
set_option maxHeartbeats 1600000 in
theorem isVersion_any (t : Tu) (w : World) (h0 : -9223372036854775808 ≤ t.xmin ∧ t.xmin < 9223372036854775808) (h1 : -9223372036854775808 ≤ t.xmax ∧ t.xmax < 9223372036854775808) :
    Calls Tryz.prog 79 #[t.agg] w fun e w' => e = .returned (.bool t.ok) ∧ Only (fun _ => False) w w' := by
  obtain ⟨a, b, f, k, v⟩ := t
  have hk : Tu.ok ⟨a, b, f, k, v⟩ = (decide (1 ≤ a) && (decide (a ≤ 1024) && (decide (0 ≤ b) && (decide (b ≤ 1024) && (okK k && decide ((v.size : Int) ≤ 64)))))) := by
    unfold okK Tu.ok
    rw [Bool.eq_iff_iff]
    simp only [Bool.and_eq_true, decide_eq_true_eq]
    omega
  rw [hk]
  unfold Tu.agg
  simp only at h0 h1 ⊢
  clear hk
  obtain ⟨q, hq⟩ : ∃ q, okK k = q := ⟨_, rfl⟩
  have hc := fun W => isKey_any k W
  rw [hq] at hc
  rw [hq]
  clear hq
  by_cases c1 : 1 ≤ a
  · by_cases c2 : a ≤ 1024
    · by_cases c3 : 0 ≤ b
      · by_cases c4 : b ≤ 1024
        · cases q
          all_goals
            go_enter Tryz.func79, Tryz.ntmps79
            go_wp2_with (go_at_call 122; refine (hc _).mono ?_; rintro e w' ⟨rfl, hw⟩; obtain rfl := hw.symm; clear hw)
            go_ret
            exact ⟨by simp [c1, c2, c3, c4], onlyA _ _⟩
        · go_enter Tryz.func79, Tryz.ntmps79
          go_wp2
          go_ret
          exact ⟨by simp; omega, onlyA _ _⟩
      · go_enter Tryz.func79, Tryz.ntmps79
        go_wp2
        go_ret
        exact ⟨by simp; omega, onlyA _ _⟩
    · go_enter Tryz.func79, Tryz.ntmps79
      go_wp2
      go_ret
      exact ⟨by simp; omega, onlyA _ _⟩
  · go_enter Tryz.func79, Tryz.ntmps79
    go_wp2
    go_ret
    exact ⟨by simp; omega, onlyA _ _⟩
end Go.Proofs.YtajjakljheafjaaGreat
