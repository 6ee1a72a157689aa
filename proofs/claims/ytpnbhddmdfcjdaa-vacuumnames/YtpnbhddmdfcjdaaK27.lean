/- Parts. -/
import Derived.Test.YtpnbhddmdfcjdaaK09
import Derived.Test.YtpnbhddmdfcjdaaK06
set_option maxRecDepth 100000
namespace Go.Proofs.Ytpnbhddmdfcjdaa
open Go.RowKit
/-- A version as plain data. -/
structure Tu where
  xmin : Int
  xmax : Int
  frozen : Bool
  key : ByteArray
  value : ByteArray
theorem Tu.ext' {a b : Tu} (h1 : a.xmin = b.xmin) (h2 : a.xmax = b.xmax) (h3 : a.frozen = b.frozen) (h4 : a.key = b.key) (h5 : a.value = b.value) : a = b := by
  cases a; cases b; simp_all
def okK (k : ByteArray) : Bool := decide (1 ≤ k.size ∧ k.size ≤ 24)
theorem okK_iff {k : ByteArray} : okK k = true ↔ 1 ≤ k.size ∧ k.size ≤ 24 := by unfold okK; simp
def Tu.ok (t : Tu) : Bool := decide (1 ≤ t.xmin ∧ t.xmin ≤ 1024 ∧ 0 ≤ t.xmax ∧ t.xmax ≤ 1024 ∧ 1 ≤ t.key.size ∧ t.key.size ≤ 24 ∧ t.value.size ≤ 64)
theorem Tu.ok_iff {t : Tu} : t.ok = true ↔ (1 ≤ t.xmin ∧ t.xmin ≤ 1024 ∧ 0 ≤ t.xmax ∧ t.xmax ≤ 1024 ∧ 1 ≤ t.key.size ∧ t.key.size ≤ 24 ∧ t.value.size ≤ 64) := by unfold Tu.ok; simp
/-- A text as it is laid. -/
def txL (s : ByteArray) : List UInt8 := sev s.size ++ s.data.toList
/-- A version's first byte. -/
def mkB (b : Bool) : UInt8 := if b then 3 else 1
/-- A version's bytes. -/
def Tu.enc (t : Tu) : List UInt8 := mkB t.frozen :: (bigF 2 t.xmin.toNat ++ (bigF 2 t.xmax.toNat ++ (txL t.key ++ txL t.value)))
/-- Two texts read one behind the other: both, what is left, what is wrong. -/
def rdTT (l : List UInt8) : List UInt8 × List UInt8 × List UInt8 × Int :=
  if (rdT 24 l).2.2 = 0 then ((rdT 24 l).1, (rdT 64 (rdT 24 l).2.1).1, (rdT 64 (rdT 24 l).2.1).2.1, (rdT 64 (rdT 24 l).2.1).2.2) else ((rdT 24 l).1, [], (rdT 24 l).2.1, (rdT 24 l).2.2)
/-- What is wrong at the end. -/
def endE (l : List UInt8) (x : Int) : Int := if x = 0 then (if l.length = 0 then 0 else 12) else x
/-- What stands in bytes that may be a version's. -/
def rawT (l : List UInt8) : Tu := ⟨ofTo ((l.drop 1).take 2), ofTo ((l.drop 3).take 2), l.head? == some 3, str (rdTT (l.drop 5)).1, str (rdTT (l.drop 5)).2.1⟩
def marked (l : List UInt8) : Bool := l.head? == some 1 || l.head? == some 3
def headed (l : List UInt8) : Bool := decide (5 ≤ l.length) && marked l
def endT (l : List UInt8) : Int := endE (rdTT l).2.2.1 (rdTT l).2.2.2
def goodT (l : List UInt8) : Bool := headed l && (endT (l.drop 5) == 0 && (rawT l).ok)
/-- The version of bytes. -/
def decT (l : List UInt8) : Option Tu := if goodT l then some (rawT l) else none
def noT : Tu := ⟨0, 0, false, ⟨#[]⟩, ⟨#[]⟩⟩
/-- What a dead slot holds. -/
def dlay (k : ByteArray) : List UInt8 := 4 :: txL k
def endD (l : List UInt8) : Int := endE (rdT 24 l).2.1 (rdT 24 l).2.2
def deadK (l : List UInt8) : Option ByteArray := if l.head? = some 4 ∧ endD (l.drop 1) = 0 ∧ okK (str (rdT 24 (l.drop 1)).1) = true then some (str (rdT 24 (l.drop 1)).1) else none
def keyT (l : List UInt8) : Option ByteArray := match decT l with | some t => some t.key | none => deadK l
/-- A slot's state. -/
def stT (l : List UInt8) : Int := if (decT l).isSome then 3 else if (deadK l).isSome then 2 else if l = [] then 1 else 0
theorem endE_zero {l : List UInt8} {x : Int} (h : endE l x = 0) : x = 0 ∧ l = [] := by
  unfold endE at h
  split at h
  · split at h
    · exact ⟨by assumption, List.eq_nil_of_length_eq_zero (by assumption)⟩
    · simp at h
  · contradiction
theorem rdN_upto (z : Int) (m : Nat) (rest : List UInt8) (hm : m < 9223372036854775808) (hz : (m : Int) ≤ z) : rdN z (sev m ++ rest) = ((m : Int), rest, 0) := by
  have h := rd_sev 9 0 m 0 rest rfl (by omega) (fun h => by omega) (by omega)
  have h' : rd 0 0 (sev m ++ rest) = ((m : Int), ((sev m).length : Int), 0) := by
    have e : sev m = sevF 9 m := rfl
    rw [e, h]; simp
  rw [rdN_ok h' (by omega)]
  simp
theorem rdT_upto (z : Int) (s : ByteArray) (rest : List UInt8) (hm : s.size < 9223372036854775808) (hz : (s.size : Int) ≤ z) : rdT z (txL s ++ rest) = (bl s, rest, 0) := by
  have h := rdN_upto z s.size (bl s ++ rest) hm hz
  have hl := bl_len s
  unfold txL
  rw [List.append_assoc]
  rw [show s.data.toList = bl s from rfl]
  rw [rdT_ok (by rw [h]) (by rw [h]; simp; omega)]
  rw [h]
  rw [show ((s.size : Int)).toNat = (bl s).length by omega, List.take_left, List.drop_left]
theorem sev_one (n : Nat) (h : n < 128) : (sev n).length = 1 := by
  unfold sev
  rw [sevF_end h]
  rfl
theorem txL_len (s : ByteArray) (h : s.size < 128) : (txL s).length = 1 + s.size := by
  unfold txL
  rw [List.length_append, sev_one _ h, show s.data.toList = bl s from rfl, bl_len]
theorem rdT_txL {z : Int} {l : List UInt8} (h : (rdT z l).2.2 = 0) : l = txL (str (rdT z l).1) ++ (rdT z l).2.1 := by
  have := rdT_canon z l h
  unfold txL
  rw [str_size]
  exact this
theorem mkB_head (b : Bool) (l : List UInt8) : headed (mkB b :: l) = decide (4 ≤ l.length) := by
  unfold headed marked mkB
  cases b <;> simp
theorem dec_encT {t : Tu} (h : t.ok = true) : decT t.enc = some t := by
  have h' := Tu.ok_iff.1 h
  have l1 := bigF_len 2 t.xmin.toNat
  have l2 := bigF_len 2 t.xmax.toNat
  have d5 : t.enc.drop 5 = txL t.key ++ txL t.value := by
    unfold Tu.enc
    rw [List.drop_succ_cons, ← List.append_assoc, List.drop_append_of_le_length (by simp; omega), List.drop_of_length_le (by simp; omega), List.nil_append]
  have d1 : (t.enc.drop 1).take 2 = bigF 2 t.xmin.toNat := by
    unfold Tu.enc
    rw [List.drop_succ_cons, List.drop_zero, List.take_append_of_le_length (by omega), List.take_of_length_le (by omega)]
  have d3 : (t.enc.drop 3).take 2 = bigF 2 t.xmax.toNat := by
    unfold Tu.enc
    rw [List.drop_succ_cons, List.drop_append_of_le_length (by omega), List.drop_of_length_le (by omega), List.nil_append, List.take_append_of_le_length (by omega), List.take_of_length_le (by omega)]
  have t1 : rdT 24 (t.enc.drop 5) = (bl t.key, txL t.value, 0) := by
    rw [d5]
    exact rdT_upto 24 t.key _ (by omega) (by omega)
  have t2 : rdT 64 (txL t.value) = (bl t.value, [], 0) := by
    have := rdT_upto 64 t.value [] (by omega) (by omega)
    rwa [List.append_nil] at this
  have tt : rdTT (t.enc.drop 5) = (bl t.key, bl t.value, [], 0) := by
    unfold rdTT
    rw [t1]
    simp only [if_pos]
    rw [t2]
  have hr : rawT t.enc = t := by
    unfold rawT
    rw [d1, d3, tt, ofTo_big 2 _ (by omega) (by omega), ofTo_big 2 _ (by omega) (by omega)]
    simp only [str_bl]
    refine Tu.ext' ?_ ?_ ?_ rfl rfl
    · simp; omega
    · simp; omega
    · simp only [Tu.enc, mkB, List.head?_cons]
      cases t.frozen <;> rfl
  have hh : headed t.enc = true := by
    unfold Tu.enc
    rw [mkB_head]
    simp only [List.length_append, decide_eq_true_eq]
    omega
  unfold decT goodT
  rw [hr, hh, h]
  unfold endT
  rw [tt]
  rfl
theorem list5 {l : List UInt8} (h : 5 ≤ l.length) : ∃ a b c d e r, l = a :: b :: c :: d :: e :: r := by
  match l, h with
  | a :: b :: c :: d :: e :: r, _ => exact ⟨a, b, c, d, e, r, rfl⟩
theorem enc_decT {l : List UInt8} {t : Tu} (h : decT l = some t) : t.ok = true ∧ t.enc = l ∧ headed l = true := by
  unfold decT at h
  split at h
  · rename_i hg
    simp only [Option.some.injEq] at h
    subst h
    unfold goodT at hg
    simp only [Bool.and_eq_true, beq_iff_eq] at hg
    obtain ⟨hh, he, hok⟩ := hg
    refine ⟨hok, ?_, hh⟩
    unfold headed at hh
    simp only [Bool.and_eq_true, decide_eq_true_eq] at hh
    obtain ⟨h5, hm⟩ := hh
    obtain ⟨a, b, c, d, e, r, rfl⟩ := list5 h5
    obtain ⟨hx, hl⟩ := endE_zero he
    simp only [List.drop_succ_cons, List.drop_zero] at hx hl
    have hq : r = txL (str (rdTT r).1) ++ txL (str (rdTT r).2.1) := by
      unfold rdTT at hx hl ⊢
      by_cases h0 : (rdT 24 r).2.2 = 0
      · rw [if_pos h0] at hx hl ⊢
        simp only at hx hl ⊢
        have e1 := rdT_txL h0
        have e2 := rdT_txL hx
        rw [hl, List.append_nil] at e2
        rw [← e2]
        exact e1
      · rw [if_neg h0] at hx
        exact absurd hx h0
    have b1 := big_ofTo [b, c] (by simp)
    have b2 := big_ofTo [d, e] (by simp)
    simp only [List.length_cons, List.length_nil] at b1 b2
    unfold Tu.enc rawT
    simp only [List.drop_succ_cons, List.drop_zero, List.take_succ_cons, List.take_zero, List.head?_cons]
    rw [← hq, b1, b2]
    unfold marked at hm
    simp only [List.head?_cons] at hm
    simp only [List.cons_append, List.nil_append, List.cons.injEq, and_true]
    unfold mkB
    by_cases ha : a = 3
    · subst ha; rfl
    · have : a = 1 := by simpa [ha] using hm
      subst this; rfl
  · cases h
theorem dead_lay {k : ByteArray} (h : okK k = true) : deadK (dlay k) = some k := by
  have h' := okK_iff.1 h
  have t1 : rdT 24 ((dlay k).drop 1) = (bl k, [], 0) := by
    have := rdT_upto 24 k [] (by omega) (by omega)
    rwa [List.append_nil] at this
  unfold deadK endD
  rw [t1]
  rw [if_pos ⟨rfl, rfl, by simpa [str_bl] using h⟩]
  simp [str_bl]
theorem lay_dead {l : List UInt8} {k : ByteArray} (h : deadK l = some k) : okK k = true ∧ dlay k = l ∧ l.head? = some 4 := by
  unfold deadK at h
  split at h
  · rename_i hc
    obtain ⟨h0, h1, h2⟩ := hc
    simp only [Option.some.injEq] at h
    subst h
    refine ⟨h2, ?_, h0⟩
    obtain ⟨hx, hl⟩ := endE_zero h1
    have e1 := rdT_txL hx
    rw [hl, List.append_nil] at e1
    unfold dlay
    rw [← e1]
    cases l with
    | nil => simp at h0
    | cons a r =>
      simp only [List.head?_cons, Option.some.injEq] at h0
      subst h0
      rfl
  · cases h
theorem headed_four {l : List UInt8} (h : headed l = true) : l.head? ≠ some 4 := by
  unfold headed marked at h
  intro e
  rw [e] at h
  simp at h
theorem dec_dead {l : List UInt8} {t : Tu} (h : decT l = some t) : deadK l = none := by
  cases hd : deadK l with
  | none => rfl
  | some k => exact absurd (lay_dead hd).2.2 (headed_four (enc_decT h).2.2)
theorem dead_dec {l : List UInt8} {k : ByteArray} (h : deadK l = some k) : decT l = none := by
  cases hd : decT l with
  | none => rfl
  | some t => rw [dec_dead hd] at h; cases h
end Go.Proofs.Ytpnbhddmdfcjdaa
