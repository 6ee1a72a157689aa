/- Parts. -/
import Derived.Test.YtpnbhddmdfcjdaaK06
import Derived.Test.YtpnbhddmdfcjdaaK07
import Derived.Test.YtpnbhddmdfcjdaaK09
set_option maxRecDepth 100000
namespace Go.Proofs.Ytpnbhddmdfcjdaa
open Go.RowKit
def dig (b k : Nat) : Nat := b / 4 ^ k % 4
def put4 (b k v : Nat) : Nat := b - dig b k * 4 ^ k + v * 4 ^ k
theorem k4 {k : Nat} (h : k < 4) : k = 0 ∨ k = 1 ∨ k = 2 ∨ k = 3 := by omega
theorem put4_lt {b k v : Nat} (hb : b < 256) (hk : k < 4) (hv : v < 4) : put4 b k v < 256 := by
  rcases k4 hk with rfl | rfl | rfl | rfl <;> simp only [put4, dig, Nat.reducePow] <;> omega
theorem dig_put {b k v : Nat} (hk : k < 4) (hv : v < 4) : dig (put4 b k v) k = v := by
  rcases k4 hk with rfl | rfl | rfl | rfl <;> simp only [put4, dig, Nat.reducePow] <;> omega
theorem dig_other {b k j v : Nat} (hk : k < 4) (hj : j < 4) (hv : v < 4) (h : j ≠ k) : dig (put4 b k v) j = dig b j := by
  rcases k4 hk with rfl | rfl | rfl | rfl <;> rcases k4 hj with rfl | rfl | rfl | rfl <;> simp only [put4, dig, Nat.reducePow] <;> omega
theorem dig_lt (b k : Nat) : dig b k < 4 := Nat.mod_lt _ (by decide)
def byt (l : List UInt8) (j : Nat) : Nat := (l.getD j 0).toNat
theorem byt_lt (l : List UInt8) (j : Nat) : byt l j < 256 := UInt8.toNat_lt _
def stAt (l : List UInt8) (i : Nat) : Nat := dig (byt l (i / 4)) (i % 4)
def stSet (l : List UInt8) (i v : Nat) : List UInt8 := l.set (i / 4) (UInt8.ofNat (put4 (byt l (i / 4)) (i % 4) v))
theorem stSet_len (l : List UInt8) (i v : Nat) : (stSet l i v).length = l.length := by simp [stSet]
theorem stAt_lt (l : List UInt8) (i : Nat) : stAt l i < 4 := dig_lt _ _
theorem byt_set {l : List UInt8} {j n : Nat} (hj : j < l.length) (hn : n < 256) (k : Nat) : byt (l.set j (UInt8.ofNat n)) k = if k = j then n else byt l k := by
  unfold byt
  split
  · rename_i e
    subst e
    rw [List.getD_eq_getElem?_getD, List.getElem?_set_self hj]
    exact UInt8.toNat_ofNat_of_lt' hn
  · rename_i e
    rw [List.getD_eq_getElem?_getD, List.getElem?_set_ne (by omega), ← List.getD_eq_getElem?_getD]
theorem stAt_set {l : List UInt8} {i v : Nat} (hi : i / 4 < l.length) (hv : v < 4) (j : Nat) : stAt (stSet l i v) j = if j = i then v else stAt l j := by
  have h4 : i % 4 < 4 := Nat.mod_lt _ (by decide)
  have hp := put4_lt (byt_lt l (i / 4)) h4 hv
  unfold stAt stSet
  rw [byt_set hi hp]
  by_cases e : j / 4 = i / 4
  · rw [if_pos e]
    by_cases e2 : j = i
    · subst e2
      rw [if_pos rfl]
      exact dig_put h4 hv
    · rw [if_neg e2, e]
      exact dig_other h4 (Nat.mod_lt _ (by decide)) hv (by omega)
  · rw [if_neg e, if_neg (by intro h; exact e (by rw [h]))]
/-- How many bytes the statuses of the modulus m take. -/
def nb (m : Int) : Nat := ((m + 3) / 4).toNat
/-- The limit whose bytes these are, 0 if they are none's. -/
def lim (m : Int) (s : ByteArray) : Int := if (rdN m (bl s)).2.2 = 0 ∧ (rdN m (bl s)).2.1 = [] then (rdN m (bl s)).1 else 0
theorem lim_bd {m : Int} (hm : 0 ≤ m) (s : ByteArray) : 0 ≤ lim m s ∧ lim m s ≤ m := by
  unfold lim
  split
  · rename_i h
    have h1 := (rdN_facts m (bl s)).1
    refine ⟨h1, ?_⟩
    unfold rdN at h ⊢
    split at h
    · rename_i h2
      rw [if_pos h2]
      split at h
      · simp at h
      · rename_i h3
        rw [if_neg h3]
        show (rd 0 0 (bl s)).1 ≤ m
        omega
    · simp at h; rename_i h2; exact absurd h h2
  · omega
theorem lim_canon {m : Int} {s : ByteArray} (h : lim m s ≠ 0) : s = str (sev (lim m s).toNat) := by
  have hq : (rdN m (bl s)).2.2 = 0 ∧ (rdN m (bl s)).2.1 = [] := by
    apply Classical.byContradiction
    intro hn
    exact h (by unfold lim; rw [if_neg hn])
  have e : lim m s = (rdN m (bl s)).1 := by unfold lim; rw [if_pos hq]
  have hc := rdN_canon m (bl s) hq.1
  rw [hq.2, List.append_nil, ← e] at hc
  rw [← hc, str_bl]
theorem lim_sev {m f : Int} (h0 : 0 ≤ f) (h1 : f ≤ m) (h2 : m ≤ 1024) : lim m (str (sev f.toNat)) = f := by
  have hr := rd_sev 9 0 f.toNat 0 [] rfl (by have : (128 : Nat) ^ 9 = 9223372036854775808 := by decide
                                             omega) (by omega) (by omega)
  rw [List.append_nil] at hr
  have e : rdN m (sev f.toNat) = (f, [], 0) := by
    have hf : (0 : Int) + (f.toNat : Int) * 128 ^ 0 = f := by simp; omega
    have hq : rd 0 0 (sev f.toNat) = (f, ((sev f.toNat).length : Int), 0) := by
      have := hr
      rw [hf, Nat.zero_add] at this
      exact this
    unfold rdN
    rw [hq]
    simp only [if_true]
    rw [if_neg (by omega)]
    simp
  unfold lim
  rw [bl_str, e]
  simp
def it0 (p : Pg) : ByteArray := p.items.getD 0 ⟨#[]⟩
def it1 (p : Pg) : ByteArray := p.items.getD 1 ⟨#[]⟩
/-- The last byte has nothing behind the last id. -/
def topOk (m : Int) (s : ByteArray) : Prop := byt (bl s) ((m - 1) / 4).toNat / 4 ^ ((m - 1) % 4).toNat ≤ 3
/-- A page of statuses. -/
structure OkP (m : Int) (p : Pg) : Prop where
  kind : p.kind = 1
  lsn : 0 ≤ p.lsn
  level : p.level = 0
  right : p.right = 0
  high : p.high = ⟨#[]⟩
  two : p.items.length = 2
  lm : lim m (it0 p) ≠ 0
  size : (it1 p).size = nb m
  top : topOk m (it1 p)
open Classical in
/-- What Check answers. -/
noncomputable def chk (m : Int) (p : Pg) : Int := if Md m then (if OkP m p then 0 else 31) else 1
theorem chk_mod {m : Int} {p : Pg} (h : ¬ Md m) : chk m p = 1 := by unfold chk; rw [if_neg h]
theorem chk_ok {m : Int} {p : Pg} (h : Md m) (k : OkP m p) : chk m p = 0 := by unfold chk; rw [if_pos h, if_pos k]
theorem chk_bad {m : Int} {p : Pg} (h : Md m) (k : ¬ OkP m p) : chk m p = 31 := by unfold chk; rw [if_pos h, if_neg k]
theorem nb_bd {m : Int} (h : Md m) : 4 ≤ nb m ∧ nb m ≤ 256 ∧ m ≤ 4 * (nb m : Int) ∧ 4 * (nb m : Int) ≤ m + 2 := by
  obtain ⟨h1, h2, h3⟩ := h
  unfold nb
  omega
/-- Behind the last id there is nothing. -/
theorem top_iff {m : Int} (h : Md m) {s : ByteArray} : topOk m s ↔ ∀ i : Nat, m ≤ (i : Int) → i < 4 * nb m → stAt (bl s) i = 0 := by
  have hn := nb_bd h
  obtain ⟨h1, h2, h3⟩ := h
  unfold topOk
  have hb := byt_lt (bl s) ((m - 1) / 4).toNat
  have hq : (m - 1) % 4 = 1 ∨ (m - 1) % 4 = 3 := by omega
  rcases hq with hq | hq
  · rw [hq]
    constructor
    · intro hle i hi hi2
      have e : i / 4 = ((m - 1) / 4).toNat := by omega
      have hk : i % 4 = 2 ∨ i % 4 = 3 := by omega
      unfold stAt dig
      rw [e]
      simp only [Int.reduceToNat, Nat.pow_one] at hle
      rcases hk with hk | hk <;> rw [hk] <;> simp only [Nat.reducePow] <;> omega
    · intro ha
      have a1 := ha m.toNat (by omega) (by omega)
      have a2 := ha (m.toNat + 1) (by omega) (by omega)
      unfold stAt dig at a1 a2
      rw [show m.toNat / 4 = ((m - 1) / 4).toNat by omega, show m.toNat % 4 = 2 by omega] at a1
      rw [show (m.toNat + 1) / 4 = ((m - 1) / 4).toNat by omega, show (m.toNat + 1) % 4 = 3 by omega] at a2
      simp only [Nat.reducePow] at a1 a2
      simp only [Int.reduceToNat, Nat.pow_one]
      omega
  · rw [hq]
    constructor
    · intro _ i hi hi2
      omega
    · intro _
      simp only [Int.reduceToNat, Nat.reducePow]
      omega
/-- The page with another status. -/
def setP (p : Pg) (x : Int) (v : Nat) : Pg := ⟨p.lsn, 1, 0, 0, ⟨#[]⟩, [it0 p, str (stSet (bl (it1 p)) (x - 1).toNat v)]⟩
theorem at_lt {m x : Int} (h : Idd m x) {s : ByteArray} (hs : s.size = nb m) : (x - 1).toNat / 4 < (bl s).length := by
  have hn := nb_bd h.1
  have := h.2
  rw [bl_len, hs]
  omega
theorem OkP.set {m x : Int} {p : Pg} {v : Nat} (h : OkP m p) (hx : Idd m x) (hv : v < 4) : OkP m (setP p x v) := by
  refine ⟨rfl, h.lsn, rfl, rfl, rfl, rfl, h.lm, ?_, ?_⟩
  · show (str _).size = _
    rw [str_size, stSet_len, bl_len]; exact h.size
  · rw [top_iff hx.1]
    intro i h1 h2
    show stAt (bl (str _)) i = 0
    rw [bl_str, stAt_set (at_lt hx h.size) hv, if_neg (by have := hx.2; omega)]
    exact (top_iff hx.1).1 h.top i h1 h2
/-- The page of no transaction. -/
def blankP (m f : Int) : Pg := ⟨0, 1, 0, 0, ⟨#[]⟩, [str (sev f.toNat), str (List.replicate (nb m) 0)]⟩
theorem stAt_zero (n i : Nat) : stAt (List.replicate n 0) i = 0 := by
  have : byt (List.replicate n 0) (i / 4) = 0 := by
    unfold byt
    rw [List.getD_eq_getElem?_getD, List.getElem?_replicate]
    split <;> rfl
  unfold stAt
  rw [this]
  unfold dig
  simp
theorem OkP.blank {m f : Int} (h : Idd m f) : OkP m (blankP m f) := by
  refine ⟨rfl, by simp [blankP], rfl, rfl, rfl, rfl, ?_, ?_, ?_⟩
  · show lim m (str (sev f.toNat)) ≠ 0
    rw [lim_sev (by have := h.2; omega) h.2.2 h.1.2.1]
    have := h.2
    omega
  · show (str _).size = _
    rw [str_size, List.length_replicate]
  · rw [top_iff h.1]
    intro i _ _
    show stAt (bl (str _)) i = 0
    rw [bl_str, stAt_zero]
end Go.Proofs.Ytpnbhddmdfcjdaa
