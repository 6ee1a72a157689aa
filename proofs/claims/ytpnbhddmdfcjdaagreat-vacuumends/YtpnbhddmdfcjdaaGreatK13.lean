/- Parts. -/
import Derived.Test.YtpnbhddmdfcjdaaGreatK12
import Derived.Deep.RegionHeld3
import Derived.Deep.Draws
import Derived.Test.YtpnbhddmdfcjdaaGreatK11
set_option maxRecDepth 100000
namespace Go.Proofs.YtpnbhddmdfcjdaaGreat
open Go.RowKit
def dig (b k : Nat) : Nat := b / 4 ^ k % 4
def put4 (b k v : Nat) : Nat := b - dig b k * 4 ^ k + v * 4 ^ k
theorem k4 {k : Nat} (h : k < 4) : k = 0 ∨ k = 1 ∨ k = 2 ∨ k = 3 := by omega
theorem put4_lt {b k v : Nat} (hb : b < 256) (hk : k < 4) (hv : v < 4) : put4 b k v < 256 := by
  rcases k4 hk with rfl | rfl | rfl | rfl <;> simp only [put4, dig, Nat.reducePow] <;> omega
theorem dig_put {b k v : Nat} (hk : k < 4) (hv : v < 4) : dig (put4 b k v) k = v := by
  rcases k4 hk with rfl | rfl | rfl | rfl <;> simp only [put4, dig, Nat.reducePow] <;> omega
theorem dig_other {b k j v : Nat} (hk : k < 4) (hj : j < 4) (hv : v < 4) (h : j ≠ k) : dig (put4 b k v) j = dig b j := by
  rcases k4 hk with rfl | rfl | rfl | rfl <;> rcases k4 hj with rfl | rfl | rfl | rfl <;> simp only [put4, dig, Nat.reducePow] <;> omega
theorem dig_lt (b k : Nat) : dig b k < 4 := Nat.mod_lt _ (by decide)
def byt (l : List UInt8) (j : Nat) : Nat := (l.getD j 0).toNat
theorem byt_lt (l : List UInt8) (j : Nat) : byt l j < 256 := UInt8.toNat_lt _
def stAt (l : List UInt8) (i : Nat) : Nat := dig (byt l (i / 4)) (i % 4)
def stSet (l : List UInt8) (i v : Nat) : List UInt8 := l.set (i / 4) (UInt8.ofNat (put4 (byt l (i / 4)) (i % 4) v))
theorem stSet_len (l : List UInt8) (i v : Nat) : (stSet l i v).length = l.length := by simp [stSet]
theorem stAt_lt (l : List UInt8) (i : Nat) : stAt l i < 4 := dig_lt _ _
theorem byt_set {l : List UInt8} {j n : Nat} (hj : j < l.length) (hn : n < 256) (k : Nat) : byt (l.set j (UInt8.ofNat n)) k = if k = j then n else byt l k := by
  unfold byt
  split
  · rename_i e
    subst e
    rw [List.getD_eq_getElem?_getD, List.getElem?_set_self hj]
    exact UInt8.toNat_ofNat_of_lt' hn
  · rename_i e
    rw [List.getD_eq_getElem?_getD, List.getElem?_set_ne (by omega), ← List.getD_eq_getElem?_getD]
theorem stAt_set {l : List UInt8} {i v : Nat} (hi : i / 4 < l.length) (hv : v < 4) (j : Nat) : stAt (stSet l i v) j = if j = i then v else stAt l j := by
  have h4 : i % 4 < 4 := Nat.mod_lt _ (by decide)
  have hp := put4_lt (byt_lt l (i / 4)) h4 hv
  unfold stAt stSet
  rw [byt_set hi hp]
  by_cases e : j / 4 = i / 4
  · rw [if_pos e]
    by_cases e2 : j = i
    · subst e2
      rw [if_pos rfl]
      exact dig_put h4 hv
    · rw [if_neg e2, e]
      exact dig_other h4 (Nat.mod_lt _ (by decide)) hv (by omega)
  · rw [if_neg e, if_neg (by intro h; exact e (by rw [h]))]
/-- How many bytes the statuses of the modulus m take. -/
def nb (m : Int) : Nat := ((m + 3) / 4).toNat
/-- The limit whose bytes these are, 0 if they are none's. -/
def lim (m : Int) (s : ByteArray) : Int := if (rdN m (bl s)).2.2 = 0 ∧ (rdN m (bl s)).2.1 = [] then (rdN m (bl s)).1 else 0
theorem lim_bd {m : Int} (hm : 0 ≤ m) (s : ByteArray) : 0 ≤ lim m s ∧ lim m s ≤ m := by
  unfold lim
  split
  · rename_i h
    have h1 := (rdN_facts m (bl s)).1
    refine ⟨h1, ?_⟩
    unfold rdN at h ⊢
    split at h
    · rename_i h2
      rw [if_pos h2]
      split at h
      · simp at h
      · rename_i h3
        rw [if_neg h3]
        show (rd 0 0 (bl s)).1 ≤ m
        omega
    · simp at h; rename_i h2; exact absurd h h2
  · omega
theorem lim_canon {m : Int} {s : ByteArray} (h : lim m s ≠ 0) : s = str (sev (lim m s).toNat) := by
  have hq : (rdN m (bl s)).2.2 = 0 ∧ (rdN m (bl s)).2.1 = [] := by
    apply Classical.byContradiction
    intro hn
    exact h (by unfold lim; rw [if_neg hn])
  have e : lim m s = (rdN m (bl s)).1 := by unfold lim; rw [if_pos hq]
  have hc := rdN_canon m (bl s) hq.1
  rw [hq.2, List.append_nil, ← e] at hc
  rw [← hc, str_bl]
theorem lim_sev {m f : Int} (h0 : 0 ≤ f) (h1 : f ≤ m) (h2 : m ≤ 1024) : lim m (str (sev f.toNat)) = f := by
  have hr := rd_sev 9 0 f.toNat 0 [] rfl (by have : (128 : Nat) ^ 9 = 9223372036854775808 := by decide
                                             omega) (by omega) (by omega)
  rw [List.append_nil] at hr
  have e : rdN m (sev f.toNat) = (f, [], 0) := by
    have hf : (0 : Int) + (f.toNat : Int) * 128 ^ 0 = f := by simp; omega
    have hq : rd 0 0 (sev f.toNat) = (f, ((sev f.toNat).length : Int), 0) := by
      have := hr
      rw [hf, Nat.zero_add] at this
      exact this
    unfold rdN
    rw [hq]
    simp only [if_true]
    rw [if_neg (by omega)]
    simp
  unfold lim
  rw [bl_str, e]
  simp
def it0 (p : Pg) : ByteArray := p.items.getD 0 ⟨#[]⟩
def it1 (p : Pg) : ByteArray := p.items.getD 1 ⟨#[]⟩
/-- The last byte has nothing behind the last id. -/
def topOk (m : Int) (s : ByteArray) : Prop := byt (bl s) ((m - 1) / 4).toNat / 4 ^ ((m - 1) % 4).toNat ≤ 3
/-- A page of statuses. -/
structure OkP (m : Int) (p : Pg) : Prop where
  kind : p.kind = 1
  lsn : 0 ≤ p.lsn
  level : p.level = 0
  right : p.right = 0
  high : p.high = ⟨#[]⟩
  two : p.items.length = 2
  lm : lim m (it0 p) ≠ 0
  size : (it1 p).size = nb m
  top : topOk m (it1 p)
open Classical in
/-- What Check answers. -/
noncomputable def chk (m : Int) (p : Pg) : Int := if Md m then (if OkP m p then 0 else 31) else 1
theorem chk_mod {m : Int} {p : Pg} (h : ¬ Md m) : chk m p = 1 := by unfold chk; rw [if_neg h]
theorem chk_ok {m : Int} {p : Pg} (h : Md m) (k : OkP m p) : chk m p = 0 := by unfold chk; rw [if_pos h, if_pos k]
theorem chk_bad {m : Int} {p : Pg} (h : Md m) (k : ¬ OkP m p) : chk m p = 31 := by unfold chk; rw [if_pos h, if_neg k]
theorem nb_bd {m : Int} (h : Md m) : 4 ≤ nb m ∧ nb m ≤ 256 ∧ m ≤ 4 * (nb m : Int) ∧ 4 * (nb m : Int) ≤ m + 2 := by
  obtain ⟨h1, h2, h3⟩ := h
  unfold nb
  omega
/-- Behind the last id there is nothing. -/
theorem top_iff {m : Int} (h : Md m) {s : ByteArray} : topOk m s ↔ ∀ i : Nat, m ≤ (i : Int) → i < 4 * nb m → stAt (bl s) i = 0 := by
  have hn := nb_bd h
  obtain ⟨h1, h2, h3⟩ := h
  unfold topOk
  have hb := byt_lt (bl s) ((m - 1) / 4).toNat
  have hq : (m - 1) % 4 = 1 ∨ (m - 1) % 4 = 3 := by omega
  rcases hq with hq | hq
  · rw [hq]
    constructor
    · intro hle i hi hi2
      have e : i / 4 = ((m - 1) / 4).toNat := by omega
      have hk : i % 4 = 2 ∨ i % 4 = 3 := by omega
      unfold stAt dig
      rw [e]
      simp only [Int.reduceToNat, Nat.pow_one] at hle
      rcases hk with hk | hk <;> rw [hk] <;> simp only [Nat.reducePow] <;> omega
    · intro ha
      have a1 := ha m.toNat (by omega) (by omega)
      have a2 := ha (m.toNat + 1) (by omega) (by omega)
      unfold stAt dig at a1 a2
      rw [show m.toNat / 4 = ((m - 1) / 4).toNat by omega, show m.toNat % 4 = 2 by omega] at a1
      rw [show (m.toNat + 1) / 4 = ((m - 1) / 4).toNat by omega, show (m.toNat + 1) % 4 = 3 by omega] at a2
      simp only [Nat.reducePow] at a1 a2
      simp only [Int.reduceToNat, Nat.pow_one]
      omega
  · rw [hq]
    constructor
    · intro _ i hi hi2
      omega
    · intro _
      simp only [Int.reduceToNat, Nat.reducePow]
      omega
/-- The page with another status. -/
def setP (p : Pg) (x : Int) (v : Nat) : Pg := ⟨p.lsn, 1, 0, 0, ⟨#[]⟩, [it0 p, str (stSet (bl (it1 p)) (x - 1).toNat v)]⟩
theorem at_lt {m x : Int} (h : Idd m x) {s : ByteArray} (hs : s.size = nb m) : (x - 1).toNat / 4 < (bl s).length := by
  have hn := nb_bd h.1
  have := h.2
  rw [bl_len, hs]
  omega
theorem OkP.set {m x : Int} {p : Pg} {v : Nat} (h : OkP m p) (hx : Idd m x) (hv : v < 4) : OkP m (setP p x v) := by
  refine ⟨rfl, h.lsn, rfl, rfl, rfl, rfl, h.lm, ?_, ?_⟩
  · show (str _).size = _
    rw [str_size, stSet_len, bl_len]; exact h.size
  · rw [top_iff hx.1]
    intro i h1 h2
    show stAt (bl (str _)) i = 0
    rw [bl_str, stAt_set (at_lt hx h.size) hv, if_neg (by have := hx.2; omega)]
    exact (top_iff hx.1).1 h.top i h1 h2
/-- Statuses forgotten, n of them from x on. -/
def clr (m : Int) : Nat → Int → List UInt8 → List UInt8
  | 0, _, l => l
  | n + 1, x, l => clr m n (xadd m x 1) (stSet l (x - 1).toNat 0)
theorem clr_len (m : Int) (n : Nat) (x : Int) (l : List UInt8) : (clr m n x l).length = l.length := by
  induction n generalizing x l with
  | zero => rfl
  | succ n ih => rw [clr, ih, stSet_len]
/-- The page that has forgotten those ahead of y. -/
def cutP (m : Int) (p : Pg) (y : Int) : Pg := ⟨p.lsn, 1, 0, 0, ⟨#[]⟩, [str (sev y.toNat), str (clr m (xgap m (lim m (it0 p)) y).toNat (lim m (it0 p)) (bl (it1 p)))]⟩
theorem OkP.idd {m : Int} {p : Pg} (h : OkP m p) (hm : Md m) : Idd m (lim m (it0 p)) := by
  have h1 := lim_bd (by have := hm.1; omega : 0 ≤ m) (it0 p)
  have h2 := h.lm
  exact ⟨hm, by omega, h1.2⟩
/-- The page of no transaction. -/
def blankP (m f : Int) : Pg := ⟨0, 1, 0, 0, ⟨#[]⟩, [str (sev f.toNat), str (List.replicate (nb m) 0)]⟩
theorem stAt_zero (n i : Nat) : stAt (List.replicate n 0) i = 0 := by
  have : byt (List.replicate n 0) (i / 4) = 0 := by
    unfold byt
    rw [List.getD_eq_getElem?_getD, List.getElem?_replicate]
    split <;> rfl
  unfold stAt
  rw [this]
  unfold dig
  simp
theorem OkP.blank {m f : Int} (h : Idd m f) : OkP m (blankP m f) := by
  refine ⟨rfl, by simp [blankP], rfl, rfl, rfl, rfl, ?_, ?_, ?_⟩
  · show lim m (str (sev f.toNat)) ≠ 0
    rw [lim_sev (by have := h.2; omega) h.2.2 h.1.2.1]
    have := h.2
    omega
  · show (str _).size = _
    rw [str_size, List.length_replicate]
  · rw [top_iff h.1]
    intro i _ _
    show stAt (bl (str _)) i = 0
    rw [bl_str, stAt_zero]
theorem xadd_zero {m x : Int} : (xadd m x 0 != 0) = decide (Idd m x) := by
  by_cases h : Idd m x
  · have := (xadd_id (n := 0) h).2
    rw [decide_eq_true h]
    simp
    omega
  · rw [decide_eq_false h]
    unfold xadd
    rw [if_neg h]
    rfl
theorem idd_one {m : Int} : Idd m 1 ↔ Md m := by
  unfold Idd Md
  omega
theorem cisID_any (m x : Int) (w : World) (hm : I64 m) (hx : I64 x) :
    Calls Tryz.prog 41 #[.int .i64 m, .int .i64 x] w fun e w' => e = .returned (.bool (decide (Idd m x))) ∧ w' = w := by
  have hc := add_any m x 0 w hm hx (I64.of (by omega) (by omega))
  have hq := xadd_zero (m := m) (x := x)
  have hb := xadd_bd (m := m) (x := x) (n := 0)
  obtain ⟨k, hk⟩ : ∃ k, xadd m x 0 = k := ⟨_, rfl⟩
  rw [hk] at hc hq hb
  rw [← hq]
  have hm1 := hm.1
  have hm2 := hm.2
  have hx1 := hx.1
  have hx2 := hx.2
  clear hk hq hm hx
  go_enter Tryz.func41, Tryz.ntmps41
  go_wp2_with (go_at_call 81; refine hc.mono ?_; rintro e w' ⟨rfl, hw⟩; obtain rfl := hw.symm; clear hw)
  go_ret
  exact ⟨rfl, rfl⟩
theorem cisModulus_any (m : Int) (w : World) (hm : I64 m) :
    Calls Tryz.prog 136 #[.int .i64 m] w fun e w' => e = .returned (.bool (decide (Md m))) ∧ w' = w := by
  have hc := cisID_any m 1 w hm (I64.of (by omega) (by omega))
  rw [show decide (Idd m 1) = decide (Md m) from decide_eq_decide.2 idd_one] at hc
  obtain ⟨b, hb⟩ : ∃ b, decide (Md m) = b := ⟨_, rfl⟩
  rw [hb] at hc
  rw [hb]
  have hm1 := hm.1
  have hm2 := hm.2
  clear hb hm
  go_enter Tryz.func136, Tryz.ntmps136
  go_wp2_with (go_at_call 41; refine hc.mono ?_; rintro e w' ⟨rfl, hw⟩; obtain rfl := hw.symm; clear hw)
  go_ret
  exact ⟨rfl, rfl⟩
theorem statusBytes_any (m : Int) (w : World) (h : Md m) :
    Calls Tryz.prog 44 #[.int .i64 m] w fun e w' => e = .returned (.int .i64 (nb m : Int)) ∧ w' = w := by
  have hn : (m + 3) / 4 = (nb m : Int) := by have := h.1; unfold nb; omega
  have h1 := h.1
  have h2 := h.2.1
  have hb := (nb_bd h).2.1
  have ht : (m + 3).tdiv 4 = (nb m : Int) := by rw [← hn]; exact Int.tdiv_eq_ediv_of_nonneg (by omega)
  clear h hn
  obtain ⟨n, hn⟩ : ∃ n, nb m = n := ⟨_, rfl⟩
  rw [hn] at ht hb
  rw [hn]
  clear hn
  have e : m + 4 - 1 = m + 3 := by omega
  go_enter Tryz.func44, Tryz.ntmps44
  go_wp2
  go_ret
  exact ⟨ret_int (by go_num), rfl⟩
theorem cplace_any (x : Int) (w : World) (h1 : 1 ≤ x) (h2 : x ≤ 1024) :
    Calls Tryz.prog 92 #[.int .i64 x] w fun e w' => e = .returned (.tuple #[.int .i64 (((x - 1).toNat / 4 : Nat) : Int), .int .i64 ((2 * ((x - 1).toNat % 4) : Nat) : Int)]) ∧ w' = w := by
  have e1 : (x - 1).tdiv 4 = (((x - 1).toNat / 4 : Nat) : Int) := by rw [Int.tdiv_eq_ediv_of_nonneg (by omega)]; omega
  have e2 : (x - 1).tmod 4 * 2 = ((2 * ((x - 1).toNat % 4) : Nat) : Int) := by rw [Int.tmod_eq_emod_of_nonneg (by omega)]; omega
  have b1 : (x - 1).toNat / 4 ≤ 256 := by omega
  have b2 : 2 * ((x - 1).toNat % 4) ≤ 6 := by omega
  obtain ⟨q, hq⟩ : ∃ q, (x - 1).toNat / 4 = q := ⟨_, rfl⟩
  obtain ⟨r, hr⟩ : ∃ r, 2 * ((x - 1).toNat % 4) = r := ⟨_, rfl⟩
  obtain ⟨t, ht⟩ : ∃ t, (x - 1).tmod 4 = t := ⟨_, rfl⟩
  rw [ht] at e2
  rw [hq] at e1 b1
  rw [hr] at e2 b2
  rw [hq, hr]
  have b3 : 0 ≤ t ∧ t ≤ 3 := by omega
  clear hq hr
  go_enter Tryz.func92, Tryz.ntmps92
  go_wp2
  go_ret2
  exact ⟨rfl, rfl⟩
theorem laidLimit_any (x : Int) (w : World) (h1 : 0 ≤ x) (h2 : x ≤ 1024) :
    Calls Tryz.prog 42 #[.int .i64 x] w fun e w' => e = .returned (.string (str (sev x.toNat))) ∧ Only (fun _ => False) w w' := by
  obtain ⟨b, hb⟩ : ∃ b, w.heap.size = b := ⟨_, rfl⟩
  have HN := hide (new_any w)
  rw [hb] at HN
  have HB := hide hb
  clear hb
  go_enter Tryz.func42, Tryz.ntmps42
  go_wp2_with fail
  refine HN.out.mono ?_
  rintro e w1 ⟨rfl, hw1⟩
  have HW : Hid (Wr w1 b none []) := by unfold Hid; rw [hw1, ← HB.out]; exact Wr.new w
  have HO : Hid (Only (fun _ => False) w w1) := by unfold Hid; rw [hw1]; exact onlyA _ _
  clear hw1 HN
  go_wp2_with fail
  refine (wnum_one w1 b none [] x HW.out (by omega) (by simp)).mono ?_
  rintro e w2 ⟨rfl, row, hW2, hg⟩
  have HW2 := hide hW2
  have HG := hide hg
  clear hW2 hg
  go_wp2_with fail
  refine (wbytes_any w2 b row _ HW2.out).mono ?_
  rintro e w3 ⟨rfl, hw⟩
  obtain rfl := hw.symm
  clear hw
  go_wp2_with fail
  go_ret
  refine ⟨rfl, HO.out.trans HG.out.only ?_⟩
  intro i hi ht
  have := HB.out
  rcases ht with ht | ht
  · omega
  · cases ht
theorem readLimit_any (m : Int) (s : ByteArray) (w : World) (h1 : 0 ≤ m) :
    Calls Tryz.prog 127 #[.int .i64 m, .string s] w fun e w' => e = .returned (.int .i64 (lim m s)) ∧ Only (fun _ => False) w w' := by
  obtain ⟨b, hb⟩ : ∃ b, w.heap.size = b := ⟨_, rfl⟩
  have HN := hide (read_any s w)
  rw [hb] at HN
  have HB := hide hb
  clear hb
  have HL := hide (lim_bd h1 s)
  obtain ⟨n, hn⟩ : ∃ n, (rdN m (bl s)).1 = n := ⟨_, rfl⟩
  obtain ⟨z, hz⟩ : ∃ z, (rdN m (bl s)).2.2 = z := ⟨_, rfl⟩
  obtain ⟨r, hr⟩ : ∃ r, (rdN m (bl s)).2.1 = r := ⟨_, rfl⟩
  have HC : Hid (lim m s = if z = 0 ∧ r = [] then n else 0) := by unfold Hid lim; rw [hn, hz, hr]
  have HR : Hid (∀ w1, Rd w1 b s 0 → Calls Tryz.prog 140 #[.pointer (some ⟨b, 0, none⟩), .int .i64 m] w1 fun e w' => e = .returned (.int .i64 n) ∧ Rd w' b ⟨r.toArray⟩ z ∧ Only (fun k => k = b) w1 w') := by
    intro w1 hR
    have := rnum_any w1 b s m hR
    rw [hn, hz, hr] at this
    exact this
  have hbn := rdN_facts m (bl s)
  rw [hn] at hbn
  have hn0 := hbn.1
  have hn1 := hbn.2.1
  clear hn hz hr hbn
  go_enter Tryz.func127, Tryz.ntmps127
  go_wp2_with fail
  refine HN.out.mono ?_
  rintro e w1 ⟨rfl, hw1⟩
  have HW : Hid (Rd w1 b s 0) := by unfold Hid; rw [hw1, ← HB.out]; exact Rd.new w s
  have HO : Hid (Only (fun _ => False) w w1) := by unfold Hid; rw [hw1]; exact onlyA _ _
  clear hw1 HN
  go_wp2_with fail
  refine (HR.out w1 HW.out).mono ?_
  rintro e w2 ⟨rfl, hR2, ho2⟩
  have HR2 := hide hR2
  have HO2 : Hid (Only (fun _ => False) w w2) := HO.out.trans ho2 (by intro i hi ht; have := HB.out; omega)
  clear hR2 ho2
  by_cases hz : z = 0
  · have HE := hide (rend_ok w2 b ⟨r.toArray⟩ (by have := HR2.out.c1; rw [hz] at this; exact this) HR2.out.c0)
    by_cases hr : r = []
    · have HV : Hid (lim m s = n) := by unfold Hid; rw [HC.out, if_pos ⟨hz, hr⟩]
      have e0 : (ByteArray.mk r.toArray).size = 0 := by rw [hr]; rfl
      rw [if_pos e0] at HE
      clear hz hr e0
      go_wp2_with fail
      refine HE.out.mono ?_
      rintro e w3 ⟨rfl, hw⟩
      obtain rfl := hw.symm
      clear hw
      go_wp2_with fail
      go_ret
      exact ⟨ret_int HV.out.symm, HO2.out⟩
    · have HV : Hid (lim m s = 0) := by unfold Hid; rw [HC.out, if_neg (fun k => hr k.2)]
      have e0 : ¬ (ByteArray.mk r.toArray).size = 0 := by
        intro h
        apply hr
        exact List.eq_nil_of_length_eq_zero (by simpa [ByteArray.size] using h)
      rw [if_neg e0] at HE
      clear hz hr e0
      go_wp2_with fail
      refine HE.out.mono ?_
      rintro e w3 ⟨rfl, hw⟩
      obtain rfl := hw.symm
      clear hw
      go_wp2_with fail
      go_ret
      exact ⟨ret_int HV.out.symm, HO2.out⟩
  · have HV : Hid (lim m s = 0) := by unfold Hid; rw [HC.out, if_neg (fun k => hz k.1)]
    have hzz : (z != 0) = true := by simp [hz]
    have HE := hide (rend_err w2 b z HR2.out.c1 hzz)
    clear hz
    go_wp2_with fail
    refine HE.out.mono ?_
    rintro e w3 ⟨rfl, hw⟩
    obtain rfl := hw.symm
    clear hw
    go_wp2_with fail
    go_ret
    exact ⟨ret_int HV.out.symm, HO2.out⟩
/-- A version as a value. -/
def Tu.agg (t : Tu) : Value := .agg #[.int .i64 t.xmin, .int .i64 t.xmax, .bool t.frozen, .string t.key, .string t.value]
theorem isKey_any (k : ByteArray) (w : World) : Calls Tryz.prog 48 #[.string k] w fun e w' => e = .returned (.bool (okK k)) ∧ w' = w := by
  have hk : okK k = (decide ((1 : Int) ≤ k.size) && decide ((k.size : Int) ≤ 24)) := by
    unfold okK
    rw [Bool.eq_iff_iff]
    simp only [Bool.and_eq_true, decide_eq_true_eq]
    omega
  rw [hk]
  by_cases h1 : (1 : Int) ≤ k.size
  · go_enter Tryz.func48, Tryz.ntmps48
    go_wp2
    go_ret
    exact ⟨by simp [h1], rfl⟩
  · go_enter Tryz.func48, Tryz.ntmps48
    go_wp2
    go_ret
    exact ⟨by simp; omega, rfl⟩
theorem umark_any (b : Bool) (w : World) : Calls Tryz.prog 51 #[.bool b] w fun e w' => e = .returned (.string ⟨#[mkB b]⟩) ∧ w' = w := by
  cases b
  all_goals
    go_enter Tryz.func51, Tryz.ntmps51
    go_wp2
    go_ret
    exact ⟨rfl, rfl⟩
theorem ufree_any (w : World) : Calls Tryz.prog 19 #[] w fun e w' => e = .returned (.string ⟨#[]⟩) ∧ w' = w := by
  go_enter Tryz.func19, Tryz.ntmps19
  go_wp2
  go_ret
  exact ⟨rfl, rfl⟩
theorem ba_eqU {s t : ByteArray} (h : s = t) : (s.toList == t.toList) = true := by simp [h]
theorem ba_neU {s t : ByteArray} (h : ¬ s = t) : (s.toList == t.toList) = false := by
  cases e : (s.toList == t.toList) with
  | false => rfl
  | true =>
    refine absurd ?_ h
    have e' : s.toList = t.toList := by simpa using e
    rw [ByteArray.toList_eq, ByteArray.toList_eq] at e'
    exact ByteArray.ext (Array.toList_inj.1 e')
theorem one_ne {a b : UInt8} (h : ¬ a = b) : ¬ (⟨#[a]⟩ : ByteArray) = ⟨#[b]⟩ := by
  intro e
  injection e with e
  simp at e
  exact h e
theorem isMark_any (a : UInt8) (w : World) : Calls Tryz.prog 96 #[.string ⟨#[a]⟩] w fun e w' => e = .returned (.bool (a == 1 || a == 3)) ∧ w' = w := by
  by_cases h1 : a = 1
  · subst h1
    go_enter Tryz.func96, Tryz.ntmps96
    go_wp2
    go_ret
    exact ⟨rfl, rfl⟩
  · have e1 : ((⟨#[a]⟩ : ByteArray).toList == (⟨#[1]⟩ : ByteArray).toList) = false := ba_neU (one_ne h1)
    by_cases h3 : a = 3
    · subst h3
      go_enter Tryz.func96, Tryz.ntmps96
      go_wp2
      go_ret
      exact ⟨rfl, rfl⟩
    · have e3 : ((⟨#[a]⟩ : ByteArray).toList == (⟨#[3]⟩ : ByteArray).toList) = false := ba_neU (one_ne h3)
      go_enter Tryz.func96, Tryz.ntmps96
      go_wp2
      go_ret
      exact ⟨ret_bool (by simp_all), rfl⟩
set_option maxRecDepth 100000 in
set_option maxHeartbeats 1600000 in
theorem isVersion_any (t : Tu) (w : World) (h0 : -9223372036854775808 ≤ t.xmin ∧ t.xmin < 9223372036854775808) (h1 : -9223372036854775808 ≤ t.xmax ∧ t.xmax < 9223372036854775808) :
    Calls Tryz.prog 50 #[t.agg] w fun e w' => e = .returned (.bool t.ok) ∧ Only (fun _ => False) w w' := by
  obtain ⟨a, b, f, k, v⟩ := t
  have hk : Tu.ok ⟨a, b, f, k, v⟩ = (decide (1 ≤ a) && (decide (a ≤ 1024) && (decide (0 ≤ b) && (decide (b ≤ 1024) && (okK k && decide ((v.size : Int) ≤ 64)))))) := by
    unfold okK Tu.ok
    rw [Bool.eq_iff_iff]
    simp only [Bool.and_eq_true, decide_eq_true_eq]
    omega
  rw [hk]
  unfold Tu.agg
  simp only at h0 h1 ⊢
  clear hk
  obtain ⟨q, hq⟩ : ∃ q, okK k = q := ⟨_, rfl⟩
  have hc := fun W => isKey_any k W
  rw [hq] at hc
  rw [hq]
  clear hq
  by_cases c1 : 1 ≤ a
  · by_cases c2 : a ≤ 1024
    · by_cases c3 : 0 ≤ b
      · by_cases c4 : b ≤ 1024
        · cases q
          all_goals
            go_enter Tryz.func50, Tryz.ntmps50
            go_wp2_with (go_at_call 48; refine (hc _).mono ?_; rintro e w' ⟨rfl, hw⟩; obtain rfl := hw.symm; clear hw)
            go_ret
            exact ⟨by simp [c1, c2, c3, c4], onlyA _ _⟩
        · go_enter Tryz.func50, Tryz.ntmps50
          go_wp2
          go_ret
          exact ⟨by simp; omega, onlyA _ _⟩
      · go_enter Tryz.func50, Tryz.ntmps50
        go_wp2
        go_ret
        exact ⟨by simp; omega, onlyA _ _⟩
    · go_enter Tryz.func50, Tryz.ntmps50
      go_wp2
      go_ret
      exact ⟨by simp; omega, onlyA _ _⟩
  · go_enter Tryz.func50, Tryz.ntmps50
    go_wp2
    go_ret
    exact ⟨by simp; omega, onlyA _ _⟩
/-- A version in block b. -/
structure Tb (w : World) (b : Nat) (t : Tu) : Prop where
  c0 : w.cell? ⟨b, 0, none⟩ = some (.int .i64 t.xmin)
  c1 : w.cell? ⟨b, 1, none⟩ = some (.int .i64 t.xmax)
  c2 : w.cell? ⟨b, 2, none⟩ = some (.bool t.frozen)
  c3 : w.cell? ⟨b, 3, none⟩ = some (.string t.key)
  c4 : w.cell? ⟨b, 4, none⟩ = some (.string t.value)
  f0 : w.frozen? ⟨b, 0, none⟩ = false
  f1 : w.frozen? ⟨b, 1, none⟩ = false
  f2 : w.frozen? ⟨b, 2, none⟩ = false
  f3 : w.frozen? ⟨b, 3, none⟩ = false
  f4 : w.frozen? ⟨b, 4, none⟩ = false
  lt : b < w.heap.size
theorem Tb.kept {S : Nat → Prop} {w w' : World} {b : Nat} {t : Tu} (h : Tb w b t) (ho : Only S w w') (hS : ¬ S b) : Tb w' b t :=
  ⟨(ho.cell (p := ⟨b, 0, none⟩) h.lt hS).trans h.c0, (ho.cell (p := ⟨b, 1, none⟩) h.lt hS).trans h.c1, (ho.cell (p := ⟨b, 2, none⟩) h.lt hS).trans h.c2, (ho.cell (p := ⟨b, 3, none⟩) h.lt hS).trans h.c3, (ho.cell (p := ⟨b, 4, none⟩) h.lt hS).trans h.c4,
   (ho.frozen (p := ⟨b, 0, none⟩) h.lt hS).trans h.f0, (ho.frozen (p := ⟨b, 1, none⟩) h.lt hS).trans h.f1, (ho.frozen (p := ⟨b, 2, none⟩) h.lt hS).trans h.f2, (ho.frozen (p := ⟨b, 3, none⟩) h.lt hS).trans h.f3, (ho.frozen (p := ⟨b, 4, none⟩) h.lt hS).trans h.f4, Nat.lt_of_lt_of_le h.lt ho.size⟩
theorem Tb.more {w w' : World} {b : Nat} {t : Tu} (h : Tb w b t) (ho : Only (fun _ => False) w w') : Tb w' b t := h.kept ho (fun h => h)
theorem Tb.new (w : World) (t : Tu) : Tb (w.alloc (.cells #[.int .i64 t.xmin, .int .i64 t.xmax, .bool t.frozen, .string t.key, .string t.value] 62)) w.heap.size t :=
  ⟨by simp, by simp, by simp, by simp, by simp, by simp, by simp, by simp, by simp, by simp, by simp⟩
theorem othU (W : World) (b i j : Nat) (v x : Value) (hij : i ≠ j) (hx : W.cell? ⟨b, j, none⟩ = some x) : (W.setCell ⟨b, i, none⟩ v).cell? ⟨b, j, none⟩ = some x :=
  (World.cell?_setCell_other _ _ _ _ (by intro e; injection e; omega)).trans hx
theorem Tb.s0 {w : World} {b : Nat} {t : Tu} (h : Tb w b t) (x : Int) : Tb (w.setCell ⟨b, 0, none⟩ (.int .i64 x)) b ⟨x, t.xmax, t.frozen, t.key, t.value⟩ :=
  ⟨World.cell?_setCell_same _ _ _ h.c0, othU _ _ _ _ _ _ (by omega) h.c1, othU _ _ _ _ _ _ (by omega) h.c2, othU _ _ _ _ _ _ (by omega) h.c3, othU _ _ _ _ _ _ (by omega) h.c4, by simpa using h.f0, by simpa using h.f1, by simpa using h.f2, by simpa using h.f3, by simpa using h.f4, by simpa using h.lt⟩
theorem Tb.s1 {w : World} {b : Nat} {t : Tu} (h : Tb w b t) (x : Int) : Tb (w.setCell ⟨b, 1, none⟩ (.int .i64 x)) b ⟨t.xmin, x, t.frozen, t.key, t.value⟩ :=
  ⟨othU _ _ _ _ _ _ (by omega) h.c0, World.cell?_setCell_same _ _ _ h.c1, othU _ _ _ _ _ _ (by omega) h.c2, othU _ _ _ _ _ _ (by omega) h.c3, othU _ _ _ _ _ _ (by omega) h.c4, by simpa using h.f0, by simpa using h.f1, by simpa using h.f2, by simpa using h.f3, by simpa using h.f4, by simpa using h.lt⟩
theorem Tb.s2 {w : World} {b : Nat} {t : Tu} (h : Tb w b t) (x : Bool) : Tb (w.setCell ⟨b, 2, none⟩ (.bool x)) b ⟨t.xmin, t.xmax, x, t.key, t.value⟩ :=
  ⟨othU _ _ _ _ _ _ (by omega) h.c0, othU _ _ _ _ _ _ (by omega) h.c1, World.cell?_setCell_same _ _ _ h.c2, othU _ _ _ _ _ _ (by omega) h.c3, othU _ _ _ _ _ _ (by omega) h.c4, by simpa using h.f0, by simpa using h.f1, by simpa using h.f2, by simpa using h.f3, by simpa using h.f4, by simpa using h.lt⟩
theorem Tb.s3 {w : World} {b : Nat} {t : Tu} (h : Tb w b t) (x : ByteArray) : Tb (w.setCell ⟨b, 3, none⟩ (.string x)) b ⟨t.xmin, t.xmax, t.frozen, x, t.value⟩ :=
  ⟨othU _ _ _ _ _ _ (by omega) h.c0, othU _ _ _ _ _ _ (by omega) h.c1, othU _ _ _ _ _ _ (by omega) h.c2, World.cell?_setCell_same _ _ _ h.c3, othU _ _ _ _ _ _ (by omega) h.c4, by simpa using h.f0, by simpa using h.f1, by simpa using h.f2, by simpa using h.f3, by simpa using h.f4, by simpa using h.lt⟩
theorem Tb.s4 {w : World} {b : Nat} {t : Tu} (h : Tb w b t) (x : ByteArray) : Tb (w.setCell ⟨b, 4, none⟩ (.string x)) b ⟨t.xmin, t.xmax, t.frozen, t.key, x⟩ :=
  ⟨othU _ _ _ _ _ _ (by omega) h.c0, othU _ _ _ _ _ _ (by omega) h.c1, othU _ _ _ _ _ _ (by omega) h.c2, othU _ _ _ _ _ _ (by omega) h.c3, World.cell?_setCell_same _ _ _ h.c4, by simpa using h.f0, by simpa using h.f1, by simpa using h.f2, by simpa using h.f3, by simpa using h.f4, by simpa using h.lt⟩
theorem Tb.all {w : World} {b : Nat} {u : Tu} (h : Tb w b u) (t : Tu) : Tb (((((w.setCell ⟨b, 0, none⟩ (.int .i64 t.xmin)).setCell ⟨b, 1, none⟩ (.int .i64 t.xmax)).setCell ⟨b, 2, none⟩ (.bool t.frozen)).setCell ⟨b, 3, none⟩ (.string t.key)).setCell ⟨b, 4, none⟩ (.string t.value)) b t :=
  ((((h.s0 t.xmin).s1 t.xmax).s2 t.frozen).s3 t.key).s4 t.value
theorem Only.fiveU (w : World) (b : Nat) (v0 v1 v2 v3 v4 : Value) : Only (fun k => k = b) w (((((w.setCell ⟨b, 0, none⟩ v0).setCell ⟨b, 1, none⟩ v1).setCell ⟨b, 2, none⟩ v2).setCell ⟨b, 3, none⟩ v3).setCell ⟨b, 4, none⟩ v4) := by
  have st : ∀ (W : World) (i : Nat) (v : Value), Only (fun k => k = b) W (W.setCell ⟨b, i, none⟩ v) := fun W i v => Only.setCell W ⟨b, i, none⟩ v rfl
  exact ((((st _ 0 _).trans (st _ 1 _) (fun _ _ h => h)).trans (st _ 2 _) (fun _ _ h => h)).trans (st _ 3 _) (fun _ _ h => h)).trans (st _ 4 _) (fun _ _ h => h)
theorem load_tub {w : World} {b : Nat} {t : Tu} (h : Tb w b t) : (loadVar 62 ⟨b, 0, none⟩).run Tryz.prog w = .ok t.agg w := by
  have c0 := h.c0
  have c1 := h.c1
  have c2 := h.c2
  have c3 := h.c3
  have c4 := h.c4
  simp [loadVar, go_sem, c0, c1, c2, c3, c4, Tu.agg]
theorem results_tub {fn : Func} {p u : Tmp} (h : fn.results = #[.cell p 62, .tmp u]) {tmps : Array Value} {w : World} {b : Nat} {t : Tu} (hp : tmps.getD p undef = .pointer (some ⟨b, 0, none⟩)) (hP : Tb w b t) :
    (results fn tmps).run Tryz.prog w = .ok (.tuple #[t.agg, tmps.getD u undef]) w := by
  have e : (asAddr (.pointer (some ⟨b, 0, none⟩))).run Tryz.prog w = .ok ⟨b, 0, none⟩ w := rfl
  rw [results_cell_tmp h, hp, e]
  simp only [Result.andThen, load_tub hP]
theorem yieldsIf_load_tub {ops : Array Oper} {S : World → Prop} {op : Oper} {a : Act} {t : Tu} (hw : Region.wanted op (yielded ops a.tmps) = true) (x : Operand) (ho : op.op = .load 62 x)
    {b : Nat} (hx : a.eval x = .pointer (some ⟨b, 0, none⟩)) (hS : ∀ w, S w → Tb w b t) : YieldsIf Tryz.prog ops S op t.agg a :=
  .inl ⟨hw, fun w hw' => by
    unfold execOp
    simp only [ho, hx, Instr.loadAt, Instr.sureAddr, Sem.run_bind, Sem.run_pure, Result.andThen_ok, load_tub (hS w hw')]⟩
theorem yieldsIf_load_cell {ops : Array Oper} {S : World → Prop} {op : Oper} {a : Act} {v : Value} (hw : Region.wanted op (yielded ops a.tmps) = true) (ty : TypeId) (x : Operand) (ho : op.op = .load ty x)
    (p : Addr) (hx : a.eval x = .pointer (some p)) (hS : ∀ w, S w → w.cell? p = some v) (hl : ∀ w, w.cell? p = some v → (loadVar ty p).run Tryz.prog w = .ok v w) : YieldsIf Tryz.prog ops S op v a :=
  .inl ⟨hw, fun w hw' => by
    unfold execOp
    simp only [ho, hx, Instr.loadAt, Instr.sureAddr, Sem.run_bind, Sem.run_pure, Result.andThen_ok, hl w (hS w hw')]⟩
theorem ld_int {w : World} {p : Addr} {v : Value} (h : w.cell? p = some v) : (loadVar 3 p).run Tryz.prog w = .ok v w := by simp [loadVar, go_sem, h]
theorem ld_bool {w : World} {p : Addr} {v : Value} (h : w.cell? p = some v) : (loadVar 4 p).run Tryz.prog w = .ok v w := by simp [loadVar, go_sem, h]
theorem ld_string {w : World} {p : Addr} {v : Value} (h : w.cell? p = some v) : (loadVar 9 p).run Tryz.prog w = .ok v w := by simp [loadVar, go_sem, h]
theorem ld_strings {w : World} {p : Addr} {v : Value} (h : w.cell? p = some v) : (loadVar 28 p).run Tryz.prog w = .ok v w := by simp [loadVar, go_sem, h]
/-- Texts as they are laid one behind the other. -/
def txsL (l : List ByteArray) : List UInt8 := (l.map txL).flatten
theorem txsL_snoc (l : List ByteArray) (k : Nat) (h : k < l.length) : txsL (l.take (k + 1)) = txsL (l.take k) ++ (sev l[k].size ++ l[k].data.toList) := by
  unfold txsL
  rw [List.take_succ_eq_append_getElem h, List.map_append, List.flatten_append]
  simp [txL]
set_option maxRecDepth 100000 in
set_option maxHeartbeats 800000 in
theorem ulaid_any (w : World) (B cp : Nat) (ao : Option Addr) (l : List ByteArray) (hS : Strs w B ao l) (hl : l.length ≤ 2) (hs : ∀ s ∈ l, s.size ≤ 100) :
    Calls Tryz.prog 49 #[.slice ao l.length cp] w fun e w' => e = .returned (.string (str (txsL l))) ∧ Only (fun _ => False) w w' := by
  have HS := hide hS
  have HZ := hide hs
  have HLN : Hid (∀ k, k ≤ l.length → (txsL (l.take k)).length ≤ 110 * k) := by
    intro k hk
    induction k with
    | zero => simp [txsL]
    | succ k ih =>
      rw [txsL_snoc l k (by omega)]
      have h1 := ih (by omega)
      have h2 : (sev l[k].size).length ≤ 10 := sevF_len 9 _
      have h3 := hs l[k] (List.getElem_mem _)
      have h4 : l[k].data.toList.length = l[k].size := bl_len _
      simp only [List.length_append]
      omega
  clear hS hs
  go_enter Tryz.func49, Tryz.ntmps49
  go_wp2_with fail
  refine (new_any w).mono ?_
  rintro e w1 ⟨rfl, rfl⟩
  have HW0 := hide (Wr.new w)
  have HO0 := hide (onlyA w (.cells #[.slice none 0 0] 166))
  obtain ⟨w1, hw1⟩ : ∃ x, w.alloc (.cells #[.slice none 0 0] 166) = x := ⟨_, rfl⟩
  rw [hw1] at HW0 HO0 ⊢
  clear hw1
  go_wp2_with fail
  go_loopw [9] (fun i wr => ∃ (k : Nat) (row : Option Nat), k ≤ l.length ∧ i = .int .i64 k ∧ Hid (Wr wr w.heap.size row (txsL (l.take k))) ∧ Hid (Only (fun _ => False) w wr))
    (fun i _ => l.length - (intOf i).toNat)
  case atStart => exact ⟨0, none, Nat.zero_le _, rfl, by simpa [txsL] using HW0, HO0⟩
  case round =>
    obtain ⟨k, row, hk, rfl, HW, HO⟩ := hrel
    by_cases hlt : k < l.length
    · obtain ⟨o, rfl, hc⟩ := HS.out.at_ (by omega)
      have hB := HS.out.lt (by omega)
      have ck : wr.cell? ⟨B, o + k, none⟩ = some (.string l[k]) := (HO.out.cell (p := ⟨B, o + k, none⟩) hB (fun h => h)).trans (hc k hlt)
      have hlk : (k : Int) < (l.length : Int) := by omega
      have h100 := HZ.out l[k] (List.getElem_mem hlt)
      have hll := HLN.out k hk
      have HE := hide (txsL_snoc l k hlt)
      obtain ⟨s, hs⟩ : ∃ s, l[k] = s := ⟨_, rfl⟩
      rw [hs] at ck h100 HE
      clear hc hs
      go_wp2_with fail
      refine (wtext_any wr w.heap.size row _ s HW.out (by omega)).mono ?_
      rintro e w2 ⟨rfl, row2, hW2, hg2⟩
      rw [← HE.out] at hW2
      have HW2 := hide hW2
      have HO2 : Hid (Only (fun _ => False) w w2) := HO.out.trans hg2.only (by
        rintro i hi (e | e)
        · omega
        · have := (HW.out.rowLt i e.symm).1
          omega)
      clear hW2 hg2
      go_wp2_with fail
      go_roundw
      case rel => exact ⟨k + 1, row2, by omega, by go_num, HW2, HO2⟩
      case measure => simp [intOf]; omega
    · have hlk : ¬ (k : Int) < (l.length : Int) := by omega
      have ek : l.take k = l := List.take_of_length_le (by omega)
      rw [ek] at HW
      go_wp2_with fail
      refine (wbytes_any wr w.heap.size row _ HW.out).mono ?_
      rintro e w2 ⟨rfl, rfl⟩
      go_wp2_with fail
      go_ret
      exact ⟨rfl, HO.out⟩
/-- Whether bytes begin with a dead slot's mark. -/
def fourB (l : List UInt8) : Bool := l.head? == some 4
theorem bl_inj {s t : ByteArray} (h : bl s = bl t) : s = t := by rw [← str_bl s, h, str_bl]
theorem ext_blU (s : ByteArray) (i j : Nat) : bl (s.extract i j) = ((bl s).drop i).take (j - i) := by
  unfold bl
  rw [ByteArray.data_extract, Array.toList_extract]
theorem ext_first (s : ByteArray) (h : 1 ≤ s.size) : ∃ a r, bl s = a :: r ∧ s.extract 0 1 = ⟨#[a]⟩ ∧ bl (s.extract 1 s.size) = r := by
  have hl := bl_len s
  cases e : bl s with
  | nil => rw [e] at hl; simp at hl; omega
  | cons a r =>
    refine ⟨a, r, rfl, bl_inj ?_, ?_⟩
    · rw [ext_blU, e]; rfl
    · rw [ext_blU, e]
      rw [e] at hl
      simp only [List.length_cons] at hl
      exact List.take_of_length_le (by simp; omega)
theorem hasPrefix_any (s : ByteArray) (w : World) : Calls Tryz.prog 133 #[.string s, .string ⟨#[4]⟩] w fun e w' => e = .returned (.bool (fourB (bl s))) ∧ w' = w := by
  by_cases h : 1 ≤ s.size
  · obtain ⟨a, r, h1, h2, h3⟩ := ext_first s h
    have hz : (1 : Int) ≤ (s.size : Int) := by omega
    have hb : fourB (bl s) = ((s.extract 0 1).toList == (⟨#[4]⟩ : ByteArray).toList) := by
      rw [h1, h2]
      by_cases e : a = 4
      · subst e; rw [ba_eqU rfl]; rfl
      · rw [ba_neU (one_ne e)]
        simpa [fourB] using e
    rw [hb]
    clear h1 h2 h3 hb h
    go_enter Tryz.func133, Tryz.ntmps133
    go_wp2
    go_ret
    exact ⟨ret_bool (by rw [ByteArray.toList_eq ⟨#[4]⟩]), rfl⟩
  · have hz : ¬ (1 : Int) ≤ (s.size : Int) := by omega
    have hb : fourB (bl s) = false := by
      have := bl_len s
      rw [List.eq_nil_of_length_eq_zero (l := bl s) (by omega)]
      rfl
    rw [hb]
    clear h hb
    go_enter Tryz.func133, Tryz.ntmps133
    go_wp2
    go_ret
    exact ⟨rfl, rfl⟩
/-- What is left of bytes behind a dead slot's mark; without it all. -/
def behind (s : ByteArray) : ByteArray := if fourB (bl s) then s.extract 1 s.size else s
theorem slCut_any (s : ByteArray) (w : World) : Calls Tryz.prog 183 #[.string s, .string ⟨#[4]⟩] w fun e w' => e = .returned (.tuple #[.string (behind s), .bool (fourB (bl s))]) ∧ w' = w := by
  have hc := hasPrefix_any s w
  have hz : fourB (bl s) = true → (1 : Int) ≤ (s.size : Int) := by
    intro h
    have := bl_len s
    rcases Nat.eq_zero_or_pos s.size with e | e
    · rw [List.eq_nil_of_length_eq_zero (l := bl s) (by omega)] at h
      cases h
    · omega
  unfold behind
  cases hb : fourB (bl s)
  · rw [hb] at hc
    clear hz hb
    go_enter Tryz.func183, Tryz.ntmps183
    go_wp2_with (go_at_call 133; refine hc.mono ?_; rintro e w' ⟨rfl, hw⟩; obtain rfl := hw.symm; clear hw)
    go_ret2
    exact ⟨rfl, rfl⟩
  · rw [hb] at hc
    have hz := hz hb
    clear hb
    go_enter Tryz.func183, Tryz.ntmps183
    go_wp2_with (go_at_call 133; refine hc.mono ?_; rintro e w' ⟨rfl, hw⟩; obtain rfl := hw.symm; clear hw)
    go_ret2
    exact ⟨rfl, rfl⟩
theorem cut_any (s : ByteArray) (w : World) : Calls Tryz.prog 144 #[.string s, .string ⟨#[4]⟩] w fun e w' => e = .returned (.tuple #[.string (behind s), .bool (fourB (bl s))]) ∧ w' = w := by
  have hc := slCut_any s w
  go_enter Tryz.func144, Tryz.ntmps144
  go_wp2_with (go_at_call 183; refine hc.mono ?_; rintro e w' ⟨rfl, hw⟩; obtain rfl := hw.symm; clear hw)
  go_ret2
  exact ⟨rfl, rfl⟩
/-- The High of a page whose head is a node's; the least, where there is none. -/
def hdO (k v r : Int) (h : ByteArray) : Option En := if k = 3 ∧ 0 ≤ v ∧ v ≤ 255 ∧ 0 ≤ r ∧ r ≤ 65535 then (if h = ⟨#[]⟩ then some noE else decE (bl h)) else none
theorem readHead_few (w : World) (a k v r : Int) (h : ByteArray) (ao : Option Addr) (n cp : Nat) (hb : ¬ (k = 3 ∧ 0 ≤ v ∧ v ≤ 255 ∧ 0 ≤ r ∧ r ≤ 65535)) :
    Calls Tryz.prog 193 #[pgv a k v r h ao n cp] w fun e w' => e = .returned (.tuple #[noE.agg, .bool false]) ∧ Only (fun _ => False) w w' := by
  by_cases hk : k = 3
  · subst hk
    have HX := hide (hd_new w (.int .i64 a) (.int .i64 3) (.int .i64 v) (.int .i64 r) (.string h) (.slice ao n cp))
    by_cases h1 : v < 0
    · clear hb
      unfold pgv
      go_enter Tryz.func193, Tryz.ntmps193
      go_upto_region 1 with fail
      obtain ⟨W0, hW0⟩ : ∃ x, (w.alloc (.cells #[.int .i64 a, .int .i64 3, .int .i64 v, .int .i64 r, .string h, .slice ao n cp] 30)).alloc (.cells #[.string ⟨#[]⟩, .int .i64 0, .int .i64 0] 74) = x := ⟨_, rfl⟩
      rw [hW0] at HX ⊢
      clear hW0
      obtain ⟨p0, p1, p2, p3, p4, p5, _⟩ := HX.out.1
      obtain ⟨q0, q1, q2, g0, g1, g2, ql⟩ := HX.out.2.1
      go_wp2_with fail
      refine bodyPost_ret (results_ev rfl rfl (HX.out.2.1.all noE)) rfl ?_
      exact ⟨rfl, HX.out.2.2.trans (Only.three _ _ _ _ _) (fun i hi e => by omega)⟩
    · by_cases h2 : (255 : Int) < v
      · clear hb
        unfold pgv
        go_enter Tryz.func193, Tryz.ntmps193
        go_upto_region 1 with fail
        obtain ⟨W0, hW0⟩ : ∃ x, (w.alloc (.cells #[.int .i64 a, .int .i64 3, .int .i64 v, .int .i64 r, .string h, .slice ao n cp] 30)).alloc (.cells #[.string ⟨#[]⟩, .int .i64 0, .int .i64 0] 74) = x := ⟨_, rfl⟩
        rw [hW0] at HX ⊢
        clear hW0
        obtain ⟨p0, p1, p2, p3, p4, p5, _⟩ := HX.out.1
        obtain ⟨q0, q1, q2, g0, g1, g2, ql⟩ := HX.out.2.1
        go_wp2_with fail
        refine bodyPost_ret (results_ev rfl rfl (HX.out.2.1.all noE)) rfl ?_
        exact ⟨rfl, HX.out.2.2.trans (Only.three _ _ _ _ _) (fun i hi e => by omega)⟩
      · have HN : Hid (∀ W, Calls Tryz.prog 192 #[.int .i64 r] W fun e w' => e = .returned (.bool false) ∧ w' = W) := fun W => by
          have := isNumber_any r W
          rwa [show nm r = false by unfold nm; simp; omega] at this
        clear hb
        unfold pgv
        go_enter Tryz.func193, Tryz.ntmps193
        go_upto_region 1 with fail
        obtain ⟨W0, hW0⟩ : ∃ x, (w.alloc (.cells #[.int .i64 a, .int .i64 3, .int .i64 v, .int .i64 r, .string h, .slice ao n cp] 30)).alloc (.cells #[.string ⟨#[]⟩, .int .i64 0, .int .i64 0] 74) = x := ⟨_, rfl⟩
        rw [hW0] at HX ⊢
        clear hW0
        obtain ⟨p0, p1, p2, p3, p4, p5, _⟩ := HX.out.1
        obtain ⟨q0, q1, q2, g0, g1, g2, ql⟩ := HX.out.2.1
        go_wp2_with fail
        refine (HN.out _).mono ?_
        rintro x w1 ⟨rfl, h1⟩
        obtain rfl := h1.symm
        go_wp2_with fail
        refine bodyPost_ret (results_ev rfl rfl (HX.out.2.1.all noE)) rfl ?_
        exact ⟨rfl, HX.out.2.2.trans (Only.three _ _ _ _ _) (fun i hi e => by omega)⟩
  · exact readHead_bad w a k v r h ao n cp hk
theorem readHead_none (w : World) (a v r : Int) (h : ByteArray) (ao : Option Addr) (n cp : Nat) (hv : 0 ≤ v ∧ v ≤ 255) (hr : 0 ≤ r ∧ r ≤ 65535) (hx : ¬ h = ⟨#[]⟩) (hd : decE (bl h) = none) :
    Calls Tryz.prog 193 #[pgv a 3 v r h ao n cp] w fun e w' => e = .returned (.tuple #[noE.agg, .bool false]) ∧ Only (fun _ => False) w w' := by
  have HX := hide (hd_new w (.int .i64 a) (.int .i64 3) (.int .i64 v) (.int .i64 r) (.string h) (.slice ao n cp))
  have HN : Hid (∀ W, Calls Tryz.prog 192 #[.int .i64 r] W fun e w' => e = .returned (.bool true) ∧ w' = W) := fun W => by
    have := isNumber_any r W
    rwa [show nm r = true by unfold nm; simp; omega] at this
  have t1 : ¬ v < 0 := by omega
  have t2 : ¬ (255 : Int) < v := by omega
  have HD : Hid (∀ W, Calls Tryz.prog 120 #[.string h] W fun e w' => e = .returned (.tuple #[.agg #[.string ⟨#[]⟩, .int .i64 0, .int .i64 0], .int .i64 140]) ∧ Only (fun _ => False) W w') := fun W => by
    have := decode_any h W
    rw [hd] at this
    exact this
  have hne := ba_neN (s := h) (t := ⟨#[]⟩) hx
  have hne' : ¬ h.toList = [] := by
    have h2 : ¬ h.toList = (⟨#[]⟩ : ByteArray).toList := by simpa using hne
    rw [ByteArray.toList_eq ⟨#[]⟩] at h2
    exact h2
  have hn1 : (h.toList == []) = false := by simpa using hne'
  have hn2 : h.toList.isEmpty = false := by
    cases e : h.toList with
    | nil => exact absurd e hne'
    | cons _ _ => rfl
  clear hx hd hne hv hr
  unfold pgv
  go_enter Tryz.func193, Tryz.ntmps193
  go_upto_region 1 with fail
  obtain ⟨W0, hW0⟩ : ∃ x, (w.alloc (.cells #[.int .i64 a, .int .i64 3, .int .i64 v, .int .i64 r, .string h, .slice ao n cp] 30)).alloc (.cells #[.string ⟨#[]⟩, .int .i64 0, .int .i64 0] 74) = x := ⟨_, rfl⟩
  rw [hW0] at HX ⊢
  clear hW0
  obtain ⟨p0, p1, p2, p3, p4, p5, _⟩ := HX.out.1
  go_wp2_with fail
  refine (HN.out _).mono ?_
  rintro x w1 ⟨rfl, h1⟩
  obtain rfl := h1.symm
  go_wp2_with fail
  refine (HD.out _).mono ?_
  rintro x w2 ⟨rfl, ho⟩
  have HE2 := hide (HX.out.2.1.more ho)
  have HO2 := hide (o2 HX.out.2.2 ho)
  clear ho p0 p1 p2 p3 p4 p5 HX
  go_upto_region 6 with fail
  have HE3 := hide (HE2.out.more (onlyA w2 (.cells #[.string ⟨#[]⟩, .int .i64 0, .int .i64 0] 74)))
  have HO3 := hide (o2 HO2.out (onlyA w2 (.cells #[.string ⟨#[]⟩, .int .i64 0, .int .i64 0] 74)))
  have HV3 := hide (Ev.new w2 noE)
  clear HE2 HO2
  obtain ⟨W3, hW3⟩ : ∃ x, w2.alloc (.cells #[.string ⟨#[]⟩, .int .i64 0, .int .i64 0] 74) = x := ⟨_, rfl⟩
  have HV4 : Hid (Ev W3 w2.heap.size noE) := by rw [← hW3]; exact HV3.out
  rw [hW3] at HE3 HO3 ⊢
  clear hW3 HV3
  obtain ⟨q0, q1, q2, g0, g1, g2, ql⟩ := HE3.out
  obtain ⟨d0, d1, d2, _⟩ := HV4.out
  go_wp2_with fail
  refine bodyPost_ret (results_ev rfl rfl (HE3.out.all noE)) rfl ?_
  exact ⟨rfl, HO3.out.trans (Only.three _ _ _ _ _) (fun i hi e => by omega)⟩
theorem HiIs.of_dec {h : ByteArray} {hi : En} (hd : decE (bl h) = some hi) : HiIs h hi := by
  obtain ⟨o1, o2⟩ := decE_some hd
  exact .inr ⟨by unfold En.enc; rw [← o2, str_bl], o1⟩
/-- readHead of any page. -/
theorem readHead_any (w : World) (a k v r : Int) (h : ByteArray) (ao : Option Addr) (n cp : Nat) :
    Calls Tryz.prog 193 #[pgv a k v r h ao n cp] w fun e w' => e = .returned (.tuple #[((hdO k v r h).getD noE).agg, .bool (hdO k v r h).isSome]) ∧ Only (fun _ => False) w w' := by
  unfold hdO
  by_cases hb : k = 3 ∧ 0 ≤ v ∧ v ≤ 255 ∧ 0 ≤ r ∧ r ≤ 65535
  · rw [if_pos hb]
    obtain ⟨rfl, h1, h2, h3, h4⟩ := hb
    by_cases hx : h = ⟨#[]⟩
    · rw [if_pos hx]
      exact readHead_ok w a v r h noE ao n cp ⟨h1, h2⟩ ⟨h3, h4⟩ (.inl ⟨hx, rfl⟩)
    · rw [if_neg hx]
      cases hd : decE (bl h) with
      | none => exact readHead_none w a v r h ao n cp ⟨h1, h2⟩ ⟨h3, h4⟩ hx hd
      | some hi => exact readHead_ok w a v r h hi ao n cp ⟨h1, h2⟩ ⟨h3, h4⟩ (HiIs.of_dec hd)
  · rw [if_neg hb]
    exact readHead_few w a k v r h ao n cp hb
end Go.Proofs.YtpnbhddmdfcjdaaGreat
