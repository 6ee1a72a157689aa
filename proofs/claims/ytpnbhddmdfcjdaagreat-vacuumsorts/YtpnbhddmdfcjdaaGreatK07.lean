/- Parts. -/
import Derived.Test.YtpnbhddmdfcjdaaGreatK06
import Derived.Lib.IndexBytes
set_option maxRecDepth 100000
namespace Go.Proofs.YtpnbhddmdfcjdaaGreat
open Go.RowKit
def dig (b k : Nat) : Nat := b / 4 ^ k % 4
def put4 (b k v : Nat) : Nat := b - dig b k * 4 ^ k + v * 4 ^ k
theorem k4 {k : Nat} (h : k < 4) : k = 0 ∨ k = 1 ∨ k = 2 ∨ k = 3 := by omega
theorem put4_lt {b k v : Nat} (hb : b < 256) (hk : k < 4) (hv : v < 4) : put4 b k v < 256 := by
  rcases k4 hk with rfl | rfl | rfl | rfl <;> simp only [put4, dig, Nat.reducePow] <;> omega
theorem dig_put {b k v : Nat} (hk : k < 4) (hv : v < 4) : dig (put4 b k v) k = v := by
  rcases k4 hk with rfl | rfl | rfl | rfl <;> simp only [put4, dig, Nat.reducePow] <;> omega
theorem dig_other {b k j v : Nat} (hk : k < 4) (hj : j < 4) (hv : v < 4) (h : j ≠ k) : dig (put4 b k v) j = dig b j := by
  rcases k4 hk with rfl | rfl | rfl | rfl <;> rcases k4 hj with rfl | rfl | rfl | rfl <;> simp only [put4, dig, Nat.reducePow] <;> omega
theorem dig_lt (b k : Nat) : dig b k < 4 := Nat.mod_lt _ (by decide)
def byt (l : List UInt8) (j : Nat) : Nat := (l.getD j 0).toNat
theorem byt_lt (l : List UInt8) (j : Nat) : byt l j < 256 := UInt8.toNat_lt _
def stAt (l : List UInt8) (i : Nat) : Nat := dig (byt l (i / 4)) (i % 4)
def stSet (l : List UInt8) (i v : Nat) : List UInt8 := l.set (i / 4) (UInt8.ofNat (put4 (byt l (i / 4)) (i % 4) v))
theorem stSet_len (l : List UInt8) (i v : Nat) : (stSet l i v).length = l.length := by simp [stSet]
theorem stAt_lt (l : List UInt8) (i : Nat) : stAt l i < 4 := dig_lt _ _
theorem byt_set {l : List UInt8} {j n : Nat} (hj : j < l.length) (hn : n < 256) (k : Nat) : byt (l.set j (UInt8.ofNat n)) k = if k = j then n else byt l k := by
  unfold byt
  split
  · rename_i e
    subst e
    rw [List.getD_eq_getElem?_getD, List.getElem?_set_self hj]
    exact UInt8.toNat_ofNat_of_lt' hn
  · rename_i e
    rw [List.getD_eq_getElem?_getD, List.getElem?_set_ne (by omega), ← List.getD_eq_getElem?_getD]
theorem stAt_set {l : List UInt8} {i v : Nat} (hi : i / 4 < l.length) (hv : v < 4) (j : Nat) : stAt (stSet l i v) j = if j = i then v else stAt l j := by
  have h4 : i % 4 < 4 := Nat.mod_lt _ (by decide)
  have hp := put4_lt (byt_lt l (i / 4)) h4 hv
  unfold stAt stSet
  rw [byt_set hi hp]
  by_cases e : j / 4 = i / 4
  · rw [if_pos e]
    by_cases e2 : j = i
    · subst e2
      rw [if_pos rfl]
      exact dig_put h4 hv
    · rw [if_neg e2, e]
      exact dig_other h4 (Nat.mod_lt _ (by decide)) hv (by omega)
  · rw [if_neg e, if_neg (by intro h; exact e (by rw [h]))]
/-- How many bytes the statuses of the modulus m take. -/
def nb (m : Int) : Nat := ((m + 3) / 4).toNat
/-- The limit whose bytes these are, 0 if they are none's. -/
def lim (m : Int) (s : ByteArray) : Int := if (rdN m (bl s)).2.2 = 0 ∧ (rdN m (bl s)).2.1 = [] then (rdN m (bl s)).1 else 0
theorem lim_bd {m : Int} (hm : 0 ≤ m) (s : ByteArray) : 0 ≤ lim m s ∧ lim m s ≤ m := by
  unfold lim
  split
  · rename_i h
    have h1 := (rdN_facts m (bl s)).1
    refine ⟨h1, ?_⟩
    unfold rdN at h ⊢
    split at h
    · rename_i h2
      rw [if_pos h2]
      split at h
      · simp at h
      · rename_i h3
        rw [if_neg h3]
        show (rd 0 0 (bl s)).1 ≤ m
        omega
    · simp at h; rename_i h2; exact absurd h h2
  · omega
theorem lim_canon {m : Int} {s : ByteArray} (h : lim m s ≠ 0) : s = str (sev (lim m s).toNat) := by
  have hq : (rdN m (bl s)).2.2 = 0 ∧ (rdN m (bl s)).2.1 = [] := by
    apply Classical.byContradiction
    intro hn
    exact h (by unfold lim; rw [if_neg hn])
  have e : lim m s = (rdN m (bl s)).1 := by unfold lim; rw [if_pos hq]
  have hc := rdN_canon m (bl s) hq.1
  rw [hq.2, List.append_nil, ← e] at hc
  rw [← hc, str_bl]
theorem lim_sev {m f : Int} (h0 : 0 ≤ f) (h1 : f ≤ m) (h2 : m ≤ 1024) : lim m (str (sev f.toNat)) = f := by
  have hr := rd_sev 9 0 f.toNat 0 [] rfl (by have : (128 : Nat) ^ 9 = 9223372036854775808 := by decide
                                             omega) (by omega) (by omega)
  rw [List.append_nil] at hr
  have e : rdN m (sev f.toNat) = (f, [], 0) := by
    have hf : (0 : Int) + (f.toNat : Int) * 128 ^ 0 = f := by simp; omega
    have hq : rd 0 0 (sev f.toNat) = (f, ((sev f.toNat).length : Int), 0) := by
      have := hr
      rw [hf, Nat.zero_add] at this
      exact this
    unfold rdN
    rw [hq]
    simp only [if_true]
    rw [if_neg (by omega)]
    simp
  unfold lim
  rw [bl_str, e]
  simp
def it0 (p : Pg) : ByteArray := p.items.getD 0 ⟨#[]⟩
def it1 (p : Pg) : ByteArray := p.items.getD 1 ⟨#[]⟩
/-- The last byte has nothing behind the last id. -/
def topOk (m : Int) (s : ByteArray) : Prop := byt (bl s) ((m - 1) / 4).toNat / 4 ^ ((m - 1) % 4).toNat ≤ 3
/-- A page of statuses. -/
structure OkP (m : Int) (p : Pg) : Prop where
  kind : p.kind = 1
  lsn : 0 ≤ p.lsn
  level : p.level = 0
  right : p.right = 0
  high : p.high = ⟨#[]⟩
  two : p.items.length = 2
  lm : lim m (it0 p) ≠ 0
  size : (it1 p).size = nb m
  top : topOk m (it1 p)
open Classical in
/-- What Check answers. -/
noncomputable def chk (m : Int) (p : Pg) : Int := if Md m then (if OkP m p then 0 else 31) else 1
theorem chk_mod {m : Int} {p : Pg} (h : ¬ Md m) : chk m p = 1 := by unfold chk; rw [if_neg h]
theorem chk_ok {m : Int} {p : Pg} (h : Md m) (k : OkP m p) : chk m p = 0 := by unfold chk; rw [if_pos h, if_pos k]
theorem chk_bad {m : Int} {p : Pg} (h : Md m) (k : ¬ OkP m p) : chk m p = 31 := by unfold chk; rw [if_pos h, if_neg k]
theorem nb_bd {m : Int} (h : Md m) : 4 ≤ nb m ∧ nb m ≤ 256 ∧ m ≤ 4 * (nb m : Int) ∧ 4 * (nb m : Int) ≤ m + 2 := by
  obtain ⟨h1, h2, h3⟩ := h
  unfold nb
  omega
/-- Behind the last id there is nothing. -/
theorem top_iff {m : Int} (h : Md m) {s : ByteArray} : topOk m s ↔ ∀ i : Nat, m ≤ (i : Int) → i < 4 * nb m → stAt (bl s) i = 0 := by
  have hn := nb_bd h
  obtain ⟨h1, h2, h3⟩ := h
  unfold topOk
  have hb := byt_lt (bl s) ((m - 1) / 4).toNat
  have hq : (m - 1) % 4 = 1 ∨ (m - 1) % 4 = 3 := by omega
  rcases hq with hq | hq
  · rw [hq]
    constructor
    · intro hle i hi hi2
      have e : i / 4 = ((m - 1) / 4).toNat := by omega
      have hk : i % 4 = 2 ∨ i % 4 = 3 := by omega
      unfold stAt dig
      rw [e]
      simp only [Int.reduceToNat, Nat.pow_one] at hle
      rcases hk with hk | hk <;> rw [hk] <;> simp only [Nat.reducePow] <;> omega
    · intro ha
      have a1 := ha m.toNat (by omega) (by omega)
      have a2 := ha (m.toNat + 1) (by omega) (by omega)
      unfold stAt dig at a1 a2
      rw [show m.toNat / 4 = ((m - 1) / 4).toNat by omega, show m.toNat % 4 = 2 by omega] at a1
      rw [show (m.toNat + 1) / 4 = ((m - 1) / 4).toNat by omega, show (m.toNat + 1) % 4 = 3 by omega] at a2
      simp only [Nat.reducePow] at a1 a2
      simp only [Int.reduceToNat, Nat.pow_one]
      omega
  · rw [hq]
    constructor
    · intro _ i hi hi2
      omega
    · intro _
      simp only [Int.reduceToNat, Nat.reducePow]
      omega
/-- The page with another status. -/
def setP (p : Pg) (x : Int) (v : Nat) : Pg := ⟨p.lsn, 1, 0, 0, ⟨#[]⟩, [it0 p, str (stSet (bl (it1 p)) (x - 1).toNat v)]⟩
theorem at_lt {m x : Int} (h : Idd m x) {s : ByteArray} (hs : s.size = nb m) : (x - 1).toNat / 4 < (bl s).length := by
  have hn := nb_bd h.1
  have := h.2
  rw [bl_len, hs]
  omega
theorem OkP.set {m x : Int} {p : Pg} {v : Nat} (h : OkP m p) (hx : Idd m x) (hv : v < 4) : OkP m (setP p x v) := by
  refine ⟨rfl, h.lsn, rfl, rfl, rfl, rfl, h.lm, ?_, ?_⟩
  · show (str _).size = _
    rw [str_size, stSet_len, bl_len]; exact h.size
  · rw [top_iff hx.1]
    intro i h1 h2
    show stAt (bl (str _)) i = 0
    rw [bl_str, stAt_set (at_lt hx h.size) hv, if_neg (by have := hx.2; omega)]
    exact (top_iff hx.1).1 h.top i h1 h2
theorem OkP.idd {m : Int} {p : Pg} (h : OkP m p) (hm : Md m) : Idd m (lim m (it0 p)) := by
  have h1 := lim_bd (by have := hm.1; omega : 0 ≤ m) (it0 p)
  have h2 := h.lm
  exact ⟨hm, by omega, h1.2⟩
/-- The page of no transaction. -/
def blankP (m f : Int) : Pg := ⟨0, 1, 0, 0, ⟨#[]⟩, [str (sev f.toNat), str (List.replicate (nb m) 0)]⟩
theorem stAt_zero (n i : Nat) : stAt (List.replicate n 0) i = 0 := by
  have : byt (List.replicate n 0) (i / 4) = 0 := by
    unfold byt
    rw [List.getD_eq_getElem?_getD, List.getElem?_replicate]
    split <;> rfl
  unfold stAt
  rw [this]
  unfold dig
  simp
theorem OkP.blank {m f : Int} (h : Idd m f) : OkP m (blankP m f) := by
  refine ⟨rfl, by simp [blankP], rfl, rfl, rfl, rfl, ?_, ?_, ?_⟩
  · show lim m (str (sev f.toNat)) ≠ 0
    rw [lim_sev (by have := h.2; omega) h.2.2 h.1.2.1]
    have := h.2
    omega
  · show (str _).size = _
    rw [str_size, List.length_replicate]
  · rw [top_iff h.1]
    intro i _ _
    show stAt (bl (str _)) i = 0
    rw [bl_str, stAt_zero]
theorem xadd_zero {m x : Int} : (xadd m x 0 != 0) = decide (Idd m x) := by
  by_cases h : Idd m x
  · have := (xadd_id (n := 0) h).2
    rw [decide_eq_true h]
    simp
    omega
  · rw [decide_eq_false h]
    unfold xadd
    rw [if_neg h]
    rfl
theorem idd_one {m : Int} : Idd m 1 ↔ Md m := by
  unfold Idd Md
  omega
theorem cisID_any (m x : Int) (w : World) (hm : I64 m) (hx : I64 x) :
    Calls Tryz.prog 41 #[.int .i64 m, .int .i64 x] w fun e w' => e = .returned (.bool (decide (Idd m x))) ∧ w' = w := by
  have hc := add_any m x 0 w hm hx (I64.of (by omega) (by omega))
  have hq := xadd_zero (m := m) (x := x)
  have hb := xadd_bd (m := m) (x := x) (n := 0)
  obtain ⟨k, hk⟩ : ∃ k, xadd m x 0 = k := ⟨_, rfl⟩
  rw [hk] at hc hq hb
  rw [← hq]
  have hm1 := hm.1
  have hm2 := hm.2
  have hx1 := hx.1
  have hx2 := hx.2
  clear hk hq hm hx
  go_enter Tryz.func41, Tryz.ntmps41
  go_wp2_with (go_at_call 81; refine hc.mono ?_; rintro e w' ⟨rfl, hw⟩; obtain rfl := hw.symm; clear hw)
  go_ret
  exact ⟨rfl, rfl⟩
theorem cisModulus_any (m : Int) (w : World) (hm : I64 m) :
    Calls Tryz.prog 136 #[.int .i64 m] w fun e w' => e = .returned (.bool (decide (Md m))) ∧ w' = w := by
  have hc := cisID_any m 1 w hm (I64.of (by omega) (by omega))
  rw [show decide (Idd m 1) = decide (Md m) from decide_eq_decide.2 idd_one] at hc
  obtain ⟨b, hb⟩ : ∃ b, decide (Md m) = b := ⟨_, rfl⟩
  rw [hb] at hc
  rw [hb]
  have hm1 := hm.1
  have hm2 := hm.2
  clear hb hm
  go_enter Tryz.func136, Tryz.ntmps136
  go_wp2_with (go_at_call 41; refine hc.mono ?_; rintro e w' ⟨rfl, hw⟩; obtain rfl := hw.symm; clear hw)
  go_ret
  exact ⟨rfl, rfl⟩
theorem statusBytes_any (m : Int) (w : World) (h : Md m) :
    Calls Tryz.prog 44 #[.int .i64 m] w fun e w' => e = .returned (.int .i64 (nb m : Int)) ∧ w' = w := by
  have hn : (m + 3) / 4 = (nb m : Int) := by have := h.1; unfold nb; omega
  have h1 := h.1
  have h2 := h.2.1
  have hb := (nb_bd h).2.1
  have ht : (m + 3).tdiv 4 = (nb m : Int) := by rw [← hn]; exact Int.tdiv_eq_ediv_of_nonneg (by omega)
  clear h hn
  obtain ⟨n, hn⟩ : ∃ n, nb m = n := ⟨_, rfl⟩
  rw [hn] at ht hb
  rw [hn]
  clear hn
  have e : m + 4 - 1 = m + 3 := by omega
  go_enter Tryz.func44, Tryz.ntmps44
  go_wp2
  go_ret
  exact ⟨ret_int (by go_num), rfl⟩
theorem cplace_any (x : Int) (w : World) (h1 : 1 ≤ x) (h2 : x ≤ 1024) :
    Calls Tryz.prog 92 #[.int .i64 x] w fun e w' => e = .returned (.tuple #[.int .i64 (((x - 1).toNat / 4 : Nat) : Int), .int .i64 ((2 * ((x - 1).toNat % 4) : Nat) : Int)]) ∧ w' = w := by
  have e1 : (x - 1).tdiv 4 = (((x - 1).toNat / 4 : Nat) : Int) := by rw [Int.tdiv_eq_ediv_of_nonneg (by omega)]; omega
  have e2 : (x - 1).tmod 4 * 2 = ((2 * ((x - 1).toNat % 4) : Nat) : Int) := by rw [Int.tmod_eq_emod_of_nonneg (by omega)]; omega
  have b1 : (x - 1).toNat / 4 ≤ 256 := by omega
  have b2 : 2 * ((x - 1).toNat % 4) ≤ 6 := by omega
  obtain ⟨q, hq⟩ : ∃ q, (x - 1).toNat / 4 = q := ⟨_, rfl⟩
  obtain ⟨r, hr⟩ : ∃ r, 2 * ((x - 1).toNat % 4) = r := ⟨_, rfl⟩
  obtain ⟨t, ht⟩ : ∃ t, (x - 1).tmod 4 = t := ⟨_, rfl⟩
  rw [ht] at e2
  rw [hq] at e1 b1
  rw [hr] at e2 b2
  rw [hq, hr]
  have b3 : 0 ≤ t ∧ t ≤ 3 := by omega
  clear hq hr
  go_enter Tryz.func92, Tryz.ntmps92
  go_wp2
  go_ret2
  exact ⟨rfl, rfl⟩
theorem laidLimit_any (x : Int) (w : World) (h1 : 0 ≤ x) (h2 : x ≤ 1024) :
    Calls Tryz.prog 42 #[.int .i64 x] w fun e w' => e = .returned (.string (str (sev x.toNat))) ∧ Only (fun _ => False) w w' := by
  obtain ⟨b, hb⟩ : ∃ b, w.heap.size = b := ⟨_, rfl⟩
  have HN := hide (new_any w)
  rw [hb] at HN
  have HB := hide hb
  clear hb
  go_enter Tryz.func42, Tryz.ntmps42
  go_wp2_with fail
  refine HN.out.mono ?_
  rintro e w1 ⟨rfl, hw1⟩
  have HW : Hid (Wr w1 b none []) := by unfold Hid; rw [hw1, ← HB.out]; exact Wr.new w
  have HO : Hid (Only (fun _ => False) w w1) := by unfold Hid; rw [hw1]; exact onlyA _ _
  clear hw1 HN
  go_wp2_with fail
  refine (wnum_one w1 b none [] x HW.out (by omega) (by simp)).mono ?_
  rintro e w2 ⟨rfl, row, hW2, hg⟩
  have HW2 := hide hW2
  have HG := hide hg
  clear hW2 hg
  go_wp2_with fail
  refine (wbytes_any w2 b row _ HW2.out).mono ?_
  rintro e w3 ⟨rfl, hw⟩
  obtain rfl := hw.symm
  clear hw
  go_wp2_with fail
  go_ret
  refine ⟨rfl, HO.out.trans HG.out.only ?_⟩
  intro i hi ht
  have := HB.out
  rcases ht with ht | ht
  · omega
  · cases ht
theorem readLimit_any (m : Int) (s : ByteArray) (w : World) (h1 : 0 ≤ m) :
    Calls Tryz.prog 127 #[.int .i64 m, .string s] w fun e w' => e = .returned (.int .i64 (lim m s)) ∧ Only (fun _ => False) w w' := by
  obtain ⟨b, hb⟩ : ∃ b, w.heap.size = b := ⟨_, rfl⟩
  have HN := hide (read_any s w)
  rw [hb] at HN
  have HB := hide hb
  clear hb
  have HL := hide (lim_bd h1 s)
  obtain ⟨n, hn⟩ : ∃ n, (rdN m (bl s)).1 = n := ⟨_, rfl⟩
  obtain ⟨z, hz⟩ : ∃ z, (rdN m (bl s)).2.2 = z := ⟨_, rfl⟩
  obtain ⟨r, hr⟩ : ∃ r, (rdN m (bl s)).2.1 = r := ⟨_, rfl⟩
  have HC : Hid (lim m s = if z = 0 ∧ r = [] then n else 0) := by unfold Hid lim; rw [hn, hz, hr]
  have HR : Hid (∀ w1, Rd w1 b s 0 → Calls Tryz.prog 140 #[.pointer (some ⟨b, 0, none⟩), .int .i64 m] w1 fun e w' => e = .returned (.int .i64 n) ∧ Rd w' b ⟨r.toArray⟩ z ∧ Only (fun k => k = b) w1 w') := by
    intro w1 hR
    have := rnum_any w1 b s m hR
    rw [hn, hz, hr] at this
    exact this
  have hbn := rdN_facts m (bl s)
  rw [hn] at hbn
  have hn0 := hbn.1
  have hn1 := hbn.2.1
  clear hn hz hr hbn
  go_enter Tryz.func127, Tryz.ntmps127
  go_wp2_with fail
  refine HN.out.mono ?_
  rintro e w1 ⟨rfl, hw1⟩
  have HW : Hid (Rd w1 b s 0) := by unfold Hid; rw [hw1, ← HB.out]; exact Rd.new w s
  have HO : Hid (Only (fun _ => False) w w1) := by unfold Hid; rw [hw1]; exact onlyA _ _
  clear hw1 HN
  go_wp2_with fail
  refine (HR.out w1 HW.out).mono ?_
  rintro e w2 ⟨rfl, hR2, ho2⟩
  have HR2 := hide hR2
  have HO2 : Hid (Only (fun _ => False) w w2) := HO.out.trans ho2 (by intro i hi ht; have := HB.out; omega)
  clear hR2 ho2
  by_cases hz : z = 0
  · have HE := hide (rend_ok w2 b ⟨r.toArray⟩ (by have := HR2.out.c1; rw [hz] at this; exact this) HR2.out.c0)
    by_cases hr : r = []
    · have HV : Hid (lim m s = n) := by unfold Hid; rw [HC.out, if_pos ⟨hz, hr⟩]
      have e0 : (ByteArray.mk r.toArray).size = 0 := by rw [hr]; rfl
      rw [if_pos e0] at HE
      clear hz hr e0
      go_wp2_with fail
      refine HE.out.mono ?_
      rintro e w3 ⟨rfl, hw⟩
      obtain rfl := hw.symm
      clear hw
      go_wp2_with fail
      go_ret
      exact ⟨ret_int HV.out.symm, HO2.out⟩
    · have HV : Hid (lim m s = 0) := by unfold Hid; rw [HC.out, if_neg (fun k => hr k.2)]
      have e0 : ¬ (ByteArray.mk r.toArray).size = 0 := by
        intro h
        apply hr
        exact List.eq_nil_of_length_eq_zero (by simpa [ByteArray.size] using h)
      rw [if_neg e0] at HE
      clear hz hr e0
      go_wp2_with fail
      refine HE.out.mono ?_
      rintro e w3 ⟨rfl, hw⟩
      obtain rfl := hw.symm
      clear hw
      go_wp2_with fail
      go_ret
      exact ⟨ret_int HV.out.symm, HO2.out⟩
  · have HV : Hid (lim m s = 0) := by unfold Hid; rw [HC.out, if_neg (fun k => hz k.1)]
    have hzz : (z != 0) = true := by simp [hz]
    have HE := hide (rend_err w2 b z HR2.out.c1 hzz)
    clear hz
    go_wp2_with fail
    refine HE.out.mono ?_
    rintro e w3 ⟨rfl, hw⟩
    obtain rfl := hw.symm
    clear hw
    go_wp2_with fail
    go_ret
    exact ⟨ret_int HV.out.symm, HO2.out⟩
/-- A status laid over what stood there, as the code has it. -/
theorem lay_byte : ∀ b : Fin 256, ∀ k : Fin 4, ∀ v : Fin 4, bits BinOp.or IntKind.u8 (bits BinOp.andNot IntKind.u8 (b.val : Int) ((3 * 4 ^ k.val : Nat) % 256 : Int)) ((v.val * 4 ^ k.val : Nat) : Int) = (put4 b.val k.val v.val : Int) := by
  decide +kernel
instance (m : Int) (s : ByteArray) : Decidable (topOk m s) := by unfold topOk; infer_instance
theorem empty_iff (h : ByteArray) : h.toList.isEmpty = decide (h = ⟨#[]⟩) := by
  rw [ByteArray.toList_eq]
  obtain ⟨⟨l⟩⟩ := h
  cases l <;> simp
theorem careStatuses_any (m : Int) (s : ByteArray) (w : World) (h : Md m) :
    Calls Tryz.prog 138 #[.int .i64 m, .string s] w fun e w' => e = .returned (.bool (decide (s.size = nb m ∧ topOk m s))) ∧ w' = w := by
  have HB := hide (statusBytes_any m w h)
  have h16 := h.1
  have h1024 := h.2.1
  by_cases hn : s.size = nb m
  · have HP := hide (cplace_any m w (by omega) h1024)
    have hq : ((m - 1).toNat / 4 : Nat) < s.size := by have := nb_bd h; omega
    have e1 : ((m - 1) / 4).toNat = (m - 1).toNat / 4 := by omega
    have e2 : ((m - 1) % 4).toNat = (m - 1).toNat % 4 := by omega
    have hk4 : (m - 1).toNat % 4 < 4 := by omega
    obtain ⟨R, hR⟩ : ∃ R, decide (s.size = nb m ∧ topOk m s) = R := ⟨_, rfl⟩
    have HT : Hid (R = decide (byt (bl s) ((m - 1).toNat / 4) / 4 ^ ((m - 1).toNat % 4) ≤ 3)) := by
      unfold Hid
      rw [← hR]
      refine decide_eq_decide.2 ?_
      unfold topOk
      rw [e1, e2]
      exact ⟨fun h => h.2, fun h => ⟨hn, h⟩⟩
    rw [hR]
    have hsn : (s.size : Int) = (nb m : Int) := by omega
    obtain ⟨q, hqq⟩ : ∃ q, (m - 1).toNat / 4 = q := ⟨_, rfl⟩
    obtain ⟨k, hkk⟩ : ∃ k, (m - 1).toNat % 4 = k := ⟨_, rfl⟩
    rw [hqq, hkk] at HP HT
    rw [hqq] at hq
    rw [hkk] at hk4
    clear e1 e2 hn hqq hkk h hR
    have HBY : Hid (byt (bl s) q = (s[q]'hq).toNat) := by
      unfold Hid byt
      rw [List.getD_eq_getElem?_getD, List.getElem?_eq_getElem (by rw [bl_len]; exact hq)]
      rfl
    have hqi : (q : Int) < (s.size : Int) := by omega
    rcases k4 hk4 with rfl | rfl | rfl | rfl
    · go_enter Tryz.func138, Tryz.ntmps138
      go_wp2_with fail
      refine HB.out.mono ?_
      rintro e w1 ⟨rfl, hw⟩
      obtain rfl := hw.symm
      clear hw
      go_wp2_with fail
      refine HP.out.mono ?_
      rintro e w1 ⟨rfl, hw⟩
      obtain rfl := hw.symm
      clear hw
      go_wp2_with fail
      go_ret
      refine ⟨ret_bool ?_, rfl⟩
      rw [HT.out, HBY.out]
      exact decide_eq_decide.2 (by simp only [Nat.reducePow]; omega)
    · go_enter Tryz.func138, Tryz.ntmps138
      go_wp2_with fail
      refine HB.out.mono ?_
      rintro e w1 ⟨rfl, hw⟩
      obtain rfl := hw.symm
      clear hw
      go_wp2_with fail
      refine HP.out.mono ?_
      rintro e w1 ⟨rfl, hw⟩
      obtain rfl := hw.symm
      clear hw
      go_wp2_with fail
      go_ret
      refine ⟨ret_bool ?_, rfl⟩
      rw [HT.out, HBY.out]
      exact decide_eq_decide.2 (by simp only [Nat.reducePow]; omega)
    · go_enter Tryz.func138, Tryz.ntmps138
      go_wp2_with fail
      refine HB.out.mono ?_
      rintro e w1 ⟨rfl, hw⟩
      obtain rfl := hw.symm
      clear hw
      go_wp2_with fail
      refine HP.out.mono ?_
      rintro e w1 ⟨rfl, hw⟩
      obtain rfl := hw.symm
      clear hw
      go_wp2_with fail
      go_ret
      refine ⟨ret_bool ?_, rfl⟩
      rw [HT.out, HBY.out]
      exact decide_eq_decide.2 (by simp only [Nat.reducePow]; omega)
    · go_enter Tryz.func138, Tryz.ntmps138
      go_wp2_with fail
      refine HB.out.mono ?_
      rintro e w1 ⟨rfl, hw⟩
      obtain rfl := hw.symm
      clear hw
      go_wp2_with fail
      refine HP.out.mono ?_
      rintro e w1 ⟨rfl, hw⟩
      obtain rfl := hw.symm
      clear hw
      go_wp2_with fail
      go_ret
      refine ⟨ret_bool ?_, rfl⟩
      rw [HT.out, HBY.out]
      exact decide_eq_decide.2 (by simp only [Nat.reducePow]; omega)
  · have hd : decide (s.size = nb m ∧ topOk m s) = false := by simp [hn]
    rw [hd]
    obtain ⟨n, hnn⟩ : ∃ n, nb m = n := ⟨_, rfl⟩
    have hne : ¬ (s.size : Int) = (n : Int) := by omega
    rw [hnn] at HB
    clear hn hd hnn h
    go_enter Tryz.func138, Tryz.ntmps138
    go_wp2_with fail
    refine HB.out.mono ?_
    rintro e w1 ⟨rfl, hw⟩
    obtain rfl := hw.symm
    clear hw
    go_wp2_with fail
    go_ret
    exact ⟨rfl, rfl⟩
theorem isHead_any (w : World) (a k v r : Int) (h : ByteArray) (cp n : Nat) (ao : Option Addr) :
    Calls Tryz.prog 137 #[.agg #[.int .i64 a, .int .i64 k, .int .i64 v, .int .i64 r, .string h, .slice ao n cp]] w fun e w' => e = .returned (.bool (decide (k = 1 ∧ 0 ≤ a ∧ v = 0 ∧ r = 0 ∧ h = ⟨#[]⟩))) ∧ Only (fun _ => False) w w' := by
  have HO := hide (onlyA w (.cells #[.int .i64 a, .int .i64 k, .int .i64 v, .int .i64 r, .string h, .slice ao n cp] 30))
  go_enter Tryz.func137, Tryz.ntmps137
  go_wp2_with fail
  all_goals go_ret
  all_goals refine ⟨ret_bool ?_, onlyA _ _⟩
  all_goals clear HO
  all_goals (try rw [empty_iff])
  all_goals simp_all
  all_goals omega
/-- Bytes in block g that may be written. -/
structure Byt (w : World) (g : Nat) (l : List UInt8) : Prop where
  c : ∀ j (h : j < l.length), w.cell? ⟨g, j, none⟩ = some (.int .u8 (l[j].toNat : Int))
  f : ∀ j, j < l.length → w.frozen? ⟨g, j, none⟩ = false
  lt : g < w.heap.size
theorem Byt.set {w : World} {g : Nat} {l : List UInt8} (h : Byt w g l) {j n : Nat} (hj : j < l.length) (hn : n < 256) {V : Int} (hV : V = (n : Int)) :
    Byt (w.setCell ⟨g, j, none⟩ (.int .u8 V)).drew g (l.set j (UInt8.ofNat n)) ∧ Only (fun k => k = g) w (w.setCell ⟨g, j, none⟩ (.int .u8 V)).drew := by
  subst hV
  refine ⟨⟨fun i hi => ?_, fun i hi => ?_, ?_⟩, (Only.setCell (S := fun k => k = g) w ⟨g, j, none⟩ _ rfl).trans (Only.drew _ _) (fun _ _ h => h)⟩
  · have hi' := hi
    rw [List.length_set] at hi'
    show (w.setCell ⟨g, j, none⟩ (.int .u8 (n : Int))).cell? ⟨g, i, none⟩ = _
    by_cases e : i = j
    · subst e
      rw [World.cell?_setCell_same _ _ _ (h.c i hi')]
      simp only [List.getElem_set_self]
      rw [UInt8.toNat_ofNat_of_lt' hn]
    · rw [World.cell?_setCell_other _ _ _ _ (by intro q; injection q with _ q; exact e q.symm), h.c i hi', List.getElem_set_ne (by omega)]
  · rw [List.length_set] at hi
    have := h.f i hi
    simpa using this
  · have := h.lt
    simpa using this
theorem Byt.st {w : World} {g : Nat} {l : List UInt8} (h : Byt w g l) {i v k : Nat} (hi : i / 4 < l.length) (hk : i % 4 = k) (hv : v < 4) {V : Int} (hV : V = (put4 (l[i / 4]).toNat k v : Int)) :
    Byt (w.setCell ⟨g, i / 4, none⟩ (.int .u8 V)).drew g (stSet l i v) ∧ Only (fun k => k = g) w (w.setCell ⟨g, i / 4, none⟩ (.int .u8 V)).drew := by
  have hb : byt l (i / 4) = (l[i / 4]).toNat := by
    unfold byt
    rw [List.getD_eq_getElem?_getD, List.getElem?_eq_getElem hi]
    rfl
  subst hk
  rw [← hb] at hV
  exact h.set hi (put4_lt (byt_lt _ _) (Nat.mod_lt _ (by decide)) hv) hV
theorem clay_any (w : World) (g cp : Nat) (l : List UInt8) (x : Int) (v : Nat) (hB : Byt w g l) (h1 : 1 ≤ x) (h2 : x ≤ 1024) (hx : (x - 1).toNat / 4 < l.length) (hv : v < 4) :
    Calls Tryz.prog 46 #[.slice (some ⟨g, 0, none⟩) l.length cp, .int .i64 x, .int .u8 (v : Int)] w fun e w' => e = .returned (.tuple #[]) ∧ Byt w' g (stSet l (x - 1).toNat v) ∧ Only (fun k => k = g) w w' := by
  have HP := hide (cplace_any x w h1 h2)
  obtain ⟨q, hq⟩ : ∃ q, (x - 1).toNat / 4 = q := ⟨_, rfl⟩
  obtain ⟨k, hk⟩ : ∃ k, (x - 1).toNat % 4 = k := ⟨_, rfl⟩
  have hk4 : k < 4 := by omega
  have c0 := hB.c q (by omega)
  have f0 := hB.f q (by omega)
  rw [hq, hk] at HP
  have hql : (q : Int) < (l.length : Int) := by omega
  have HST : Hid (∀ V : Int, V = (put4 (l[q]).toNat k v : Int) → Byt (w.setCell ⟨g, q, none⟩ (.int .u8 V)).drew g (stSet l (x - 1).toNat v) ∧ Only (fun k => k = g) w (w.setCell ⟨g, q, none⟩ (.int .u8 V)).drew) := by
    intro V hV
    subst hq
    exact hB.st hx hk hv hV
  have hb := UInt8.toNat_lt l[q]
  have HLB := hide (lay_byte ⟨(l[q]).toNat, hb⟩ ⟨k, hk4⟩ ⟨v, hv⟩)
  obtain ⟨n, hn⟩ : ∃ n, (l[q]).toNat = n := ⟨_, rfl⟩
  simp only [hn] at HLB HST hb
  rw [hn] at c0
  clear hB hn hk h1 h2
  rcases k4 hk4 with rfl | rfl | rfl | rfl
  · go_enter Tryz.func46, Tryz.ntmps46
    go_wp2_with fail
    refine HP.out.mono ?_
    rintro e w1 ⟨rfl, hw⟩
    obtain rfl := hw.symm
    clear hw
    go_wp2_with fail
    go_region
    go_wp2_with fail
    go_end0
    refine ⟨rfl, HST.out _ ?_⟩
    have := HLB.out
    simp at this
    exact this
  · go_enter Tryz.func46, Tryz.ntmps46
    go_wp2_with fail
    refine HP.out.mono ?_
    rintro e w1 ⟨rfl, hw⟩
    obtain rfl := hw.symm
    clear hw
    go_wp2_with fail
    go_region
    go_wp2_with fail
    go_end0
    refine ⟨rfl, HST.out _ ?_⟩
    have := HLB.out
    simp at this
    exact this
  · go_enter Tryz.func46, Tryz.ntmps46
    go_wp2_with fail
    refine HP.out.mono ?_
    rintro e w1 ⟨rfl, hw⟩
    obtain rfl := hw.symm
    clear hw
    go_wp2_with fail
    go_region
    go_wp2_with fail
    go_end0
    refine ⟨rfl, HST.out _ ?_⟩
    have := HLB.out
    simp at this
    exact this
  · go_enter Tryz.func46, Tryz.ntmps46
    go_wp2_with fail
    refine HP.out.mono ?_
    rintro e w1 ⟨rfl, hw⟩
    obtain rfl := hw.symm
    clear hw
    go_wp2_with fail
    go_region
    go_wp2_with fail
    go_end0
    refine ⟨rfl, HST.out _ ?_⟩
    have := HLB.out
    simp at this
    exact this
end Go.Proofs.YtpnbhddmdfcjdaaGreat
