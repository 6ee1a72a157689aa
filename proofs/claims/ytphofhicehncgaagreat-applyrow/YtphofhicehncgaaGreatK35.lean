/- What Check, checkWithID, Get and Frozen do. -/
import Derived.Test.YtphofhicehncgaaGreatK34
import Derived.BigQuiet
import Derived.Deep.Draws
import Derived.Test.YtphofhicehncgaaGreatK03
import Derived.Lib.IndexBytes
namespace Go.Proofs.YtphofhicehncgaaGreat
open Go.RowKit

theorem isModulus_any (m : Int) (w : World) (hm : I64 m) :
    Calls Tryz.prog 120 #[.int .i64 m] w fun e w' => e = .returned (.bool (decide (Md m))) ∧ w' = w := by
  have hm1 := hm.1
  have hm2 := hm.2
  clear hm
  by_cases h1 : 16 ≤ m
  · by_cases h2 : m ≤ 1024
    · have ht : m.tmod 2 = m % 2 := tmod2 (by omega)
      cases h3 : (m % 2 == 0)
      all_goals
        have HX : (decide (Md m) = (m % 2 == 0)) := by
          unfold Md; rw [h3]; simp at h3; simp [h1, h2, h3]
        rw [HX, h3]
        go_enter Tryz.func120, Tryz.ntmps120
        go_wp2
        go_ret
        exact ⟨rfl, rfl⟩
    · rw [show decide (Md m) = false from by unfold Md; simp [h2]]
      go_enter Tryz.func120, Tryz.ntmps120
      go_wp2
      go_ret
      exact ⟨rfl, rfl⟩
  · rw [show decide (Md m) = false from by unfold Md; simp [h1]]
    go_enter Tryz.func120, Tryz.ntmps120
    go_wp2
    go_ret
    exact ⟨rfl, rfl⟩
theorem isID_any (m x : Int) (w : World) (hm : I64 m) (hx : I64 x) :
    Calls Tryz.prog 87 #[.int .i64 m, .int .i64 x] w fun e w' => e = .returned (.bool (decide (Idd m x))) ∧ w' = w := by
  have hc := isModulus_any m w hm
  have hm1 := hm.1
  have hm2 := hm.2
  have hx1 := hx.1
  have hx2 := hx.2
  clear hm hx
  by_cases hM : Md m
  · rw [decide_eq_true hM] at hc
    by_cases h1 : 1 ≤ x
    · by_cases h2 : x ≤ m
      · rw [show decide (Idd m x) = true from by unfold Idd; simp [h1, h2, hM]]
        clear hM
        go_enter Tryz.func87, Tryz.ntmps87
        go_wp2_with (go_at_call 120; refine hc.mono ?_; rintro e w' ⟨rfl, hw⟩; obtain rfl := hw.symm; clear hw)
        go_ret
        exact ⟨rfl, rfl⟩
      · rw [show decide (Idd m x) = false from by unfold Idd; simp [h2]]
        have hd : decide (x ≤ m) = false := decide_eq_false h2
        clear hM
        go_enter Tryz.func87, Tryz.ntmps87
        go_wp2_with (go_at_call 120; refine hc.mono ?_; rintro e w' ⟨rfl, hw⟩; obtain rfl := hw.symm; clear hw)
        go_ret
        exact ⟨rfl, rfl⟩
    · rw [show decide (Idd m x) = false from by unfold Idd; simp [h1]]
      clear hM
      go_enter Tryz.func87, Tryz.ntmps87
      go_wp2_with (go_at_call 120; refine hc.mono ?_; rintro e w' ⟨rfl, hw⟩; obtain rfl := hw.symm; clear hw)
      go_ret
      exact ⟨rfl, rfl⟩
  · rw [decide_eq_false hM] at hc
    rw [show decide (Idd m x) = false from by unfold Idd; simp [hM]]
    clear hM
    go_enter Tryz.func87, Tryz.ntmps87
    go_wp2_with (go_at_call 120; refine hc.mono ?_; rintro e w' ⟨rfl, hw⟩; obtain rfl := hw.symm; clear hw)
    go_ret
    exact ⟨rfl, rfl⟩
theorem around_any (m n : Int) (w : World) (h : 16 ≤ m) (h' : m ≤ 1024) (hn : I64 n) :
    Calls Tryz.prog 88 #[.int .i64 m, .int .i64 n] w fun e w' => e = .returned (.int .i64 (n % m)) ∧ w' = w := by
  have hn1 := hn.1
  have hn2 := hn.2
  clear hn
  have hb := tmod_bd (n := n) h
  have hr := around_is (n := n) h
  have he := emod_bd (n := n) h
  obtain ⟨k, hk⟩ : ∃ k, n.tmod m = k := ⟨_, rfl⟩
  obtain ⟨r, hr'⟩ : ∃ r, n % m = r := ⟨_, rfl⟩
  rw [hk] at hb hr
  rw [hr'] at hr he
  rw [hr']
  clear hr'
  go_enter Tryz.func88, Tryz.ntmps88
  go_wp2
  go_ret
  exact ⟨rfl, rfl⟩
end Go.Proofs.YtphofhicehncgaaGreat

namespace Go.Proofs.YtphofhicehncgaaGreat
open Go.RowKit

theorem I64.of {n : Int} (h0 : -9223372036854775808 ≤ n) (h1 : n < 9223372036854775808) : I64 n := ⟨h0, h1⟩
theorem add_any (m x n : Int) (w : World) (hm : I64 m) (hx : I64 x) (hn : I64 n) :
    Calls Tryz.prog 51 #[.int .i64 m, .int .i64 x, .int .i64 n] w fun e w' => e = .returned (.int .i64 (xadd m x n)) ∧ w' = w := by
  have hc := isID_any m x w hm hx
  by_cases hI : Idd m x
  · rw [decide_eq_true hI] at hc
    have h16 := hI.1.1
    have h1024 := hI.1.2.1
    have hx1 := hI.2.1
    have hx2 := hI.2.2
    have hb := tmod_bd (n := n) h16
    have ha := fun w => around_any m (x - 1 + n.tmod m) w h16 h1024 (I64.of (by omega) (by omega))
    rw [add_is h16] at ha
    have hq : xadd m x n = (x - 1 + n) % m + 1 := by unfold xadd; rw [if_pos hI]
    have hs := emod_bd (n := x - 1 + n) h16
    rw [hq]
    have hn1 := hn.1
    have hn2 := hn.2
    clear hI hm hx hn hq
    obtain ⟨r, hr⟩ : ∃ r, (x - 1 + n) % m = r := ⟨_, rfl⟩
    rw [hr] at ha hs
    rw [hr]
    clear hr
    obtain ⟨k, hk⟩ : ∃ k, n.tmod m = k := ⟨_, rfl⟩
    rw [hk] at ha hb
    go_enter Tryz.func51, Tryz.ntmps51
    go_wp2_with (first
      | (go_at_call 87; refine hc.mono ?_; rintro e w' ⟨rfl, hw⟩; obtain rfl := hw.symm; clear hw)
      | (go_at_call 88; refine (ha _).mono ?_; rintro e w' ⟨rfl, hw⟩; obtain rfl := hw.symm; clear hw))
    go_ret
    exact ⟨rfl, rfl⟩
  · rw [decide_eq_false hI] at hc
    have hq : xadd m x n = 0 := by unfold xadd; rw [if_neg hI]
    rw [hq]
    clear hI hq hm hx hn
    go_enter Tryz.func51, Tryz.ntmps51
    go_wp2_with (first
      | (go_at_call 87; refine hc.mono ?_; rintro e w' ⟨rfl, hw⟩; obtain rfl := hw.symm; clear hw))
    go_ret
    exact ⟨rfl, rfl⟩
theorem xgap_id {m a b : Int} (h : 1 ≤ xgap m a b) : 16 ≤ m ∧ m ≤ 1024 := by
  unfold xgap at h
  split at h
  · rename_i k
    exact ⟨k.1.1.1, k.1.1.2.1⟩
  · omega
/- The document's. -/
end Go.Proofs.YtphofhicehncgaaGreat

namespace Go.Proofs.YtphofhicehncgaaGreat
open Go.RowKit

theorem xadd_zero {m x : Int} : (xadd m x 0 != 0) = decide (Idd m x) := by
  by_cases h : Idd m x
  · have := (xadd_id (n := 0) h).2
    rw [decide_eq_true h]
    simp
    omega
  · rw [decide_eq_false h]
    unfold xadd
    rw [if_neg h]
    rfl
theorem idd_one {m : Int} : Idd m 1 ↔ Md m := by
  unfold Idd Md
  omega
theorem cisID_any (m x : Int) (w : World) (hm : I64 m) (hx : I64 x) :
    Calls Tryz.prog 67 #[.int .i64 m, .int .i64 x] w fun e w' => e = .returned (.bool (decide (Idd m x))) ∧ w' = w := by
  have hc := add_any m x 0 w hm hx (I64.of (by omega) (by omega))
  have hq := xadd_zero (m := m) (x := x)
  have hb := xadd_bd (m := m) (x := x) (n := 0)
  obtain ⟨k, hk⟩ : ∃ k, xadd m x 0 = k := ⟨_, rfl⟩
  rw [hk] at hc hq hb
  rw [← hq]
  have hm1 := hm.1
  have hm2 := hm.2
  have hx1 := hx.1
  have hx2 := hx.2
  clear hk hq hm hx
  go_enter Tryz.func67, Tryz.ntmps67
  go_wp2_with (go_at_call 51; refine hc.mono ?_; rintro e w' ⟨rfl, hw⟩; obtain rfl := hw.symm; clear hw)
  go_ret
  exact ⟨rfl, rfl⟩
theorem cisModulus_any (m : Int) (w : World) (hm : I64 m) :
    Calls Tryz.prog 108 #[.int .i64 m] w fun e w' => e = .returned (.bool (decide (Md m))) ∧ w' = w := by
  have hc := cisID_any m 1 w hm (I64.of (by omega) (by omega))
  rw [show decide (Idd m 1) = decide (Md m) from decide_eq_decide.2 idd_one] at hc
  obtain ⟨b, hb⟩ : ∃ b, decide (Md m) = b := ⟨_, rfl⟩
  rw [hb] at hc
  rw [hb]
  have hm1 := hm.1
  have hm2 := hm.2
  clear hb hm
  go_enter Tryz.func108, Tryz.ntmps108
  go_wp2_with (go_at_call 67; refine hc.mono ?_; rintro e w' ⟨rfl, hw⟩; obtain rfl := hw.symm; clear hw)
  go_ret
  exact ⟨rfl, rfl⟩
theorem statusBytes_any (m : Int) (w : World) (h : Md m) :
    Calls Tryz.prog 129 #[.int .i64 m] w fun e w' => e = .returned (.int .i64 (nb m : Int)) ∧ w' = w := by
  have hn : (m + 3) / 4 = (nb m : Int) := by have := h.1; unfold nb; omega
  have h1 := h.1
  have h2 := h.2.1
  have hb := (nb_bd h).2.1
  have ht : (m + 3).tdiv 4 = (nb m : Int) := by rw [← hn]; exact Int.tdiv_eq_ediv_of_nonneg (by omega)
  clear h hn
  obtain ⟨n, hn⟩ : ∃ n, nb m = n := ⟨_, rfl⟩
  rw [hn] at ht hb
  rw [hn]
  clear hn
  have e : m + 4 - 1 = m + 3 := by omega
  go_enter Tryz.func129, Tryz.ntmps129
  go_wp2
  go_ret
  exact ⟨ret_int (by go_num), rfl⟩
theorem cplace_any (x : Int) (w : World) (h1 : 1 ≤ x) (h2 : x ≤ 1024) :
    Calls Tryz.prog 68 #[.int .i64 x] w fun e w' => e = .returned (.tuple #[.int .i64 (((x - 1).toNat / 4 : Nat) : Int), .int .i64 ((2 * ((x - 1).toNat % 4) : Nat) : Int)]) ∧ w' = w := by
  have e1 : (x - 1).tdiv 4 = (((x - 1).toNat / 4 : Nat) : Int) := by rw [Int.tdiv_eq_ediv_of_nonneg (by omega)]; omega
  have e2 : (x - 1).tmod 4 * 2 = ((2 * ((x - 1).toNat % 4) : Nat) : Int) := by rw [Int.tmod_eq_emod_of_nonneg (by omega)]; omega
  have b1 : (x - 1).toNat / 4 ≤ 256 := by omega
  have b2 : 2 * ((x - 1).toNat % 4) ≤ 6 := by omega
  obtain ⟨q, hq⟩ : ∃ q, (x - 1).toNat / 4 = q := ⟨_, rfl⟩
  obtain ⟨r, hr⟩ : ∃ r, 2 * ((x - 1).toNat % 4) = r := ⟨_, rfl⟩
  obtain ⟨t, ht⟩ : ∃ t, (x - 1).tmod 4 = t := ⟨_, rfl⟩
  rw [ht] at e2
  rw [hq] at e1 b1
  rw [hr] at e2 b2
  rw [hq, hr]
  have b3 : 0 ≤ t ∧ t ≤ 3 := by omega
  clear hq hr
  go_enter Tryz.func68, Tryz.ntmps68
  go_wp2
  go_ret2
  exact ⟨rfl, rfl⟩
theorem laidLimit_any (x : Int) (w : World) (h1 : 0 ≤ x) (h2 : x ≤ 1024) :
    Calls Tryz.prog 52 #[.int .i64 x] w fun e w' => e = .returned (.string (str (sev x.toNat))) ∧ Only (fun _ => False) w w' := by
  obtain ⟨b, hb⟩ : ∃ b, w.heap.size = b := ⟨_, rfl⟩
  have HN := hide (new_any w)
  rw [hb] at HN
  have HB := hide hb
  clear hb
  go_enter Tryz.func52, Tryz.ntmps52
  go_wp2_with fail
  refine HN.out.mono ?_
  rintro e w1 ⟨rfl, hw1⟩
  have HW : Hid (Wr w1 b none []) := by unfold Hid; rw [hw1, ← HB.out]; exact Wr.new w
  have HO : Hid (Only (fun _ => False) w w1) := by unfold Hid; rw [hw1]; exact onlyA _ _
  clear hw1 HN
  go_wp2_with fail
  refine (wnum_one w1 b none [] x HW.out (by omega) (by simp)).mono ?_
  rintro e w2 ⟨rfl, row, hW2, hg⟩
  have HW2 := hide hW2
  have HG := hide hg
  clear hW2 hg
  go_wp2_with fail
  refine (wbytes_any w2 b row _ HW2.out).mono ?_
  rintro e w3 ⟨rfl, hw⟩
  obtain rfl := hw.symm
  clear hw
  go_wp2_with fail
  go_ret
  refine ⟨rfl, HO.out.trans HG.out.only ?_⟩
  intro i hi ht
  have := HB.out
  rcases ht with ht | ht
  · omega
  · cases ht
theorem lim_err {m : Int} {s : ByteArray} (h : ¬ (rdN m (bl s)).2.2 = 0) : lim m s = 0 := by unfold lim; rw [if_neg (fun k => h k.1)]
theorem lim_more {m : Int} {s : ByteArray} (h : ¬ (rdN m (bl s)).2.1 = []) : lim m s = 0 := by unfold lim; rw [if_neg (fun k => h k.2)]
theorem lim_ok {m : Int} {s : ByteArray} (h : (rdN m (bl s)).2.2 = 0) (h' : (rdN m (bl s)).2.1 = []) : lim m s = (rdN m (bl s)).1 := by unfold lim; rw [if_pos ⟨h, h'⟩]
theorem readLimit_any (m : Int) (s : ByteArray) (w : World) (h1 : 0 ≤ m) :
    Calls Tryz.prog 50 #[.int .i64 m, .string s] w fun e w' => e = .returned (.int .i64 (lim m s)) ∧ Only (fun _ => False) w w' := by
  obtain ⟨b, hb⟩ : ∃ b, w.heap.size = b := ⟨_, rfl⟩
  have HN := hide (read_any s w)
  rw [hb] at HN
  have HB := hide hb
  clear hb
  have HL := hide (lim_bd h1 s)
  obtain ⟨n, hn⟩ : ∃ n, (rdN m (bl s)).1 = n := ⟨_, rfl⟩
  obtain ⟨z, hz⟩ : ∃ z, (rdN m (bl s)).2.2 = z := ⟨_, rfl⟩
  obtain ⟨r, hr⟩ : ∃ r, (rdN m (bl s)).2.1 = r := ⟨_, rfl⟩
  have HC : Hid (lim m s = if z = 0 ∧ r = [] then n else 0) := by unfold Hid lim; rw [hn, hz, hr]
  have HR : Hid (∀ w1, Rd w1 b s 0 → Calls Tryz.prog 80 #[.pointer (some ⟨b, 0, none⟩), .int .i64 m] w1 fun e w' => e = .returned (.int .i64 n) ∧ Rd w' b ⟨r.toArray⟩ z ∧ Only (fun k => k = b) w1 w') := by
    intro w1 hR
    have := rnum_any w1 b s m hR
    rw [hn, hz, hr] at this
    exact this
  have hbn := rdN_facts m (bl s)
  rw [hn] at hbn
  have hn0 := hbn.1
  have hn1 := hbn.2.1
  clear hn hz hr hbn
  go_enter Tryz.func50, Tryz.ntmps50
  go_wp2_with fail
  refine HN.out.mono ?_
  rintro e w1 ⟨rfl, hw1⟩
  have HW : Hid (Rd w1 b s 0) := by unfold Hid; rw [hw1, ← HB.out]; exact Rd.new w s
  have HO : Hid (Only (fun _ => False) w w1) := by unfold Hid; rw [hw1]; exact onlyA _ _
  clear hw1 HN
  go_wp2_with fail
  refine (HR.out w1 HW.out).mono ?_
  rintro e w2 ⟨rfl, hR2, ho2⟩
  have HR2 := hide hR2
  have HO2 : Hid (Only (fun _ => False) w w2) := HO.out.trans ho2 (by intro i hi ht; have := HB.out; omega)
  clear hR2 ho2
  by_cases hz : z = 0
  · have HE := hide (rend_ok w2 b ⟨r.toArray⟩ (by have := HR2.out.c1; rw [hz] at this; exact this) HR2.out.c0)
    by_cases hr : r = []
    · have HV : Hid (lim m s = n) := by unfold Hid; rw [HC.out, if_pos ⟨hz, hr⟩]
      have e0 : (ByteArray.mk r.toArray).size = 0 := by rw [hr]; rfl
      rw [if_pos e0] at HE
      clear hz hr e0
      go_wp2_with fail
      refine HE.out.mono ?_
      rintro e w3 ⟨rfl, hw⟩
      obtain rfl := hw.symm
      clear hw
      go_wp2_with fail
      go_ret
      exact ⟨ret_int HV.out.symm, HO2.out⟩
    · have HV : Hid (lim m s = 0) := by unfold Hid; rw [HC.out, if_neg (fun k => hr k.2)]
      have e0 : ¬ (ByteArray.mk r.toArray).size = 0 := by
        intro h
        apply hr
        exact List.eq_nil_of_length_eq_zero (by simpa [ByteArray.size] using h)
      rw [if_neg e0] at HE
      clear hz hr e0
      go_wp2_with fail
      refine HE.out.mono ?_
      rintro e w3 ⟨rfl, hw⟩
      obtain rfl := hw.symm
      clear hw
      go_wp2_with fail
      go_ret
      exact ⟨ret_int HV.out.symm, HO2.out⟩
  · have HV : Hid (lim m s = 0) := by unfold Hid; rw [HC.out, if_neg (fun k => hz k.1)]
    have hzz : (z != 0) = true := by simp [hz]
    have HE := hide (rend_err w2 b z HR2.out.c1 hzz)
    clear hz
    go_wp2_with fail
    refine HE.out.mono ?_
    rintro e w3 ⟨rfl, hw⟩
    obtain rfl := hw.symm
    clear hw
    go_wp2_with fail
    go_ret
    exact ⟨ret_int HV.out.symm, HO2.out⟩
end Go.Proofs.YtphofhicehncgaaGreat

namespace Go.Proofs.YtphofhicehncgaaGreat
open Go.RowKit

/-- A status laid over what stood there, as the code has it. -/
theorem lay_byte : ∀ b : Fin 256, ∀ k : Fin 4, ∀ v : Fin 4, bits BinOp.or IntKind.u8 (bits BinOp.andNot IntKind.u8 (b.val : Int) ((3 * 4 ^ k.val : Nat) % 256 : Int)) ((v.val * 4 ^ k.val : Nat) : Int) = (put4 b.val k.val v.val : Int) := by
  decide +kernel
instance (m : Int) (s : ByteArray) : Decidable (topOk m s) := by unfold topOk; infer_instance
theorem empty_iff (h : ByteArray) : h.toList.isEmpty = decide (h = ⟨#[]⟩) := by
  rw [ByteArray.toList_eq]
  obtain ⟨⟨l⟩⟩ := h
  cases l <;> simp
theorem careStatuses_any (m : Int) (s : ByteArray) (w : World) (h : Md m) :
    Calls Tryz.prog 110 #[.int .i64 m, .string s] w fun e w' => e = .returned (.bool (decide (s.size = nb m ∧ topOk m s))) ∧ w' = w := by
  have HB := hide (statusBytes_any m w h)
  have h16 := h.1
  have h1024 := h.2.1
  by_cases hn : s.size = nb m
  · have HP := hide (cplace_any m w (by omega) h1024)
    have hq : ((m - 1).toNat / 4 : Nat) < s.size := by have := nb_bd h; omega
    have e1 : ((m - 1) / 4).toNat = (m - 1).toNat / 4 := by omega
    have e2 : ((m - 1) % 4).toNat = (m - 1).toNat % 4 := by omega
    have hk4 : (m - 1).toNat % 4 < 4 := by omega
    obtain ⟨R, hR⟩ : ∃ R, decide (s.size = nb m ∧ topOk m s) = R := ⟨_, rfl⟩
    have HT : Hid (R = decide (byt (bl s) ((m - 1).toNat / 4) / 4 ^ ((m - 1).toNat % 4) ≤ 3)) := by
      unfold Hid
      rw [← hR]
      refine decide_eq_decide.2 ?_
      unfold topOk
      rw [e1, e2]
      exact ⟨fun h => h.2, fun h => ⟨hn, h⟩⟩
    rw [hR]
    have hsn : (s.size : Int) = (nb m : Int) := by omega
    obtain ⟨q, hqq⟩ : ∃ q, (m - 1).toNat / 4 = q := ⟨_, rfl⟩
    obtain ⟨k, hkk⟩ : ∃ k, (m - 1).toNat % 4 = k := ⟨_, rfl⟩
    rw [hqq, hkk] at HP HT
    rw [hqq] at hq
    rw [hkk] at hk4
    clear e1 e2 hn hqq hkk h hR
    have HBY : Hid (byt (bl s) q = (s[q]'hq).toNat) := by
      unfold Hid byt
      rw [List.getD_eq_getElem?_getD, List.getElem?_eq_getElem (by rw [bl_len]; exact hq)]
      rfl
    have hqi : (q : Int) < (s.size : Int) := by omega
    rcases k4 hk4 with rfl | rfl | rfl | rfl
    · go_enter Tryz.func110, Tryz.ntmps110
      go_wp2_with fail
      refine HB.out.mono ?_
      rintro e w1 ⟨rfl, hw⟩
      obtain rfl := hw.symm
      clear hw
      go_wp2_with fail
      refine HP.out.mono ?_
      rintro e w1 ⟨rfl, hw⟩
      obtain rfl := hw.symm
      clear hw
      go_wp2_with fail
      go_ret
      refine ⟨ret_bool ?_, rfl⟩
      rw [HT.out, HBY.out]
      exact decide_eq_decide.2 (by simp only [Nat.reducePow]; omega)
    · go_enter Tryz.func110, Tryz.ntmps110
      go_wp2_with fail
      refine HB.out.mono ?_
      rintro e w1 ⟨rfl, hw⟩
      obtain rfl := hw.symm
      clear hw
      go_wp2_with fail
      refine HP.out.mono ?_
      rintro e w1 ⟨rfl, hw⟩
      obtain rfl := hw.symm
      clear hw
      go_wp2_with fail
      go_ret
      refine ⟨ret_bool ?_, rfl⟩
      rw [HT.out, HBY.out]
      exact decide_eq_decide.2 (by simp only [Nat.reducePow]; omega)
    · go_enter Tryz.func110, Tryz.ntmps110
      go_wp2_with fail
      refine HB.out.mono ?_
      rintro e w1 ⟨rfl, hw⟩
      obtain rfl := hw.symm
      clear hw
      go_wp2_with fail
      refine HP.out.mono ?_
      rintro e w1 ⟨rfl, hw⟩
      obtain rfl := hw.symm
      clear hw
      go_wp2_with fail
      go_ret
      refine ⟨ret_bool ?_, rfl⟩
      rw [HT.out, HBY.out]
      exact decide_eq_decide.2 (by simp only [Nat.reducePow]; omega)
    · go_enter Tryz.func110, Tryz.ntmps110
      go_wp2_with fail
      refine HB.out.mono ?_
      rintro e w1 ⟨rfl, hw⟩
      obtain rfl := hw.symm
      clear hw
      go_wp2_with fail
      refine HP.out.mono ?_
      rintro e w1 ⟨rfl, hw⟩
      obtain rfl := hw.symm
      clear hw
      go_wp2_with fail
      go_ret
      refine ⟨ret_bool ?_, rfl⟩
      rw [HT.out, HBY.out]
      exact decide_eq_decide.2 (by simp only [Nat.reducePow]; omega)
  · have hd : decide (s.size = nb m ∧ topOk m s) = false := by simp [hn]
    rw [hd]
    obtain ⟨n, hnn⟩ : ∃ n, nb m = n := ⟨_, rfl⟩
    have hne : ¬ (s.size : Int) = (n : Int) := by omega
    rw [hnn] at HB
    clear hn hd hnn h
    go_enter Tryz.func110, Tryz.ntmps110
    go_wp2_with fail
    refine HB.out.mono ?_
    rintro e w1 ⟨rfl, hw⟩
    obtain rfl := hw.symm
    clear hw
    go_wp2_with fail
    go_ret
    exact ⟨rfl, rfl⟩
theorem isHead_any (w : World) (a k v r : Int) (h : ByteArray) (cp n : Nat) (ao : Option Addr) :
    Calls Tryz.prog 109 #[.agg #[.int .i64 a, .int .i64 k, .int .i64 v, .int .i64 r, .string h, .slice ao n cp]] w fun e w' => e = .returned (.bool (decide (k = 1 ∧ 0 ≤ a ∧ v = 0 ∧ r = 0 ∧ h = ⟨#[]⟩))) ∧ Only (fun _ => False) w w' := by
  have HO := hide (onlyA w (.cells #[.int .i64 a, .int .i64 k, .int .i64 v, .int .i64 r, .string h, .slice ao n cp] 25))
  go_enter Tryz.func109, Tryz.ntmps109
  go_wp2_with fail
  all_goals go_ret
  all_goals refine ⟨ret_bool ?_, onlyA _ _⟩
  all_goals clear HO
  all_goals (try rw [empty_iff])
  all_goals simp_all
  all_goals omega
/-- Bytes in block g that may be written. -/
structure Byt (w : World) (g : Nat) (l : List UInt8) : Prop where
  c : ∀ j (h : j < l.length), w.cell? ⟨g, j, none⟩ = some (.int .u8 (l[j].toNat : Int))
  f : ∀ j, j < l.length → w.frozen? ⟨g, j, none⟩ = false
  lt : g < w.heap.size
theorem Byt.set {w : World} {g : Nat} {l : List UInt8} (h : Byt w g l) {j n : Nat} (hj : j < l.length) (hn : n < 256) {V : Int} (hV : V = (n : Int)) :
    Byt (w.setCell ⟨g, j, none⟩ (.int .u8 V)).drew g (l.set j (UInt8.ofNat n)) ∧ Only (fun k => k = g) w (w.setCell ⟨g, j, none⟩ (.int .u8 V)).drew := by
  subst hV
  refine ⟨⟨fun i hi => ?_, fun i hi => ?_, ?_⟩, (Only.setCell (S := fun k => k = g) w ⟨g, j, none⟩ _ rfl).trans (Only.drew _ _) (fun _ _ h => h)⟩
  · have hi' := hi
    rw [List.length_set] at hi'
    show (w.setCell ⟨g, j, none⟩ (.int .u8 (n : Int))).cell? ⟨g, i, none⟩ = _
    by_cases e : i = j
    · subst e
      rw [World.cell?_setCell_same _ _ _ (h.c i hi')]
      simp only [List.getElem_set_self]
      rw [UInt8.toNat_ofNat_of_lt' hn]
    · rw [World.cell?_setCell_other _ _ _ _ (by intro q; injection q with _ q; exact e q.symm), h.c i hi', List.getElem_set_ne (by omega)]
  · rw [List.length_set] at hi
    have := h.f i hi
    simpa using this
  · have := h.lt
    simpa using this
theorem Byt.kept {S : Nat → Prop} {w w' : World} {g : Nat} {l : List UInt8} (h : Byt w g l) (ho : Only S w w') (hS : ¬ S g) : Byt w' g l :=
  ⟨fun j hj => (ho.cell (p := ⟨g, j, none⟩) h.lt hS).trans (h.c j hj), fun j hj => (ho.frozen (p := ⟨g, j, none⟩) h.lt hS).trans (h.f j hj), Nat.lt_of_lt_of_le h.lt ho.size⟩
theorem Byt.st {w : World} {g : Nat} {l : List UInt8} (h : Byt w g l) {i v k : Nat} (hi : i / 4 < l.length) (hk : i % 4 = k) (hv : v < 4) {V : Int} (hV : V = (put4 (l[i / 4]).toNat k v : Int)) :
    Byt (w.setCell ⟨g, i / 4, none⟩ (.int .u8 V)).drew g (stSet l i v) ∧ Only (fun k => k = g) w (w.setCell ⟨g, i / 4, none⟩ (.int .u8 V)).drew := by
  have hb : byt l (i / 4) = (l[i / 4]).toNat := by
    unfold byt
    rw [List.getD_eq_getElem?_getD, List.getElem?_eq_getElem hi]
    rfl
  subst hk
  rw [← hb] at hV
  exact h.set hi (put4_lt (byt_lt _ _) (Nat.mod_lt _ (by decide)) hv) hV
theorem lay_any (w : World) (g cp : Nat) (l : List UInt8) (x : Int) (v : Nat) (hB : Byt w g l) (h1 : 1 ≤ x) (h2 : x ≤ 1024) (hx : (x - 1).toNat / 4 < l.length) (hv : v < 4) :
    Calls Tryz.prog 35 #[.slice (some ⟨g, 0, none⟩) l.length cp, .int .i64 x, .int .u8 (v : Int)] w fun e w' => e = .returned (.tuple #[]) ∧ Byt w' g (stSet l (x - 1).toNat v) ∧ Only (fun k => k = g) w w' := by
  have HP := hide (cplace_any x w h1 h2)
  obtain ⟨q, hq⟩ : ∃ q, (x - 1).toNat / 4 = q := ⟨_, rfl⟩
  obtain ⟨k, hk⟩ : ∃ k, (x - 1).toNat % 4 = k := ⟨_, rfl⟩
  have hk4 : k < 4 := by omega
  have c0 := hB.c q (by omega)
  have f0 := hB.f q (by omega)
  rw [hq, hk] at HP
  have hql : (q : Int) < (l.length : Int) := by omega
  have HST : Hid (∀ V : Int, V = (put4 (l[q]).toNat k v : Int) → Byt (w.setCell ⟨g, q, none⟩ (.int .u8 V)).drew g (stSet l (x - 1).toNat v) ∧ Only (fun k => k = g) w (w.setCell ⟨g, q, none⟩ (.int .u8 V)).drew) := by
    intro V hV
    subst hq
    exact hB.st hx hk hv hV
  have hb := UInt8.toNat_lt l[q]
  have HLB := hide (lay_byte ⟨(l[q]).toNat, hb⟩ ⟨k, hk4⟩ ⟨v, hv⟩)
  obtain ⟨n, hn⟩ : ∃ n, (l[q]).toNat = n := ⟨_, rfl⟩
  simp only [hn] at HLB HST hb
  rw [hn] at c0
  clear hB hn hk h1 h2
  rcases k4 hk4 with rfl | rfl | rfl | rfl
  · go_enter Tryz.func35, Tryz.ntmps35
    go_wp2_with fail
    refine HP.out.mono ?_
    rintro e w1 ⟨rfl, hw⟩
    obtain rfl := hw.symm
    clear hw
    go_wp2_with fail
    go_region
    go_wp2_with fail
    go_end0
    refine ⟨rfl, HST.out _ ?_⟩
    have := HLB.out
    simp at this
    exact this
  · go_enter Tryz.func35, Tryz.ntmps35
    go_wp2_with fail
    refine HP.out.mono ?_
    rintro e w1 ⟨rfl, hw⟩
    obtain rfl := hw.symm
    clear hw
    go_wp2_with fail
    go_region
    go_wp2_with fail
    go_end0
    refine ⟨rfl, HST.out _ ?_⟩
    have := HLB.out
    simp at this
    exact this
  · go_enter Tryz.func35, Tryz.ntmps35
    go_wp2_with fail
    refine HP.out.mono ?_
    rintro e w1 ⟨rfl, hw⟩
    obtain rfl := hw.symm
    clear hw
    go_wp2_with fail
    go_region
    go_wp2_with fail
    go_end0
    refine ⟨rfl, HST.out _ ?_⟩
    have := HLB.out
    simp at this
    exact this
  · go_enter Tryz.func35, Tryz.ntmps35
    go_wp2_with fail
    refine HP.out.mono ?_
    rintro e w1 ⟨rfl, hw⟩
    obtain rfl := hw.symm
    clear hw
    go_wp2_with fail
    go_region
    go_wp2_with fail
    go_end0
    refine ⟨rfl, HST.out _ ?_⟩
    have := HLB.out
    simp at this
    exact this
end Go.Proofs.YtphofhicehncgaaGreat

namespace Go.Proofs.YtphofhicehncgaaGreat
open Go.RowKit

theorem two_of {l : List ByteArray} (h : l.length = 2) : ∃ s t, l = [s, t] := by
  match l, h with
  | [s, t], _ => exact ⟨s, t, rfl⟩
theorem check_mod (w : World) (m a k v r : Int) (h : ByteArray) (cp n : Nat) (ao : Option Addr) (hm : I64 m) (hM : ¬ Md m) :
    Calls Tryz.prog 66 #[.int .i64 m, .agg #[.int .i64 a, .int .i64 k, .int .i64 v, .int .i64 r, .string h, .slice ao n cp]] w fun e w' => e = .returned (.int .i64 1) ∧ Only (fun _ => False) w w' := by
  have HM := hide (fun W => cisModulus_any m W hm)
  simp only [decide_eq_false hM] at HM
  clear hM
  have HO := hide (onlyA w (.cells #[.int .i64 a, .int .i64 k, .int .i64 v, .int .i64 r, .string h, .slice ao n cp] 25))
  go_enter Tryz.func66, Tryz.ntmps66
  go_wp2_with fail
  refine (HM.out _).mono ?_
  rintro e w1 ⟨rfl, hw⟩
  obtain rfl := hw.symm
  clear hw
  go_wp2_with fail
  go_ret
  exact ⟨rfl, HO.out⟩
theorem check_head (w : World) (m a k v r : Int) (h : ByteArray) (cp n : Nat) (ao : Option Addr) (hM : Md m) (hH : ¬ ((k = 1 ∧ 0 ≤ a ∧ v = 0 ∧ r = 0 ∧ h = ⟨#[]⟩) ∧ n = 2)) :
    Calls Tryz.prog 66 #[.int .i64 m, .agg #[.int .i64 a, .int .i64 k, .int .i64 v, .int .i64 r, .string h, .slice ao n cp]] w fun e w' => e = .returned (.int .i64 31) ∧ Only (fun _ => False) w w' := by
  have HM := hide (fun W => cisModulus_any m W ⟨by have := hM.1; omega, by have := hM.2.1; omega⟩)
  simp only [decide_eq_true hM] at HM
  clear hM
  have HI := hide (fun W => isHead_any W a k v r h cp n ao)
  have HO := hide (onlyA w (.cells #[.int .i64 a, .int .i64 k, .int .i64 v, .int .i64 r, .string h, .slice ao n cp] 25))
  have HP := hide (Pag.new w (.int .i64 a) (.int .i64 k) (.int .i64 v) (.int .i64 r) (.string h) (.slice ao n cp))
  by_cases hd : (k = 1 ∧ 0 ≤ a ∧ v = 0 ∧ r = 0 ∧ h = ⟨#[]⟩)
  · simp only [decide_eq_true hd] at HI
    have hn : ¬ (n : Int) = 2 := fun e => hH ⟨hd, by omega⟩
    clear hd hH
    go_enter Tryz.func66, Tryz.ntmps66
    go_wp2_with fail
    refine (HM.out _).mono ?_
    rintro e w1 ⟨rfl, hw⟩
    obtain rfl := hw.symm
    clear hw
    go_wp2_with fail
    refine (HI.out _).mono ?_
    rintro e w2 ⟨rfl, ho2⟩
    have c5 := (HP.out.more ho2).c5
    have HO2 := hide (o2 HO.out ho2)
    clear ho2
    go_wp2_with fail
    go_ret
    exact ⟨rfl, HO2.out⟩
  · simp only [decide_eq_false hd] at HI
    clear hd hH
    go_enter Tryz.func66, Tryz.ntmps66
    go_wp2_with fail
    refine (HM.out _).mono ?_
    rintro e w1 ⟨rfl, hw⟩
    obtain rfl := hw.symm
    clear hw
    go_wp2_with fail
    refine (HI.out _).mono ?_
    rintro e w2 ⟨rfl, ho2⟩
    have HO2 := hide (o2 HO.out ho2)
    clear ho2
    go_wp2_with fail
    go_ret
    exact ⟨rfl, HO2.out⟩
theorem check_two (w : World) (m a : Int) (cp B : Nat) (ao : Option Addr) (s0 s1 : ByteArray) (hM : Md m) (ha : 0 ≤ a) (hS : Strs w B ao [s0, s1]) :
    Calls Tryz.prog 66 #[.int .i64 m, .agg #[.int .i64 a, .int .i64 1, .int .i64 0, .int .i64 0, .string ⟨#[]⟩, .slice ao 2 cp]] w fun e w' => e = .returned (.int .i64 (if lim m s0 = 0 ∨ ¬ (s1.size = nb m ∧ topOk m s1) then 31 else 0)) ∧ Only (fun _ => False) w w' := by
  have HM := hide (fun W => cisModulus_any m W ⟨by have := hM.1; omega, by have := hM.2.1; omega⟩)
  simp only [decide_eq_true hM] at HM
  have HI : Hid (∀ W, Calls Tryz.prog 109 #[.agg #[.int .i64 a, .int .i64 1, .int .i64 0, .int .i64 0, .string ⟨#[]⟩, .slice ao 2 cp]] W fun e w' => e = .returned (.bool true) ∧ Only (fun _ => False) W w') := by
    intro W
    have q := isHead_any W a 1 0 0 ⟨#[]⟩ cp 2 ao
    rw [decide_eq_true (⟨rfl, ha, rfl, rfl, rfl⟩ : (1 : Int) = 1 ∧ 0 ≤ a ∧ (0 : Int) = 0 ∧ (0 : Int) = 0 ∧ (⟨#[]⟩ : ByteArray) = ⟨#[]⟩)] at q
    exact q
  have HL := hide (fun W => readLimit_any m s0 W (by have := hM.1; omega))
  have HA := hide (fun W => careStatuses_any m s1 W hM)
  have HO := hide (onlyA w (.cells #[.int .i64 a, .int .i64 1, .int .i64 0, .int .i64 0, .string ⟨#[]⟩, .slice ao 2 cp] 25))
  have HP := hide (Pag.new w (.int .i64 a) (.int .i64 1) (.int .i64 0) (.int .i64 0) (.string ⟨#[]⟩) (.slice ao 2 cp))
  have hlb := lim_bd (by have := hM.1; omega : 0 ≤ m) s0
  have hm2 := hM.2.1
  obtain ⟨o, rfl, hc⟩ := hS.at_ (by simp)
  have HS := hide hS
  have hB := hS.lt (by simp)
  have hc0 := hc 0 (by simp)
  have hc1 := hc 1 (by simp)
  simp only [List.getElem_cons_zero, List.getElem_cons_succ, Nat.add_zero] at hc0 hc1
  have HC0 := hide hc0
  have HC1 := hide hc1
  clear hS hc hc0 hc1 hM
  obtain ⟨L, hL⟩ : ∃ L, lim m s0 = L := ⟨_, rfl⟩
  obtain ⟨T, hT⟩ : ∃ T, decide (s1.size = nb m ∧ topOk m s1) = T := ⟨_, rfl⟩
  have HR : Hid ((if lim m s0 = 0 ∨ ¬ (s1.size = nb m ∧ topOk m s1) then (31 : Int) else 0) = if L = 0 ∨ T = false then 31 else 0) := by
    unfold Hid
    rw [hL]
    by_cases hq : s1.size = nb m ∧ topOk m s1
    · rw [decide_eq_true hq] at hT
      rw [← hT]
      simp [hq]
    · rw [decide_eq_false hq] at hT
      rw [← hT]
      simp [hq]
  rw [HR.out]
  simp only [hL] at HL hlb
  simp only [hT] at HA
  clear HR hL hT
  by_cases h0 : L = 0
  · rw [if_pos (.inl h0)]
    subst h0
    go_enter Tryz.func66, Tryz.ntmps66
    go_wp2_with fail
    refine (HM.out _).mono ?_
    rintro e w1 ⟨rfl, hw⟩
    obtain rfl := hw.symm
    clear hw
    go_wp2_with fail
    refine (HI.out _).mono ?_
    rintro e w2 ⟨rfl, ho2⟩
    have c5 := (HP.out.more ho2).c5
    have HO2 := hide (o2 HO.out ho2)
    have d0 := (HO2.out.cell (p := ⟨B, o, none⟩) hB (fun h => h)).trans HC0.out
    clear ho2
    go_wp2_with fail
    refine (HL.out _).mono ?_
    rintro e w3 ⟨rfl, ho3⟩
    have HO3 := hide (o2 HO2.out ho3)
    clear ho3
    go_wp2_with fail
    go_ret
    exact ⟨rfl, HO3.out⟩
  · have hne : (L == 0) = false := by simp [h0]
    cases T with
    | false =>
      rw [if_pos (.inr rfl)]
      go_enter Tryz.func66, Tryz.ntmps66
      go_wp2_with fail
      refine (HM.out _).mono ?_
      rintro e w1 ⟨rfl, hw⟩
      obtain rfl := hw.symm
      clear hw
      go_wp2_with fail
      refine (HI.out _).mono ?_
      rintro e w2 ⟨rfl, ho2⟩
      have c5 := (HP.out.more ho2).c5
      have HP2 := hide (HP.out.more ho2)
      have HO2 := hide (o2 HO.out ho2)
      have d0 := (HO2.out.cell (p := ⟨B, o, none⟩) hB (fun h => h)).trans HC0.out
      clear ho2
      go_wp2_with fail
      refine (HL.out _).mono ?_
      rintro e w3 ⟨rfl, ho3⟩
      clear c5 d0
      have c5 := (HP2.out.more ho3).c5
      have HO3 := hide (o2 HO2.out ho3)
      have d1 := (HO3.out.cell (p := ⟨B, o + 1, none⟩) hB (fun h => h)).trans HC1.out
      clear ho3
      go_wp2_with fail
      refine (HA.out _).mono ?_
      rintro e w4 ⟨rfl, hw⟩
      obtain rfl := hw.symm
      clear hw
      go_wp2_with fail
      go_ret
      exact ⟨rfl, HO3.out⟩
    | true =>
      rw [if_neg (fun h => h.elim h0 (fun e => by cases e))]
      go_enter Tryz.func66, Tryz.ntmps66
      go_wp2_with fail
      refine (HM.out _).mono ?_
      rintro e w1 ⟨rfl, hw⟩
      obtain rfl := hw.symm
      clear hw
      go_wp2_with fail
      refine (HI.out _).mono ?_
      rintro e w2 ⟨rfl, ho2⟩
      have c5 := (HP.out.more ho2).c5
      have HP2 := hide (HP.out.more ho2)
      have HO2 := hide (o2 HO.out ho2)
      have d0 := (HO2.out.cell (p := ⟨B, o, none⟩) hB (fun h => h)).trans HC0.out
      clear ho2
      go_wp2_with fail
      refine (HL.out _).mono ?_
      rintro e w3 ⟨rfl, ho3⟩
      clear c5 d0
      have c5 := (HP2.out.more ho3).c5
      have HO3 := hide (o2 HO2.out ho3)
      have d1 := (HO3.out.cell (p := ⟨B, o + 1, none⟩) hB (fun h => h)).trans HC1.out
      clear ho3
      go_wp2_with fail
      refine (HA.out _).mono ?_
      rintro e w4 ⟨rfl, hw⟩
      obtain rfl := hw.symm
      clear hw
      go_wp2_with fail
      go_ret
      exact ⟨rfl, HO3.out⟩
theorem check_any (w : World) (m a k v r : Int) (h : ByteArray) (cp B : Nat) (ao : Option Addr) (l : List ByteArray) (hm : I64 m) (hS : Strs w B ao l) :
    Calls Tryz.prog 66 #[.int .i64 m, .agg #[.int .i64 a, .int .i64 k, .int .i64 v, .int .i64 r, .string h, .slice ao l.length cp]] w fun e w' => e = .returned (.int .i64 (chk m ⟨a, k, v, r, h, l⟩)) ∧ Only (fun _ => False) w w' := by
  by_cases hM : Md m
  · by_cases hH : (k = 1 ∧ 0 ≤ a ∧ v = 0 ∧ r = 0 ∧ h = ⟨#[]⟩) ∧ l.length = 2
    · obtain ⟨⟨rfl, ha, rfl, rfl, rfl⟩, hl⟩ := hH
      obtain ⟨s0, s1, rfl⟩ := two_of hl
      refine (check_two w m a cp B ao s0 s1 hM ha hS).mono ?_
      rintro e w' ⟨rfl, ho⟩
      refine ⟨ret_int ?_, ho⟩
      by_cases hq : lim m s0 = 0 ∨ ¬ (s1.size = nb m ∧ topOk m s1)
      · rw [if_pos hq, chk_bad hM]
        intro hk
        rcases hq with hq | hq
        · exact hk.lm hq
        · exact hq ⟨hk.size, hk.top⟩
      · rw [if_neg hq, chk_ok hM]
        simp only [not_or, Classical.not_not] at hq
        exact ⟨rfl, ha, rfl, rfl, rfl, rfl, hq.1, hq.2.1, hq.2.2⟩
    · rw [chk_bad hM (fun hk => hH ⟨⟨hk.kind, hk.lsn, hk.level, hk.right, hk.high⟩, hk.two⟩)]
      exact check_head w m a k v r h cp l.length ao hM hH
  · rw [chk_mod hM]
    exact check_mod w m a k v r h cp l.length ao hm hM
/-- What checkWithID answers. -/
noncomputable def cid (m : Int) (p : Pg) (x : Int) : Int := if chk m p = 0 then (if Idd m x then 0 else 1) else chk m p
theorem chk_bd (m : Int) (p : Pg) : chk m p = 0 ∨ chk m p = 1 ∨ chk m p = 31 := by
  unfold chk
  split
  · split
    · exact .inl rfl
    · exact .inr (.inr rfl)
  · exact .inr (.inl rfl)
theorem cid_bd (m : Int) (p : Pg) (x : Int) : cid m p x = 0 ∨ cid m p x = 1 ∨ cid m p x = 31 := by
  unfold cid
  split
  · split
    · exact .inl rfl
    · exact .inr (.inl rfl)
  · exact chk_bd m p
theorem chk_zero {m : Int} {p : Pg} (h : chk m p = 0) : Md m ∧ OkP m p := by
  by_cases hM : Md m
  · refine ⟨hM, Classical.byContradiction fun hk => ?_⟩
    rw [chk_bad hM hk] at h
    omega
  · rw [chk_mod hM] at h
    omega
theorem cid_zero {m x : Int} {p : Pg} (h : cid m p x = 0) : Idd m x ∧ OkP m p := by
  unfold cid at h
  split at h
  · rename_i h1
    split at h
    · rename_i h2
      exact ⟨h2, (chk_zero h1).2⟩
    · omega
  · rename_i h1
    exact absurd h h1
theorem cid_ok {m x : Int} {p : Pg} (h : Idd m x) (k : OkP m p) : cid m p x = 0 := by
  unfold cid
  rw [if_pos (chk_ok h.1 k), if_pos h]
theorem checkWithID_any (w : World) (m a k v r x : Int) (h : ByteArray) (cp B : Nat) (ao : Option Addr) (l : List ByteArray) (hm : I64 m) (hx : I64 x) (hS : Strs w B ao l) :
    Calls Tryz.prog 34 #[.int .i64 m, .agg #[.int .i64 a, .int .i64 k, .int .i64 v, .int .i64 r, .string h, .slice ao l.length cp], .int .i64 x] w fun e w' => e = .returned (.int .i64 (cid m ⟨a, k, v, r, h, l⟩ x)) ∧ Only (fun _ => False) w w' := by
  have HC := hide (fun W (ho : Only (fun _ => False) w W) => check_any W m a k v r h cp B ao l hm (hS.more ho))
  have HI := hide (fun W => cisID_any m x W hm hx)
  have hcb := chk_bd m ⟨a, k, v, r, h, l⟩
  have HO := hide (onlyA w (.cells #[.int .i64 a, .int .i64 k, .int .i64 v, .int .i64 r, .string h, .slice ao l.length cp] 25))
  obtain ⟨C, hC⟩ : ∃ C, chk m ⟨a, k, v, r, h, l⟩ = C := ⟨_, rfl⟩
  obtain ⟨I, hI⟩ : ∃ I, decide (Idd m x) = I := ⟨_, rfl⟩
  have HR : Hid (cid m ⟨a, k, v, r, h, l⟩ x = if C = 0 then (if I = true then 0 else 1) else C) := by
    unfold Hid cid
    rw [hC, ← hI]
    simp
  rw [HR.out]
  simp only [hC] at HC hcb
  simp only [hI] at HI
  have hm1 := hm.1
  have hm2 := hm.2
  have hx1 := hx.1
  have hx2 := hx.2
  clear HR hC hI hm hx hS
  by_cases h0 : C = 0
  · rw [if_pos h0]
    subst h0
    clear hcb
    cases I
    all_goals
      go_enter Tryz.func34, Tryz.ntmps34
      go_wp2_with fail
      refine (HC.out _ HO.out).mono ?_
      rintro e w1 ⟨rfl, ho⟩
      have HO1 := hide (o2 HO.out ho)
      clear ho
      go_wp2_with fail
      refine (HI.out _).mono ?_
      rintro e w2 ⟨rfl, hw⟩
      obtain rfl := hw.symm
      clear hw
      go_wp2_with fail
      go_ret
      exact ⟨rfl, HO1.out⟩
  · rw [if_neg h0]
    have hne : (C != 0) = true := by simp [h0]
    clear h0
    go_enter Tryz.func34, Tryz.ntmps34
    go_wp2_with fail
    refine (HC.out _ HO.out).mono ?_
    rintro e w1 ⟨rfl, ho⟩
    have HO1 := hide (o2 HO.out ho)
    clear ho
    go_wp2_with fail
    go_ret
    exact ⟨rfl, HO1.out⟩
end Go.Proofs.YtphofhicehncgaaGreat
