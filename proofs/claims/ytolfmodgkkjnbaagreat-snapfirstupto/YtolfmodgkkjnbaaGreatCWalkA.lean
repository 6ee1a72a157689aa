/- What the small functions of package clog do. -/
import Derived.Test.YtolfmodgkkjnbaaGreatCPure
import Derived.Test.YtolfmodgkkjnbaaGreatXWalkB
import Derived.Test.YtolfmodgkkjnbaaGreatPMem
namespace Go.Proofs.YtolfmodgkkjnbaaGreat
open Go.RowKit

theorem xadd_zero {m x : Int} : (xadd m x 0 != 0) = decide (Idd m x) := by
  by_cases h : Idd m x
  · have := (xadd_id (n := 0) h).2
    rw [decide_eq_true h]
    simp
    omega
  · rw [decide_eq_false h]
    unfold xadd
    rw [if_neg h]
    rfl
theorem idd_one {m : Int} : Idd m 1 ↔ Md m := by
  unfold Idd Md
  omega
theorem cisID_any (m x : Int) (w : World) (hm : I64 m) (hx : I64 x) :
    Calls Tryz.prog 52 #[.int .i64 m, .int .i64 x] w fun e w' => e = .returned (.bool (decide (Idd m x))) ∧ w' = w := by
  have hc := add_any m x 0 w hm hx (I64.of (by omega) (by omega))
  have hq := xadd_zero (m := m) (x := x)
  have hb := xadd_bd (m := m) (x := x) (n := 0)
  obtain ⟨k, hk⟩ : ∃ k, xadd m x 0 = k := ⟨_, rfl⟩
  rw [hk] at hc hq hb
  rw [← hq]
  have hm1 := hm.1
  have hm2 := hm.2
  have hx1 := hx.1
  have hx2 := hx.2
  clear hk hq hm hx
  go_enter Tryz.func52, Tryz.ntmps52
  go_wp2_with (go_at_call 69; refine hc.mono ?_; rintro e w' ⟨rfl, hw⟩; obtain rfl := hw.symm; clear hw)
  go_ret
  exact ⟨rfl, rfl⟩
theorem cisModulus_any (m : Int) (w : World) (hm : I64 m) :
    Calls Tryz.prog 85 #[.int .i64 m] w fun e w' => e = .returned (.bool (decide (Md m))) ∧ w' = w := by
  have hc := cisID_any m 1 w hm (I64.of (by omega) (by omega))
  rw [show decide (Idd m 1) = decide (Md m) from decide_eq_decide.2 idd_one] at hc
  obtain ⟨b, hb⟩ : ∃ b, decide (Md m) = b := ⟨_, rfl⟩
  rw [hb] at hc
  rw [hb]
  have hm1 := hm.1
  have hm2 := hm.2
  clear hb hm
  go_enter Tryz.func85, Tryz.ntmps85
  go_wp2_with (go_at_call 52; refine hc.mono ?_; rintro e w' ⟨rfl, hw⟩; obtain rfl := hw.symm; clear hw)
  go_ret
  exact ⟨rfl, rfl⟩
theorem statusBytes_any (m : Int) (w : World) (h : Md m) :
    Calls Tryz.prog 55 #[.int .i64 m] w fun e w' => e = .returned (.int .i64 (nb m : Int)) ∧ w' = w := by
  have hn : (m + 3) / 4 = (nb m : Int) := by have := h.1; unfold nb; omega
  have h1 := h.1
  have h2 := h.2.1
  have hb := (nb_bd h).2.1
  have ht : (m + 3).tdiv 4 = (nb m : Int) := by rw [← hn]; exact Int.tdiv_eq_ediv_of_nonneg (by omega)
  clear h hn
  obtain ⟨n, hn⟩ : ∃ n, nb m = n := ⟨_, rfl⟩
  rw [hn] at ht hb
  rw [hn]
  clear hn
  have e : m + 4 - 1 = m + 3 := by omega
  go_enter Tryz.func55, Tryz.ntmps55
  go_wp2
  go_ret
  exact ⟨ret_int (by go_num), rfl⟩
theorem place_any (x : Int) (w : World) (h1 : 1 ≤ x) (h2 : x ≤ 1024) :
    Calls Tryz.prog 57 #[.int .i64 x] w fun e w' => e = .returned (.tuple #[.int .i64 (((x - 1).toNat / 4 : Nat) : Int), .int .i64 ((2 * ((x - 1).toNat % 4) : Nat) : Int)]) ∧ w' = w := by
  have e1 : (x - 1).tdiv 4 = (((x - 1).toNat / 4 : Nat) : Int) := by rw [Int.tdiv_eq_ediv_of_nonneg (by omega)]; omega
  have e2 : (x - 1).tmod 4 * 2 = ((2 * ((x - 1).toNat % 4) : Nat) : Int) := by rw [Int.tmod_eq_emod_of_nonneg (by omega)]; omega
  have b1 : (x - 1).toNat / 4 ≤ 256 := by omega
  have b2 : 2 * ((x - 1).toNat % 4) ≤ 6 := by omega
  obtain ⟨q, hq⟩ : ∃ q, (x - 1).toNat / 4 = q := ⟨_, rfl⟩
  obtain ⟨r, hr⟩ : ∃ r, 2 * ((x - 1).toNat % 4) = r := ⟨_, rfl⟩
  obtain ⟨t, ht⟩ : ∃ t, (x - 1).tmod 4 = t := ⟨_, rfl⟩
  rw [ht] at e2
  rw [hq] at e1 b1
  rw [hr] at e2 b2
  rw [hq, hr]
  have b3 : 0 ≤ t ∧ t ≤ 3 := by omega
  clear hq hr
  go_enter Tryz.func57, Tryz.ntmps57
  go_wp2
  go_ret2
  exact ⟨rfl, rfl⟩
theorem laidLimit_any (x : Int) (w : World) (h1 : 0 ≤ x) (h2 : x ≤ 1024) :
    Calls Tryz.prog 53 #[.int .i64 x] w fun e w' => e = .returned (.string (str (sev x.toNat))) ∧ Only (fun _ => False) w w' := by
  obtain ⟨b, hb⟩ : ∃ b, w.heap.size = b := ⟨_, rfl⟩
  have HN := hide (new_any w)
  rw [hb] at HN
  have HB := hide hb
  clear hb
  go_enter Tryz.func53, Tryz.ntmps53
  go_wp2_with fail
  refine HN.out.mono ?_
  rintro e w1 ⟨rfl, hw1⟩
  have HW : Hid (Wr w1 b none []) := by unfold Hid; rw [hw1, ← HB.out]; exact Wr.new w
  have HO : Hid (Only (fun _ => False) w w1) := by unfold Hid; rw [hw1]; exact onlyA _ _
  clear hw1 HN
  go_wp2_with fail
  refine (wnum_one w1 b none [] x HW.out (by omega) (by simp)).mono ?_
  rintro e w2 ⟨rfl, row, hW2, hg⟩
  have HW2 := hide hW2
  have HG := hide hg
  clear hW2 hg
  go_wp2_with fail
  refine (wbytes_any w2 b row _ HW2.out).mono ?_
  rintro e w3 ⟨rfl, hw⟩
  obtain rfl := hw.symm
  clear hw
  go_wp2_with fail
  go_ret
  refine ⟨rfl, HO.out.trans HG.out.only ?_⟩
  intro i hi ht
  have := HB.out
  rcases ht with ht | ht
  · omega
  · cases ht
theorem lim_err {m : Int} {s : ByteArray} (h : ¬ (rdN m (bl s)).2.2 = 0) : lim m s = 0 := by unfold lim; rw [if_neg (fun k => h k.1)]
theorem lim_more {m : Int} {s : ByteArray} (h : ¬ (rdN m (bl s)).2.1 = []) : lim m s = 0 := by unfold lim; rw [if_neg (fun k => h k.2)]
theorem lim_ok {m : Int} {s : ByteArray} (h : (rdN m (bl s)).2.2 = 0) (h' : (rdN m (bl s)).2.1 = []) : lim m s = (rdN m (bl s)).1 := by unfold lim; rw [if_pos ⟨h, h'⟩]
theorem readLimit_any (m : Int) (s : ByteArray) (w : World) (h1 : 0 ≤ m) :
    Calls Tryz.prog 87 #[.int .i64 m, .string s] w fun e w' => e = .returned (.int .i64 (lim m s)) ∧ Only (fun _ => False) w w' := by
  obtain ⟨b, hb⟩ : ∃ b, w.heap.size = b := ⟨_, rfl⟩
  have HN := hide (read_any s w)
  rw [hb] at HN
  have HB := hide hb
  clear hb
  have HL := hide (lim_bd h1 s)
  obtain ⟨n, hn⟩ : ∃ n, (rdN m (bl s)).1 = n := ⟨_, rfl⟩
  obtain ⟨z, hz⟩ : ∃ z, (rdN m (bl s)).2.2 = z := ⟨_, rfl⟩
  obtain ⟨r, hr⟩ : ∃ r, (rdN m (bl s)).2.1 = r := ⟨_, rfl⟩
  have HC : Hid (lim m s = if z = 0 ∧ r = [] then n else 0) := by unfold Hid lim; rw [hn, hz, hr]
  have HR : Hid (∀ w1, Rd w1 b s 0 → Calls Tryz.prog 111 #[.pointer (some ⟨b, 0, none⟩), .int .i64 m] w1 fun e w' => e = .returned (.int .i64 n) ∧ Rd w' b ⟨r.toArray⟩ z ∧ Only (fun k => k = b) w1 w') := by
    intro w1 hR
    have := rnum_any w1 b s m hR
    rw [hn, hz, hr] at this
    exact this
  have hbn := rdN_facts m (bl s)
  rw [hn] at hbn
  have hn0 := hbn.1
  have hn1 := hbn.2.1
  clear hn hz hr hbn
  go_enter Tryz.func87, Tryz.ntmps87
  go_wp2_with fail
  refine HN.out.mono ?_
  rintro e w1 ⟨rfl, hw1⟩
  have HW : Hid (Rd w1 b s 0) := by unfold Hid; rw [hw1, ← HB.out]; exact Rd.new w s
  have HO : Hid (Only (fun _ => False) w w1) := by unfold Hid; rw [hw1]; exact onlyA _ _
  clear hw1 HN
  go_wp2_with fail
  refine (HR.out w1 HW.out).mono ?_
  rintro e w2 ⟨rfl, hR2, ho2⟩
  have HR2 := hide hR2
  have HO2 : Hid (Only (fun _ => False) w w2) := HO.out.trans ho2 (by intro i hi ht; have := HB.out; omega)
  clear hR2 ho2
  by_cases hz : z = 0
  · have HE := hide (rend_ok w2 b ⟨r.toArray⟩ (by have := HR2.out.c1; rw [hz] at this; exact this) HR2.out.c0)
    by_cases hr : r = []
    · have HV : Hid (lim m s = n) := by unfold Hid; rw [HC.out, if_pos ⟨hz, hr⟩]
      have e0 : (ByteArray.mk r.toArray).size = 0 := by rw [hr]; rfl
      rw [if_pos e0] at HE
      clear hz hr e0
      go_wp2_with fail
      refine HE.out.mono ?_
      rintro e w3 ⟨rfl, hw⟩
      obtain rfl := hw.symm
      clear hw
      go_wp2_with fail
      go_ret
      exact ⟨ret_int HV.out.symm, HO2.out⟩
    · have HV : Hid (lim m s = 0) := by unfold Hid; rw [HC.out, if_neg (fun k => hr k.2)]
      have e0 : ¬ (ByteArray.mk r.toArray).size = 0 := by
        intro h
        apply hr
        exact List.eq_nil_of_length_eq_zero (by simpa [ByteArray.size] using h)
      rw [if_neg e0] at HE
      clear hz hr e0
      go_wp2_with fail
      refine HE.out.mono ?_
      rintro e w3 ⟨rfl, hw⟩
      obtain rfl := hw.symm
      clear hw
      go_wp2_with fail
      go_ret
      exact ⟨ret_int HV.out.symm, HO2.out⟩
  · have HV : Hid (lim m s = 0) := by unfold Hid; rw [HC.out, if_neg (fun k => hz k.1)]
    have hzz : (z != 0) = true := by simp [hz]
    have HE := hide (rend_err w2 b z HR2.out.c1 hzz)
    clear hz
    go_wp2_with fail
    refine HE.out.mono ?_
    rintro e w3 ⟨rfl, hw⟩
    obtain rfl := hw.symm
    clear hw
    go_wp2_with fail
    go_ret
    exact ⟨ret_int HV.out.symm, HO2.out⟩
end Go.Proofs.YtolfmodgkkjnbaaGreat
