/- Parts. -/
import Derived.Test.YtpnbhddmdfcjdaaK16
import Derived.Test.YtpnbhddmdfcjdaaK19
import Derived.Laws.IdiomStrings
set_option maxRecDepth 100000
namespace Go.Proofs.Ytpnbhddmdfcjdaa
open Go.RowKit
theorem and3 : ∀ n : Fin 256, bits BinOp.and IntKind.u8 (n.val : Int) 3 = ((n.val % 4 : Nat) : Int) := by
  decide +kernel
theorem st_and {n : Nat} (h : n < 256) (d k : Nat) (hd : d = 4 ^ k) : bits BinOp.and IntKind.u8 ((n : Int) / (d : Int)) 3 = (dig n k : Int) := by
  have hle : n / d ≤ n := Nat.div_le_self _ _
  have := and3 ⟨n / d, by omega⟩
  unfold dig
  rw [← hd, ← this]
  simp
theorem ret_st {a b : Int} (h : a = b) : Ending.returned (.tuple #[.int .u8 a, .int .i64 0]) = .returned (.tuple #[.int .u8 b, .int .i64 0]) := by rw [h]
/-- What Get answers. -/
noncomputable def gst (m : Int) (p : Pg) (x : Int) : Nat := if cid m p x = 0 then stAt (bl (it1 p)) (x - 1).toNat else 0
theorem cget_err (w : World) (m a k v r x : Int) (h : ByteArray) (cp B : Nat) (ao : Option Addr) (l : List ByteArray) (hm : I64 m) (hx : I64 x) (hS : Strs w B ao l) (hc : ¬ cid m ⟨a, k, v, r, h, l⟩ x = 0) :
    Calls Try.prog 87 #[.int .i64 m, .agg #[.int .i64 a, .int .i64 k, .int .i64 v, .int .i64 r, .string h, .slice ao l.length cp], .int .i64 x] w fun e w' => e = .returned (.tuple #[.int .u8 0, .int .i64 (cid m ⟨a, k, v, r, h, l⟩ x)]) ∧ Only (fun _ => False) w w' := by
  have HC := hide (fun W (ho : Only (fun _ => False) w W) => checkWithID_any W m a k v r x h cp B ao l hm hx (hS.more ho))
  have HO := hide (onlyA w (.cells #[.int .i64 a, .int .i64 k, .int .i64 v, .int .i64 r, .string h, .slice ao l.length cp] 30))
  have hcb := cid_bd m ⟨a, k, v, r, h, l⟩ x
  obtain ⟨C, hC⟩ : ∃ C, cid m ⟨a, k, v, r, h, l⟩ x = C := ⟨_, rfl⟩
  rw [hC] at hc hcb
  simp only [hC] at HC
  rw [hC]
  have hne : (C != 0) = true := by simp [hc]
  have hx1 := hx.1
  have hx2 := hx.2
  clear hC hc hm hx hS
  go_enter Try.func87, Try.ntmps87
  go_wp2_with fail
  refine (HC.out _ HO.out).mono ?_
  rintro e w1 ⟨rfl, ho⟩
  have HO1 := hide (o2 HO.out ho)
  clear ho
  go_wp2_with fail
  go_ret2
  exact ⟨rfl, HO1.out⟩
theorem byt_is {s : ByteArray} {q : Nat} (hq : q < s.size) : byt (bl s) q = (s[q]'hq).toNat := by
  unfold byt
  rw [List.getD_eq_getElem?_getD, List.getElem?_eq_getElem (by rw [bl_len]; exact hq)]
  rfl
theorem cget_ok (w : World) (m a x : Int) (cp B : Nat) (ao : Option Addr) (s0 s1 : ByteArray) (hS : Strs w B ao [s0, s1]) (hO : OkP m ⟨a, 1, 0, 0, ⟨#[]⟩, [s0, s1]⟩) (hI : Idd m x) :
    Calls Try.prog 87 #[.int .i64 m, .agg #[.int .i64 a, .int .i64 1, .int .i64 0, .int .i64 0, .string ⟨#[]⟩, .slice ao 2 cp], .int .i64 x] w fun e w' => e = .returned (.tuple #[.int .u8 (stAt (bl s1) (x - 1).toNat : Int), .int .i64 0]) ∧ Only (fun _ => False) w w' := by
  have hm : I64 m := ⟨by have := hI.1.1; omega, by have := hI.1.2.1; omega⟩
  have hx : I64 x := ⟨by have := hI.2; omega, by have := hI.2; have := hI.1.2.1; omega⟩
  have HC := hide (fun W (ho : Only (fun _ => False) w W) => checkWithID_any W m a 1 0 0 x ⟨#[]⟩ cp B ao [s0, s1] hm hx (hS.more ho))
  simp only [cid_ok hI hO] at HC
  have HO := hide (onlyA w (.cells #[.int .i64 a, .int .i64 1, .int .i64 0, .int .i64 0, .string ⟨#[]⟩, .slice ao 2 cp] 30))
  have HPL := hide (fun W => cplace_any x W hI.2.1 (by have := hI.2; have := hI.1.2.1; omega))
  have HP := hide (Pag.new w (.int .i64 a) (.int .i64 1) (.int .i64 0) (.int .i64 0) (.string ⟨#[]⟩) (.slice ao 2 cp))
  have hq : (x - 1).toNat / 4 < s1.size := by have := at_lt hI hO.size; rw [bl_len] at this; exact this
  obtain ⟨R, hR⟩ : ∃ R, stAt (bl s1) (x - 1).toNat = R := ⟨_, rfl⟩
  have HV : Hid (R = dig (byt (bl s1) ((x - 1).toNat / 4)) ((x - 1).toNat % 4)) := hR.symm
  rw [hR]
  clear hR
  obtain ⟨o, rfl, hc⟩ := hS.at_ (by simp)
  have hB := hS.lt (by simp)
  have hc1 := hc 1 (by simp)
  simp only [List.getElem_cons_zero, List.getElem_cons_succ] at hc1
  have HC1 := hide hc1
  have hk4 : (x - 1).toNat % 4 < 4 := by omega
  obtain ⟨q, hqq⟩ : ∃ q, (x - 1).toNat / 4 = q := ⟨_, rfl⟩
  obtain ⟨k, hkk⟩ : ∃ k, (x - 1).toNat % 4 = k := ⟨_, rfl⟩
  simp only [hqq, hkk] at HPL hk4 HV
  rw [hqq] at hq
  have hqs : (q : Int) < (s1.size : Int) := by omega
  rw [byt_is hq] at HV
  have hx1 := hx.1
  have hx2 := hx.2
  have hb := UInt8.toNat_lt (s1[q]'hq)
  clear hkk hqq hc hc1 hS hO hI hm hx
  simp only [List.length_cons, List.length_nil, Nat.zero_add, Nat.reduceAdd] at HC
  rcases k4 hk4 with rfl | rfl | rfl | rfl
  · go_enter Try.func87, Try.ntmps87
    go_wp2_with fail
    refine (HC.out _ HO.out).mono ?_
    rintro e w1 ⟨rfl, ho⟩
    have HO1 := hide (o2 HO.out ho)
    have c5 := (HP.out.more ho).c5
    have d1 := (HO1.out.cell (p := ⟨B, o + 1, none⟩) hB (fun h => h)).trans HC1.out
    clear ho
    go_wp2_with fail
    refine (HPL.out _).mono ?_
    rintro e w2 ⟨rfl, hw⟩
    obtain rfl := hw.symm
    clear hw
    go_wp2_with fail
    go_ret2
    refine ⟨ret_st ?_, HO1.out⟩
    have hv := st_and hb 1 0 rfl
    rw [HV.out]
    simpa using hv
  · go_enter Try.func87, Try.ntmps87
    go_wp2_with fail
    refine (HC.out _ HO.out).mono ?_
    rintro e w1 ⟨rfl, ho⟩
    have HO1 := hide (o2 HO.out ho)
    have c5 := (HP.out.more ho).c5
    have d1 := (HO1.out.cell (p := ⟨B, o + 1, none⟩) hB (fun h => h)).trans HC1.out
    clear ho
    go_wp2_with fail
    refine (HPL.out _).mono ?_
    rintro e w2 ⟨rfl, hw⟩
    obtain rfl := hw.symm
    clear hw
    go_wp2_with fail
    go_ret2
    refine ⟨ret_st ?_, HO1.out⟩
    have hv := st_and hb 4 1 rfl
    rw [HV.out]
    simpa using hv
  · go_enter Try.func87, Try.ntmps87
    go_wp2_with fail
    refine (HC.out _ HO.out).mono ?_
    rintro e w1 ⟨rfl, ho⟩
    have HO1 := hide (o2 HO.out ho)
    have c5 := (HP.out.more ho).c5
    have d1 := (HO1.out.cell (p := ⟨B, o + 1, none⟩) hB (fun h => h)).trans HC1.out
    clear ho
    go_wp2_with fail
    refine (HPL.out _).mono ?_
    rintro e w2 ⟨rfl, hw⟩
    obtain rfl := hw.symm
    clear hw
    go_wp2_with fail
    go_ret2
    refine ⟨ret_st ?_, HO1.out⟩
    have hv := st_and hb 16 2 rfl
    rw [HV.out]
    simpa using hv
  · go_enter Try.func87, Try.ntmps87
    go_wp2_with fail
    refine (HC.out _ HO.out).mono ?_
    rintro e w1 ⟨rfl, ho⟩
    have HO1 := hide (o2 HO.out ho)
    have c5 := (HP.out.more ho).c5
    have d1 := (HO1.out.cell (p := ⟨B, o + 1, none⟩) hB (fun h => h)).trans HC1.out
    clear ho
    go_wp2_with fail
    refine (HPL.out _).mono ?_
    rintro e w2 ⟨rfl, hw⟩
    obtain rfl := hw.symm
    clear hw
    go_wp2_with fail
    go_ret2
    refine ⟨ret_st ?_, HO1.out⟩
    have hv := st_and hb 64 3 rfl
    rw [HV.out]
    simpa using hv
theorem cget_any (w : World) (m a k v r x : Int) (h : ByteArray) (cp B : Nat) (ao : Option Addr) (l : List ByteArray) (hm : I64 m) (hx : I64 x) (hS : Strs w B ao l) :
    Calls Try.prog 87 #[.int .i64 m, .agg #[.int .i64 a, .int .i64 k, .int .i64 v, .int .i64 r, .string h, .slice ao l.length cp], .int .i64 x] w fun e w' => e = .returned (.tuple #[.int .u8 (gst m ⟨a, k, v, r, h, l⟩ x : Int), .int .i64 (cid m ⟨a, k, v, r, h, l⟩ x)]) ∧ Only (fun _ => False) w w' := by
  by_cases hc : cid m ⟨a, k, v, r, h, l⟩ x = 0
  · obtain ⟨hI, hO⟩ := cid_zero hc
    unfold gst
    rw [if_pos hc, hc]
    clear hc
    have h1 := hO.kind
    have h2 := hO.level
    have h3 := hO.right
    have h4 := hO.high
    simp only at h1 h2 h3 h4
    subst h1 h2 h3 h4
    obtain ⟨s0, s1, rfl⟩ := two_of hO.two
    exact cget_ok w m a x cp B ao s0 s1 hS hO hI
  · unfold gst
    rw [if_neg hc]
    exact cget_err w m a k v r x h cp B ao l hm hx hS hc
end Go.Proofs.Ytpnbhddmdfcjdaa
