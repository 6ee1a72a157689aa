/- Parts. -/
import Derived.Test.YtpnbhddmdfcjdaaGreatK07
import Derived.Test.YtpnbhddmdfcjdaaGreatK08
import Derived.Laws.IdiomStrings
set_option maxRecDepth 100000
namespace Go.Proofs.YtpnbhddmdfcjdaaGreat
open Go.RowKit
theorem two_of {l : List ByteArray} (h : l.length = 2) : ∃ s t, l = [s, t] := by
  match l, h with
  | [s, t], _ => exact ⟨s, t, rfl⟩
theorem check_mod (w : World) (m a k v r : Int) (h : ByteArray) (cp n : Nat) (ao : Option Addr) (hm : I64 m) (hM : ¬ Md m) :
    Calls Tryz.prog 91 #[.int .i64 m, .agg #[.int .i64 a, .int .i64 k, .int .i64 v, .int .i64 r, .string h, .slice ao n cp]] w fun e w' => e = .returned (.int .i64 1) ∧ Only (fun _ => False) w w' := by
  have HM := hide (fun W => cisModulus_any m W hm)
  simp only [decide_eq_false hM] at HM
  clear hM
  have HO := hide (onlyA w (.cells #[.int .i64 a, .int .i64 k, .int .i64 v, .int .i64 r, .string h, .slice ao n cp] 30))
  go_enter Tryz.func91, Tryz.ntmps91
  go_wp2_with fail
  refine (HM.out _).mono ?_
  rintro e w1 ⟨rfl, hw⟩
  obtain rfl := hw.symm
  clear hw
  go_wp2_with fail
  go_ret
  exact ⟨rfl, HO.out⟩
theorem check_head (w : World) (m a k v r : Int) (h : ByteArray) (cp n : Nat) (ao : Option Addr) (hM : Md m) (hH : ¬ ((k = 1 ∧ 0 ≤ a ∧ v = 0 ∧ r = 0 ∧ h = ⟨#[]⟩) ∧ n = 2)) :
    Calls Tryz.prog 91 #[.int .i64 m, .agg #[.int .i64 a, .int .i64 k, .int .i64 v, .int .i64 r, .string h, .slice ao n cp]] w fun e w' => e = .returned (.int .i64 31) ∧ Only (fun _ => False) w w' := by
  have HM := hide (fun W => cisModulus_any m W ⟨by have := hM.1; omega, by have := hM.2.1; omega⟩)
  simp only [decide_eq_true hM] at HM
  clear hM
  have HI := hide (fun W => isHead_any W a k v r h cp n ao)
  have HO := hide (onlyA w (.cells #[.int .i64 a, .int .i64 k, .int .i64 v, .int .i64 r, .string h, .slice ao n cp] 30))
  have HP := hide (Pag.new w (.int .i64 a) (.int .i64 k) (.int .i64 v) (.int .i64 r) (.string h) (.slice ao n cp))
  by_cases hd : (k = 1 ∧ 0 ≤ a ∧ v = 0 ∧ r = 0 ∧ h = ⟨#[]⟩)
  · simp only [decide_eq_true hd] at HI
    have hn : ¬ (n : Int) = 2 := fun e => hH ⟨hd, by omega⟩
    clear hd hH
    go_enter Tryz.func91, Tryz.ntmps91
    go_wp2_with fail
    refine (HM.out _).mono ?_
    rintro e w1 ⟨rfl, hw⟩
    obtain rfl := hw.symm
    clear hw
    go_wp2_with fail
    refine (HI.out _).mono ?_
    rintro e w2 ⟨rfl, ho2⟩
    have c5 := (HP.out.more ho2).c5
    have HO2 := hide (o2 HO.out ho2)
    clear ho2
    go_wp2_with fail
    go_ret
    exact ⟨rfl, HO2.out⟩
  · simp only [decide_eq_false hd] at HI
    clear hd hH
    go_enter Tryz.func91, Tryz.ntmps91
    go_wp2_with fail
    refine (HM.out _).mono ?_
    rintro e w1 ⟨rfl, hw⟩
    obtain rfl := hw.symm
    clear hw
    go_wp2_with fail
    refine (HI.out _).mono ?_
    rintro e w2 ⟨rfl, ho2⟩
    have HO2 := hide (o2 HO.out ho2)
    clear ho2
    go_wp2_with fail
    go_ret
    exact ⟨rfl, HO2.out⟩
theorem check_two (w : World) (m a : Int) (cp B : Nat) (ao : Option Addr) (s0 s1 : ByteArray) (hM : Md m) (ha : 0 ≤ a) (hS : Strs w B ao [s0, s1]) :
    Calls Tryz.prog 91 #[.int .i64 m, .agg #[.int .i64 a, .int .i64 1, .int .i64 0, .int .i64 0, .string ⟨#[]⟩, .slice ao 2 cp]] w fun e w' => e = .returned (.int .i64 (if lim m s0 = 0 ∨ ¬ (s1.size = nb m ∧ topOk m s1) then 31 else 0)) ∧ Only (fun _ => False) w w' := by
  have HM := hide (fun W => cisModulus_any m W ⟨by have := hM.1; omega, by have := hM.2.1; omega⟩)
  simp only [decide_eq_true hM] at HM
  have HI : Hid (∀ W, Calls Tryz.prog 137 #[.agg #[.int .i64 a, .int .i64 1, .int .i64 0, .int .i64 0, .string ⟨#[]⟩, .slice ao 2 cp]] W fun e w' => e = .returned (.bool true) ∧ Only (fun _ => False) W w') := by
    intro W
    have q := isHead_any W a 1 0 0 ⟨#[]⟩ cp 2 ao
    rw [decide_eq_true (⟨rfl, ha, rfl, rfl, rfl⟩ : (1 : Int) = 1 ∧ 0 ≤ a ∧ (0 : Int) = 0 ∧ (0 : Int) = 0 ∧ (⟨#[]⟩ : ByteArray) = ⟨#[]⟩)] at q
    exact q
  have HL := hide (fun W => readLimit_any m s0 W (by have := hM.1; omega))
  have HA := hide (fun W => careStatuses_any m s1 W hM)
  have HO := hide (onlyA w (.cells #[.int .i64 a, .int .i64 1, .int .i64 0, .int .i64 0, .string ⟨#[]⟩, .slice ao 2 cp] 30))
  have HP := hide (Pag.new w (.int .i64 a) (.int .i64 1) (.int .i64 0) (.int .i64 0) (.string ⟨#[]⟩) (.slice ao 2 cp))
  have hlb := lim_bd (by have := hM.1; omega : 0 ≤ m) s0
  have hm2 := hM.2.1
  obtain ⟨o, rfl, hc⟩ := hS.at_ (by simp)
  have HS := hide hS
  have hB := hS.lt (by simp)
  have hc0 := hc 0 (by simp)
  have hc1 := hc 1 (by simp)
  simp only [List.getElem_cons_zero, List.getElem_cons_succ, Nat.add_zero] at hc0 hc1
  have HC0 := hide hc0
  have HC1 := hide hc1
  clear hS hc hc0 hc1 hM
  obtain ⟨L, hL⟩ : ∃ L, lim m s0 = L := ⟨_, rfl⟩
  obtain ⟨T, hT⟩ : ∃ T, decide (s1.size = nb m ∧ topOk m s1) = T := ⟨_, rfl⟩
  have HR : Hid ((if lim m s0 = 0 ∨ ¬ (s1.size = nb m ∧ topOk m s1) then (31 : Int) else 0) = if L = 0 ∨ T = false then 31 else 0) := by
    unfold Hid
    rw [hL]
    by_cases hq : s1.size = nb m ∧ topOk m s1
    · rw [decide_eq_true hq] at hT
      rw [← hT]
      simp [hq]
    · rw [decide_eq_false hq] at hT
      rw [← hT]
      simp [hq]
  rw [HR.out]
  simp only [hL] at HL hlb
  simp only [hT] at HA
  clear HR hL hT
  by_cases h0 : L = 0
  · rw [if_pos (.inl h0)]
    subst h0
    go_enter Tryz.func91, Tryz.ntmps91
    go_wp2_with fail
    refine (HM.out _).mono ?_
    rintro e w1 ⟨rfl, hw⟩
    obtain rfl := hw.symm
    clear hw
    go_wp2_with fail
    refine (HI.out _).mono ?_
    rintro e w2 ⟨rfl, ho2⟩
    have c5 := (HP.out.more ho2).c5
    have HO2 := hide (o2 HO.out ho2)
    have d0 := (HO2.out.cell (p := ⟨B, o, none⟩) hB (fun h => h)).trans HC0.out
    clear ho2
    go_wp2_with fail
    refine (HL.out _).mono ?_
    rintro e w3 ⟨rfl, ho3⟩
    have HO3 := hide (o2 HO2.out ho3)
    clear ho3
    go_wp2_with fail
    go_ret
    exact ⟨rfl, HO3.out⟩
  · have hne : (L == 0) = false := by simp [h0]
    cases T with
    | false =>
      rw [if_pos (.inr rfl)]
      go_enter Tryz.func91, Tryz.ntmps91
      go_wp2_with fail
      refine (HM.out _).mono ?_
      rintro e w1 ⟨rfl, hw⟩
      obtain rfl := hw.symm
      clear hw
      go_wp2_with fail
      refine (HI.out _).mono ?_
      rintro e w2 ⟨rfl, ho2⟩
      have c5 := (HP.out.more ho2).c5
      have HP2 := hide (HP.out.more ho2)
      have HO2 := hide (o2 HO.out ho2)
      have d0 := (HO2.out.cell (p := ⟨B, o, none⟩) hB (fun h => h)).trans HC0.out
      clear ho2
      go_wp2_with fail
      refine (HL.out _).mono ?_
      rintro e w3 ⟨rfl, ho3⟩
      clear c5 d0
      have c5 := (HP2.out.more ho3).c5
      have HO3 := hide (o2 HO2.out ho3)
      have d1 := (HO3.out.cell (p := ⟨B, o + 1, none⟩) hB (fun h => h)).trans HC1.out
      clear ho3
      go_wp2_with fail
      refine (HA.out _).mono ?_
      rintro e w4 ⟨rfl, hw⟩
      obtain rfl := hw.symm
      clear hw
      go_wp2_with fail
      go_ret
      exact ⟨rfl, HO3.out⟩
    | true =>
      rw [if_neg (fun h => h.elim h0 (fun e => by cases e))]
      go_enter Tryz.func91, Tryz.ntmps91
      go_wp2_with fail
      refine (HM.out _).mono ?_
      rintro e w1 ⟨rfl, hw⟩
      obtain rfl := hw.symm
      clear hw
      go_wp2_with fail
      refine (HI.out _).mono ?_
      rintro e w2 ⟨rfl, ho2⟩
      have c5 := (HP.out.more ho2).c5
      have HP2 := hide (HP.out.more ho2)
      have HO2 := hide (o2 HO.out ho2)
      have d0 := (HO2.out.cell (p := ⟨B, o, none⟩) hB (fun h => h)).trans HC0.out
      clear ho2
      go_wp2_with fail
      refine (HL.out _).mono ?_
      rintro e w3 ⟨rfl, ho3⟩
      clear c5 d0
      have c5 := (HP2.out.more ho3).c5
      have HO3 := hide (o2 HO2.out ho3)
      have d1 := (HO3.out.cell (p := ⟨B, o + 1, none⟩) hB (fun h => h)).trans HC1.out
      clear ho3
      go_wp2_with fail
      refine (HA.out _).mono ?_
      rintro e w4 ⟨rfl, hw⟩
      obtain rfl := hw.symm
      clear hw
      go_wp2_with fail
      go_ret
      exact ⟨rfl, HO3.out⟩
theorem ccheck_any (w : World) (m a k v r : Int) (h : ByteArray) (cp B : Nat) (ao : Option Addr) (l : List ByteArray) (hm : I64 m) (hS : Strs w B ao l) :
    Calls Tryz.prog 91 #[.int .i64 m, .agg #[.int .i64 a, .int .i64 k, .int .i64 v, .int .i64 r, .string h, .slice ao l.length cp]] w fun e w' => e = .returned (.int .i64 (chk m ⟨a, k, v, r, h, l⟩)) ∧ Only (fun _ => False) w w' := by
  by_cases hM : Md m
  · by_cases hH : (k = 1 ∧ 0 ≤ a ∧ v = 0 ∧ r = 0 ∧ h = ⟨#[]⟩) ∧ l.length = 2
    · obtain ⟨⟨rfl, ha, rfl, rfl, rfl⟩, hl⟩ := hH
      obtain ⟨s0, s1, rfl⟩ := two_of hl
      refine (check_two w m a cp B ao s0 s1 hM ha hS).mono ?_
      rintro e w' ⟨rfl, ho⟩
      refine ⟨ret_int ?_, ho⟩
      by_cases hq : lim m s0 = 0 ∨ ¬ (s1.size = nb m ∧ topOk m s1)
      · rw [if_pos hq, chk_bad hM]
        intro hk
        rcases hq with hq | hq
        · exact hk.lm hq
        · exact hq ⟨hk.size, hk.top⟩
      · rw [if_neg hq, chk_ok hM]
        simp only [not_or, Classical.not_not] at hq
        exact ⟨rfl, ha, rfl, rfl, rfl, rfl, hq.1, hq.2.1, hq.2.2⟩
    · rw [chk_bad hM (fun hk => hH ⟨⟨hk.kind, hk.lsn, hk.level, hk.right, hk.high⟩, hk.two⟩)]
      exact check_head w m a k v r h cp l.length ao hM hH
  · rw [chk_mod hM]
    exact check_mod w m a k v r h cp l.length ao hm hM
/-- What checkWithID answers. -/
noncomputable def cid (m : Int) (p : Pg) (x : Int) : Int := if chk m p = 0 then (if Idd m x then 0 else 1) else chk m p
theorem chk_bd (m : Int) (p : Pg) : chk m p = 0 ∨ chk m p = 1 ∨ chk m p = 31 := by
  unfold chk
  split
  · split
    · exact .inl rfl
    · exact .inr (.inr rfl)
  · exact .inr (.inl rfl)
theorem cid_bd (m : Int) (p : Pg) (x : Int) : cid m p x = 0 ∨ cid m p x = 1 ∨ cid m p x = 31 := by
  unfold cid
  split
  · split
    · exact .inl rfl
    · exact .inr (.inl rfl)
  · exact chk_bd m p
theorem chk_zero {m : Int} {p : Pg} (h : chk m p = 0) : Md m ∧ OkP m p := by
  by_cases hM : Md m
  · refine ⟨hM, Classical.byContradiction fun hk => ?_⟩
    rw [chk_bad hM hk] at h
    omega
  · rw [chk_mod hM] at h
    omega
theorem cid_zero {m x : Int} {p : Pg} (h : cid m p x = 0) : Idd m x ∧ OkP m p := by
  unfold cid at h
  split at h
  · rename_i h1
    split at h
    · rename_i h2
      exact ⟨h2, (chk_zero h1).2⟩
    · omega
  · rename_i h1
    exact absurd h h1
theorem cid_ok {m x : Int} {p : Pg} (h : Idd m x) (k : OkP m p) : cid m p x = 0 := by
  unfold cid
  rw [if_pos (chk_ok h.1 k), if_pos h]
theorem checkWithID_any (w : World) (m a k v r x : Int) (h : ByteArray) (cp B : Nat) (ao : Option Addr) (l : List ByteArray) (hm : I64 m) (hx : I64 x) (hS : Strs w B ao l) :
    Calls Tryz.prog 45 #[.int .i64 m, .agg #[.int .i64 a, .int .i64 k, .int .i64 v, .int .i64 r, .string h, .slice ao l.length cp], .int .i64 x] w fun e w' => e = .returned (.int .i64 (cid m ⟨a, k, v, r, h, l⟩ x)) ∧ Only (fun _ => False) w w' := by
  have HC := hide (fun W (ho : Only (fun _ => False) w W) => ccheck_any W m a k v r h cp B ao l hm (hS.more ho))
  have HI := hide (fun W => cisID_any m x W hm hx)
  have hcb := chk_bd m ⟨a, k, v, r, h, l⟩
  have HO := hide (onlyA w (.cells #[.int .i64 a, .int .i64 k, .int .i64 v, .int .i64 r, .string h, .slice ao l.length cp] 30))
  obtain ⟨C, hC⟩ : ∃ C, chk m ⟨a, k, v, r, h, l⟩ = C := ⟨_, rfl⟩
  obtain ⟨I, hI⟩ : ∃ I, decide (Idd m x) = I := ⟨_, rfl⟩
  have HR : Hid (cid m ⟨a, k, v, r, h, l⟩ x = if C = 0 then (if I = true then 0 else 1) else C) := by
    unfold Hid cid
    rw [hC, ← hI]
    simp
  rw [HR.out]
  simp only [hC] at HC hcb
  simp only [hI] at HI
  have hm1 := hm.1
  have hm2 := hm.2
  have hx1 := hx.1
  have hx2 := hx.2
  clear HR hC hI hm hx hS
  by_cases h0 : C = 0
  · rw [if_pos h0]
    subst h0
    clear hcb
    cases I
    all_goals
      go_enter Tryz.func45, Tryz.ntmps45
      go_wp2_with fail
      refine (HC.out _ HO.out).mono ?_
      rintro e w1 ⟨rfl, ho⟩
      have HO1 := hide (o2 HO.out ho)
      clear ho
      go_wp2_with fail
      refine (HI.out _).mono ?_
      rintro e w2 ⟨rfl, hw⟩
      obtain rfl := hw.symm
      clear hw
      go_wp2_with fail
      go_ret
      exact ⟨rfl, HO1.out⟩
  · rw [if_neg h0]
    have hne : (C != 0) = true := by simp [h0]
    clear h0
    go_enter Tryz.func45, Tryz.ntmps45
    go_wp2_with fail
    refine (HC.out _ HO.out).mono ?_
    rintro e w1 ⟨rfl, ho⟩
    have HO1 := hide (o2 HO.out ho)
    clear ho
    go_wp2_with fail
    go_ret
    exact ⟨rfl, HO1.out⟩
theorem and3 : ∀ n : Fin 256, bits BinOp.and IntKind.u8 (n.val : Int) 3 = ((n.val % 4 : Nat) : Int) := by
  decide +kernel
theorem st_and {n : Nat} (h : n < 256) (d k : Nat) (hd : d = 4 ^ k) : bits BinOp.and IntKind.u8 ((n : Int) / (d : Int)) 3 = (dig n k : Int) := by
  have hle : n / d ≤ n := Nat.div_le_self _ _
  have := and3 ⟨n / d, by omega⟩
  unfold dig
  rw [← hd, ← this]
  simp
theorem ret_st {a b : Int} (h : a = b) : Ending.returned (.tuple #[.int .u8 a, .int .i64 0]) = .returned (.tuple #[.int .u8 b, .int .i64 0]) := by rw [h]
/-- What Get answers. -/
noncomputable def gst (m : Int) (p : Pg) (x : Int) : Nat := if cid m p x = 0 then stAt (bl (it1 p)) (x - 1).toNat else 0
theorem cget_err (w : World) (m a k v r x : Int) (h : ByteArray) (cp B : Nat) (ao : Option Addr) (l : List ByteArray) (hm : I64 m) (hx : I64 x) (hS : Strs w B ao l) (hc : ¬ cid m ⟨a, k, v, r, h, l⟩ x = 0) :
    Calls Tryz.prog 147 #[.int .i64 m, .agg #[.int .i64 a, .int .i64 k, .int .i64 v, .int .i64 r, .string h, .slice ao l.length cp], .int .i64 x] w fun e w' => e = .returned (.tuple #[.int .u8 0, .int .i64 (cid m ⟨a, k, v, r, h, l⟩ x)]) ∧ Only (fun _ => False) w w' := by
  have HC := hide (fun W (ho : Only (fun _ => False) w W) => checkWithID_any W m a k v r x h cp B ao l hm hx (hS.more ho))
  have HO := hide (onlyA w (.cells #[.int .i64 a, .int .i64 k, .int .i64 v, .int .i64 r, .string h, .slice ao l.length cp] 30))
  have hcb := cid_bd m ⟨a, k, v, r, h, l⟩ x
  obtain ⟨C, hC⟩ : ∃ C, cid m ⟨a, k, v, r, h, l⟩ x = C := ⟨_, rfl⟩
  rw [hC] at hc hcb
  simp only [hC] at HC
  rw [hC]
  have hne : (C != 0) = true := by simp [hc]
  have hx1 := hx.1
  have hx2 := hx.2
  clear hC hc hm hx hS
  go_enter Tryz.func147, Tryz.ntmps147
  go_wp2_with fail
  refine (HC.out _ HO.out).mono ?_
  rintro e w1 ⟨rfl, ho⟩
  have HO1 := hide (o2 HO.out ho)
  clear ho
  go_wp2_with fail
  go_ret2
  exact ⟨rfl, HO1.out⟩
theorem byt_is {s : ByteArray} {q : Nat} (hq : q < s.size) : byt (bl s) q = (s[q]'hq).toNat := by
  unfold byt
  rw [List.getD_eq_getElem?_getD, List.getElem?_eq_getElem (by rw [bl_len]; exact hq)]
  rfl
theorem cget_ok (w : World) (m a x : Int) (cp B : Nat) (ao : Option Addr) (s0 s1 : ByteArray) (hS : Strs w B ao [s0, s1]) (hO : OkP m ⟨a, 1, 0, 0, ⟨#[]⟩, [s0, s1]⟩) (hI : Idd m x) :
    Calls Tryz.prog 147 #[.int .i64 m, .agg #[.int .i64 a, .int .i64 1, .int .i64 0, .int .i64 0, .string ⟨#[]⟩, .slice ao 2 cp], .int .i64 x] w fun e w' => e = .returned (.tuple #[.int .u8 (stAt (bl s1) (x - 1).toNat : Int), .int .i64 0]) ∧ Only (fun _ => False) w w' := by
  have hm : I64 m := ⟨by have := hI.1.1; omega, by have := hI.1.2.1; omega⟩
  have hx : I64 x := ⟨by have := hI.2; omega, by have := hI.2; have := hI.1.2.1; omega⟩
  have HC := hide (fun W (ho : Only (fun _ => False) w W) => checkWithID_any W m a 1 0 0 x ⟨#[]⟩ cp B ao [s0, s1] hm hx (hS.more ho))
  simp only [cid_ok hI hO] at HC
  have HO := hide (onlyA w (.cells #[.int .i64 a, .int .i64 1, .int .i64 0, .int .i64 0, .string ⟨#[]⟩, .slice ao 2 cp] 30))
  have HPL := hide (fun W => cplace_any x W hI.2.1 (by have := hI.2; have := hI.1.2.1; omega))
  have HP := hide (Pag.new w (.int .i64 a) (.int .i64 1) (.int .i64 0) (.int .i64 0) (.string ⟨#[]⟩) (.slice ao 2 cp))
  have hq : (x - 1).toNat / 4 < s1.size := by have := at_lt hI hO.size; rw [bl_len] at this; exact this
  obtain ⟨R, hR⟩ : ∃ R, stAt (bl s1) (x - 1).toNat = R := ⟨_, rfl⟩
  have HV : Hid (R = dig (byt (bl s1) ((x - 1).toNat / 4)) ((x - 1).toNat % 4)) := hR.symm
  rw [hR]
  clear hR
  obtain ⟨o, rfl, hc⟩ := hS.at_ (by simp)
  have hB := hS.lt (by simp)
  have hc1 := hc 1 (by simp)
  simp only [List.getElem_cons_zero, List.getElem_cons_succ] at hc1
  have HC1 := hide hc1
  have hk4 : (x - 1).toNat % 4 < 4 := by omega
  obtain ⟨q, hqq⟩ : ∃ q, (x - 1).toNat / 4 = q := ⟨_, rfl⟩
  obtain ⟨k, hkk⟩ : ∃ k, (x - 1).toNat % 4 = k := ⟨_, rfl⟩
  simp only [hqq, hkk] at HPL hk4 HV
  rw [hqq] at hq
  have hqs : (q : Int) < (s1.size : Int) := by omega
  rw [byt_is hq] at HV
  have hx1 := hx.1
  have hx2 := hx.2
  have hb := UInt8.toNat_lt (s1[q]'hq)
  clear hkk hqq hc hc1 hS hO hI hm hx
  simp only [List.length_cons, List.length_nil, Nat.zero_add, Nat.reduceAdd] at HC
  rcases k4 hk4 with rfl | rfl | rfl | rfl
  · go_enter Tryz.func147, Tryz.ntmps147
    go_wp2_with fail
    refine (HC.out _ HO.out).mono ?_
    rintro e w1 ⟨rfl, ho⟩
    have HO1 := hide (o2 HO.out ho)
    have c5 := (HP.out.more ho).c5
    have d1 := (HO1.out.cell (p := ⟨B, o + 1, none⟩) hB (fun h => h)).trans HC1.out
    clear ho
    go_wp2_with fail
    refine (HPL.out _).mono ?_
    rintro e w2 ⟨rfl, hw⟩
    obtain rfl := hw.symm
    clear hw
    go_wp2_with fail
    go_ret2
    refine ⟨ret_st ?_, HO1.out⟩
    have hv := st_and hb 1 0 rfl
    rw [HV.out]
    simpa using hv
  · go_enter Tryz.func147, Tryz.ntmps147
    go_wp2_with fail
    refine (HC.out _ HO.out).mono ?_
    rintro e w1 ⟨rfl, ho⟩
    have HO1 := hide (o2 HO.out ho)
    have c5 := (HP.out.more ho).c5
    have d1 := (HO1.out.cell (p := ⟨B, o + 1, none⟩) hB (fun h => h)).trans HC1.out
    clear ho
    go_wp2_with fail
    refine (HPL.out _).mono ?_
    rintro e w2 ⟨rfl, hw⟩
    obtain rfl := hw.symm
    clear hw
    go_wp2_with fail
    go_ret2
    refine ⟨ret_st ?_, HO1.out⟩
    have hv := st_and hb 4 1 rfl
    rw [HV.out]
    simpa using hv
  · go_enter Tryz.func147, Tryz.ntmps147
    go_wp2_with fail
    refine (HC.out _ HO.out).mono ?_
    rintro e w1 ⟨rfl, ho⟩
    have HO1 := hide (o2 HO.out ho)
    have c5 := (HP.out.more ho).c5
    have d1 := (HO1.out.cell (p := ⟨B, o + 1, none⟩) hB (fun h => h)).trans HC1.out
    clear ho
    go_wp2_with fail
    refine (HPL.out _).mono ?_
    rintro e w2 ⟨rfl, hw⟩
    obtain rfl := hw.symm
    clear hw
    go_wp2_with fail
    go_ret2
    refine ⟨ret_st ?_, HO1.out⟩
    have hv := st_and hb 16 2 rfl
    rw [HV.out]
    simpa using hv
  · go_enter Tryz.func147, Tryz.ntmps147
    go_wp2_with fail
    refine (HC.out _ HO.out).mono ?_
    rintro e w1 ⟨rfl, ho⟩
    have HO1 := hide (o2 HO.out ho)
    have c5 := (HP.out.more ho).c5
    have d1 := (HO1.out.cell (p := ⟨B, o + 1, none⟩) hB (fun h => h)).trans HC1.out
    clear ho
    go_wp2_with fail
    refine (HPL.out _).mono ?_
    rintro e w2 ⟨rfl, hw⟩
    obtain rfl := hw.symm
    clear hw
    go_wp2_with fail
    go_ret2
    refine ⟨ret_st ?_, HO1.out⟩
    have hv := st_and hb 64 3 rfl
    rw [HV.out]
    simpa using hv
theorem cget_any (w : World) (m a k v r x : Int) (h : ByteArray) (cp B : Nat) (ao : Option Addr) (l : List ByteArray) (hm : I64 m) (hx : I64 x) (hS : Strs w B ao l) :
    Calls Tryz.prog 147 #[.int .i64 m, .agg #[.int .i64 a, .int .i64 k, .int .i64 v, .int .i64 r, .string h, .slice ao l.length cp], .int .i64 x] w fun e w' => e = .returned (.tuple #[.int .u8 (gst m ⟨a, k, v, r, h, l⟩ x : Int), .int .i64 (cid m ⟨a, k, v, r, h, l⟩ x)]) ∧ Only (fun _ => False) w w' := by
  by_cases hc : cid m ⟨a, k, v, r, h, l⟩ x = 0
  · obtain ⟨hI, hO⟩ := cid_zero hc
    unfold gst
    rw [if_pos hc, hc]
    clear hc
    have h1 := hO.kind
    have h2 := hO.level
    have h3 := hO.right
    have h4 := hO.high
    simp only at h1 h2 h3 h4
    subst h1 h2 h3 h4
    obtain ⟨s0, s1, rfl⟩ := two_of hO.two
    exact cget_ok w m a x cp B ao s0 s1 hS hO hI
  · unfold gst
    rw [if_neg hc]
    exact cget_err w m a k v r x h cp B ao l hm hx hS hc
theorem bytes_made (w : World) (s : ByteArray) : ∃ (W1 : World) (cap : Nat), (convert 9 100 (.string s)).run Tryz.prog w = .ok (.slice (some ⟨w.heap.size, 0, none⟩) s.size cap) W1 ∧ Byt W1 w.heap.size (bl s) ∧ Only (fun _ => False) w W1 := by
  refine ⟨_, _, run_bytes_of_string (P := Tryz.prog) w 9 100 5 s Tryz.underlying9 Tryz.underlying100 Tryz.underlying5, ⟨?_, ?_, ?_⟩, ?_⟩
  · intro j hj
    rw [bl_len] at hj
    generalize grownCap w s.size 0 5 = cap
    have hb : (w.drew.alloc (.cells (bytesRow s cap) 5 ((bytesRow s cap).size, (bytesRow s cap).size + 1))).heap[w.heap.size]? = some (.cells (bytesRow s cap) 5 ((bytesRow s cap).size, (bytesRow s cap).size + 1)) := heap_alloc_new w.drew _
    rw [cell_of_row _ w.heap.size j (bytesRow s cap) 5 _ hb]
    unfold bytesRow
    rw [Array.getElem?_append_left (by simpa using hj)]
    have hj' : j < s.data.size := hj
    simp [Array.getElem?_map, Array.getElem?_eq_getElem hj']
  · intro j hj
    rw [bl_len] at hj
    generalize hcap : grownCap w s.size 0 5 = cap
    have hb : (w.drew.alloc (.cells (bytesRow s cap) 5 ((bytesRow s cap).size, (bytesRow s cap).size + 1))).heap[w.heap.size]? = some (.cells (bytesRow s cap) 5 ((bytesRow s cap).size, (bytesRow s cap).size + 1)) := heap_alloc_new w.drew _
    have hl : s.size ≤ (bytesRow s cap).size := by unfold bytesRow; rw [Array.size_append, Array.size_map]; exact Nat.le_add_right _ _
    unfold World.frozen?
    rw [hb]
    simp
    omega
  · simp
  · exact (Only.drew _ w).trans (Only.alloc _ _ _) (fun _ _ h => h) (T := fun _ => False)
theorem Byt.back {w : World} {g cp : Nat} {l : List UInt8} (h : Byt w g l) : (convert 100 9 (.slice (some ⟨g, 0, none⟩) l.length cp)).run Tryz.prog w = .ok (.string (str l)) w := by
  refine run_convert_bytes_back w 100 9 5 ⟨g, 0, none⟩ cp l Tryz.underlying100 Tryz.underlying5 Tryz.underlying9 (fun j hj => ?_)
  rw [add_at, Nat.zero_add]
  exact h.c j hj
/-- An answer stored into its cell. -/
theorem res_end {w w6 : World} {b B cp : Nat} {ao : Option Addr} (hb : w.heap.size ≤ b) (p : Pg) (hS : Strs w6 B ao p.items) (hF : Fit ao p.items.length cp) (ho : Only (fun _ => False) w w6) (hB : 0 < p.items.length → b < B) (c : Int) (v0 v1 v2 v3 v4 v5 : Value) :
    Res w ((((((w6.setCell ⟨b, 0, none⟩ v0).setCell ⟨b, 1, none⟩ v1).setCell ⟨b, 2, none⟩ v2).setCell ⟨b, 3, none⟩ v3).setCell ⟨b, 4, none⟩ v4).setCell ⟨b, 5, none⟩ v5)
      (.returned (.tuple #[.agg #[.int .i64 p.lsn, .int .i64 p.kind, .int .i64 p.level, .int .i64 p.right, .string p.high, .slice ao p.items.length cp], .int .i64 c])) p c := by
  have h6 := Only.six w6 b v0 v1 v2 v3 v4 v5
  exact ⟨B, ao, cp, rfl, hS.kept h6 (fun h e => by have := hB h; omega), hF, ho.trans h6 (fun i hi e => by omega), fun h => by have := hB h; omega⟩
theorem res_none {w w6 : World} {b : Nat} (hb : w.heap.size ≤ b) (ho : Only (fun _ => False) w w6) (c : Int) (v0 v1 v2 v3 v4 v5 : Value) :
    Res w ((((((w6.setCell ⟨b, 0, none⟩ v0).setCell ⟨b, 1, none⟩ v1).setCell ⟨b, 2, none⟩ v2).setCell ⟨b, 3, none⟩ v3).setCell ⟨b, 4, none⟩ v4).setCell ⟨b, 5, none⟩ v5)
      (.returned (.tuple #[.agg #[.int .i64 0, .int .i64 0, .int .i64 0, .int .i64 0, .string ⟨#[]⟩, .slice none 0 0], .int .i64 c])) .none c :=
  Res.none c (ho.trans (Only.six w6 b v0 v1 v2 v3 v4 v5) (fun i hi e => by omega))
/-- What Set answers. -/
noncomputable def setC (m : Int) (p : Pg) (x : Int) (v : Nat) : Int := if cid m p x = 0 then (if v ≤ 3 then 0 else 1) else cid m p x
noncomputable def setR (m : Int) (p : Pg) (x : Int) (v : Nat) : Pg := if setC m p x v = 0 then setP p x v else .none
set_option maxRecDepth 100000 in
set_option maxHeartbeats 800000 in
theorem cset_err (w : World) (m a k v r x : Int) (h : ByteArray) (cp B : Nat) (ao : Option Addr) (l : List ByteArray) (s : Nat) (hm : I64 m) (hx : I64 x) (hS : Strs w B ao l) (hs : s < 256) (hc : ¬ setC m ⟨a, k, v, r, h, l⟩ x s = 0) :
    Calls Tryz.prog 18 #[.int .i64 m, .agg #[.int .i64 a, .int .i64 k, .int .i64 v, .int .i64 r, .string h, .slice ao l.length cp], .int .i64 x, .int .u8 (s : Int)] w fun e w' => Res w w' e .none (setC m ⟨a, k, v, r, h, l⟩ x s) := by
  have HC := hide (fun W (ho : Only (fun _ => False) w W) => checkWithID_any W m a k v r x h cp B ao l hm hx (hS.more ho))
  have HO := hide (boxes_only w a k v r h (.slice ao l.length cp))
  have HP := hide (boxes_two w a k v r h (.slice ao l.length cp))
  unfold boxes at HO HP
  have hcb := cid_bd m ⟨a, k, v, r, h, l⟩ x
  obtain ⟨C, hC⟩ : ∃ C, cid m ⟨a, k, v, r, h, l⟩ x = C := ⟨_, rfl⟩
  have HR : Hid (setC m ⟨a, k, v, r, h, l⟩ x s = if C = 0 then (if s ≤ 3 then 0 else 1) else C) := by unfold Hid setC; rw [hC]
  rw [HR.out] at hc
  rw [HR.out]
  rw [hC] at hcb
  simp only [hC] at HC
  have hx1 := hx.1
  have hx2 := hx.2
  clear hC HR hm hx hS
  by_cases h0 : C = 0
  · rw [if_pos h0] at hc
    rw [if_pos h0]
    have h3 : ¬ s ≤ 3 := by intro h; rw [if_pos h] at hc; exact hc rfl
    rw [if_neg h3]
    have hs3 : (3 : Int) < (s : Int) := by omega
    subst h0
    clear hcb hc h3
    go_enter Tryz.func18, Tryz.ntmps18
    go_wp2_with fail
    refine (HC.out _ HO.out).mono ?_
    rintro e w1 ⟨rfl, ho⟩
    have HO1 := hide (o2 HO.out ho)
    have HP1 := hide (HP.out.more ho)
    obtain ⟨q0, q1, q2, q3, q4, q5, t0, t1, t2, t3, t4, t5, tl⟩ := HP.out.more ho
    clear ho
    go_wp2_with fail
    refine bodyPost_ret (results_page rfl rfl (Pag.six HP1.out _ _ _ _ _ _)) rfl ?_
    exact res_none (by omega) HO1.out 1 _ _ _ _ _ _
  · rw [if_neg h0]
    have hne : (C != 0) = true := by simp [h0]
    clear h0 hc
    go_enter Tryz.func18, Tryz.ntmps18
    go_wp2_with fail
    refine (HC.out _ HO.out).mono ?_
    rintro e w1 ⟨rfl, ho⟩
    have HO1 := hide (o2 HO.out ho)
    have HP1 := hide (HP.out.more ho)
    obtain ⟨q0, q1, q2, q3, q4, q5, t0, t1, t2, t3, t4, t5, tl⟩ := HP.out.more ho
    clear ho
    go_wp2_with fail
    refine bodyPost_ret (results_page rfl rfl (Pag.six HP1.out _ _ _ _ _ _)) rfl ?_
    exact res_none (by omega) HO1.out C _ _ _ _ _ _
set_option maxRecDepth 100000 in
set_option maxHeartbeats 800000 in
theorem cset_ok (w : World) (m a x : Int) (cp B : Nat) (ao : Option Addr) (s0 s1 : ByteArray) (s : Nat) (hS : Strs w B ao [s0, s1]) (hO : OkP m ⟨a, 1, 0, 0, ⟨#[]⟩, [s0, s1]⟩) (hI : Idd m x) (hs : s < 4) :
    Calls Tryz.prog 18 #[.int .i64 m, .agg #[.int .i64 a, .int .i64 1, .int .i64 0, .int .i64 0, .string ⟨#[]⟩, .slice ao 2 cp], .int .i64 x, .int .u8 (s : Int)] w fun e w' => Res w w' e ⟨a, 1, 0, 0, ⟨#[]⟩, [s0, str (stSet (bl s1) (x - 1).toNat s)]⟩ 0 := by
  have hm : I64 m := ⟨by have := hI.1.1; omega, by have := hI.1.2.1; omega⟩
  have hx : I64 x := ⟨by have := hI.2; omega, by have := hI.2; have := hI.1.2.1; omega⟩
  have HC := hide (fun W (ho : Only (fun _ => False) w W) => checkWithID_any W m a 1 0 0 x ⟨#[]⟩ cp B ao [s0, s1] hm hx (hS.more ho))
  simp only [cid_ok hI hO] at HC
  have HO := hide (boxes_only w a 1 0 0 ⟨#[]⟩ (.slice ao 2 cp))
  have HP := hide (boxes_two w a 1 0 0 ⟨#[]⟩ (.slice ao 2 cp))
  have HQ := hide (boxes_one w a 1 0 0 ⟨#[]⟩ (.slice ao 2 cp))
  unfold boxes at HO HP HQ
  have hq := at_lt hI hO.size
  have hsz : s1.size = nb m := hO.size
  have hnb := nb_bd hI.1
  have HLY := hide (fun (W : World) (g cap : Nat) (hB : Byt W g (bl s1)) => clay_any W g cap (bl s1) x s hB hI.2.1 (by have := hI.2; have := hI.1.2.1; omega) hq hs)
  obtain ⟨T, hT⟩ : ∃ T, stSet (bl s1) (x - 1).toNat s = T := ⟨_, rfl⟩
  have hTl : T.length = s1.size := by rw [← hT, stSet_len, bl_len]
  rw [hT]
  simp only [hT] at HLY
  have HTL := hide hTl
  have hs0 : s0.size ≤ 10 := by
    have hc := lim_canon hO.lm
    have : s0 = str (sev (lim m s0).toNat) := hc
    rw [this, str_size]
    exact sevF_len 9 _
  have HFIT : Hid (¬ (255 < ([s0, s1].set 1 (str T)).length ∨ 512 < 20 + (⟨#[]⟩ : ByteArray).size + isz ([s0, s1].set 1 (str T)))) := by
    unfold Hid
    have e : [s0, s1].set 1 (str T) = [s0, str T] := rfl
    have e0 : (⟨#[]⟩ : ByteArray).size = 0 := rfl
    rw [e, isz_cons, isz_cons, isz_nil, str_size, e0]
    simp only [List.length_cons, List.length_nil]
    omega
  have HW := hide (fun (W : World) (ho : Only (fun _ => False) w W) => with_some W a 1 0 0 ⟨#[]⟩ B cp ao [s0, s1] 1 (str T) (hS.more ho) (Nat.zero_le _) (by rw [str_size]; omega) (by simp))
  obtain ⟨o, rfl, hc⟩ := hS.at_ (by simp)
  have hB := hS.lt (by simp)
  have hc1 := hc 1 (by simp)
  simp only [List.getElem_cons_zero, List.getElem_cons_succ] at hc1
  have HC1 := hide hc1
  have hx1 := hx.1
  have hx2 := hx.2
  clear hc hc1 hS hO hI hm hx hT hTl hnb hsz hq hs0
  simp only [List.length_cons, List.length_nil, Nat.zero_add, Nat.reduceAdd] at HC HW
  go_enter Tryz.func18, Tryz.ntmps18
  go_wp2_with fail
  refine (HC.out _ HO.out).mono ?_
  rintro e w1 ⟨rfl, ho⟩
  have HO1 := hide (o2 HO.out ho)
  have HP1 := hide (HP.out.more ho)
  have HQ1 := hide (HQ.out.more ho)
  have c5 := HQ1.out.c5
  have d1 := (HO1.out.cell (p := ⟨B, o + 1, none⟩) hB (fun h => h)).trans HC1.out
  clear ho
  obtain ⟨w2, cap, hcv, hby, ho2⟩ := bytes_made w1 s1
  obtain ⟨g, hg⟩ : ∃ g, w1.heap.size = g := ⟨_, rfl⟩
  rw [hg] at hcv hby
  have HBY := hide hby
  have HG := hide hg
  have HO2 := hide (o2 HO1.out ho2)
  have HP2 := hide (HP1.out.more ho2)
  have HQ2 := hide (HQ1.out.more ho2)
  have HW1 := hide HP1.out.lt
  clear hby hg ho2
  go_wp2_with fail
  have q := HLY.out w2 g cap HBY.out
  rw [bl_len] at q
  refine q.mono ?_
  clear q
  rintro e w3 ⟨rfl, hby3, ho3⟩
  have HBY3 := hide hby3
  have HO3 : Hid (Only (fun _ => False) w w3) := HO2.out.trans ho3 (fun i hi e => by have := HG.out; have := HO1.out.size; omega)
  have HP3 : Hid (Pag w3 (w.heap.size + 1) (.int .i64 0) (.int .i64 0) (.int .i64 0) (.int .i64 0) (.string ⟨#[]⟩) (.slice none 0 0)) := HP2.out.kept ho3 (by have := HG.out; have := HW1.out; omega)
  have HQ3 : Hid (Pag w3 w.heap.size (.int .i64 a) (.int .i64 1) (.int .i64 0) (.int .i64 0) (.string ⟨#[]⟩) (.slice (some ⟨B, o, none⟩) 2 cp)) := HQ2.out.kept ho3 (by have := HG.out; have := HW1.out; omega)
  clear hby3 ho3 c5 d1 hcv
  have hcb := HBY3.out.back (cp := cap)
  rw [HTL.out] at hcb
  obtain ⟨r0, r1, r2, r3, r4, r5, _, _, _, _, _, _, _⟩ := HQ3.out
  go_wp2_with fail
  refine (HW.out w3 HO3.out).mono ?_
  rintro e w4 H4
  obtain ⟨B4, ao4, cp4, rfl, hS4, hF4, ho4, hB4⟩ := H4.2 HFIT.out
  have HS4 := hide hS4
  have HF4 := hide hF4
  have HB4 : Hid (w.heap.size + 1 < B4) := by
    have := hB4 (by simp)
    have := HP3.out.lt
    unfold Hid
    omega
  have HO4 := hide (o2 HO3.out ho4)
  have HP4 := hide (HP3.out.more ho4)
  clear hS4 hF4 hB4 ho4 H4 hcb r0 r1 r2 r3 r4 r5
  obtain ⟨q0, q1, q2, q3, q4, q5, t0, t1, t2, t3, t4, t5, tl⟩ := HP4.out
  simp only [List.set_cons_succ, List.set_cons_zero, List.length_cons, List.length_nil, Nat.zero_add, Nat.reduceAdd] at HS4 HF4 ⊢
  go_wp2_with fail
  refine bodyPost_ret (results_page rfl rfl (Pag.six HP4.out _ _ _ _ _ _)) rfl ?_
  exact res_end (by omega) ⟨a, 1, 0, 0, ⟨#[]⟩, [s0, str T]⟩ HS4.out HF4.out HO4.out (fun _ => HB4.out) 0 _ _ _ _ _ _
theorem cset_any (w : World) (m a k v r x : Int) (h : ByteArray) (cp B : Nat) (ao : Option Addr) (l : List ByteArray) (s : Nat) (hm : I64 m) (hx : I64 x) (hS : Strs w B ao l) (hs : s < 256) :
    Calls Tryz.prog 18 #[.int .i64 m, .agg #[.int .i64 a, .int .i64 k, .int .i64 v, .int .i64 r, .string h, .slice ao l.length cp], .int .i64 x, .int .u8 (s : Int)] w fun e w' => Res w w' e (setR m ⟨a, k, v, r, h, l⟩ x s) (setC m ⟨a, k, v, r, h, l⟩ x s) := by
  by_cases hc : setC m ⟨a, k, v, r, h, l⟩ x s = 0
  · have h4 : s < 4 ∧ cid m ⟨a, k, v, r, h, l⟩ x = 0 := by
      unfold setC at hc
      split at hc
      · rename_i h1
        split at hc
        · exact ⟨by omega, h1⟩
        · omega
      · rename_i h1
        exact absurd hc h1
    obtain ⟨hI, hO⟩ := cid_zero h4.2
    unfold setR
    rw [if_pos hc, hc]
    clear hc
    have h1 := hO.kind
    have h2 := hO.level
    have h3 := hO.right
    have h4' := hO.high
    simp only at h1 h2 h3 h4'
    subst h1 h2 h3 h4'
    obtain ⟨s0, s1, rfl⟩ := two_of hO.two
    exact cset_ok w m a x cp B ao s0 s1 s hS hO hI h4.1
  · unfold setR
    rw [if_neg hc]
    exact cset_err w m a k v r x h cp B ao l s hm hx hS hs hc
end Go.Proofs.YtpnbhddmdfcjdaaGreat
