/- Walk of PageBack. -/
import Derived.Test.YtiefdndhfeleiaaDoorPAwake
import Derived.Test.YtiefdndhfeleiaaDoorPOpen
import Derived.Deep.RegionHeld3
namespace Go.Proofs.YtiefdndhfeleiaaDoor
open Go.RowKit

theorem dec_cases (l : List UInt8) : (∃ q, dec l = (q, 0)) ∨ ∃ c, c ≠ 0 ∧ dec l = (.none, c) := by
  unfold dec
  split
  · exact .inr ⟨31, by decide, rfl⟩
  · split
    · exact .inr ⟨30, by decide, rfl⟩
    · split
      · rename_i p r _
        split
        · exact .inl ⟨p, rfl⟩
        · exact .inr ⟨31, by decide, rfl⟩
      · exact .inr ⟨31, by decide, rfl⟩
set_option maxRecDepth 100000 in
set_option maxHeartbeats 1600000 in
theorem fixed_any (w : World) (d : ByteArray) : Calls Tryd.prog 18 #[.string d, .bool true] w fun e w' => ∃ F, e = .returned (.string F) ∧ Only (fun _ => False) w w' := by
  by_cases h5 : d.size = 512
  · have h5' : ((d.size : Int) != 512) = false := by simp; omega
    have t4 : (4 : Int) ≤ (d.size : Int) := by omega
    obtain ⟨D, hD⟩ : ∃ D, d.extract 4 d.size = D := ⟨_, rfl⟩
    have sD : D.size = 508 := by rw [← bl_len, ← hD, ext_bl, List.length_drop, List.length_take, bl_len]; omega
    obtain ⟨z, hz⟩ : ∃ z, sum D.data.toList = z := ⟨_, rfl⟩
    have hzb := sum_bd D.data.toList
    rw [hz] at hzb
    obtain ⟨n, hn⟩ := Int.eq_ofNat_of_zero_le hzb.1
    have hn2 : n < 4294967296 := by omega
    obtain ⟨Y, hY⟩ : ∃ Y : ByteArray, (⟨(bigF 4 n).toArray⟩ : ByteArray) = Y := ⟨_, rfl⟩
    have hYs : Y.size ≤ 4 := by rw [← hY]; show (bigF 4 n).length ≤ 4; rw [bigF_len]; omega
    have H1 : Hid (∀ W, Calls Tryd.prog 35 #[.string D] W fun e w' => e = .returned (.int .u32 (n : Int)) ∧ w' = W) := fun W => by
      have h1 := refSum_any D W (by unfold maxLen; omega)
      rw [hz, hn] at h1
      exact h1
    have H2 : Hid (∀ W, Calls Tryd.prog 34 #[.int .i64 (n : Int), .int .i64 4] W fun e w' => e = .returned (.string Y) ∧ Only (fun _ => False) W w') := fun W => by
      have h1 := refBig_any n 4 W (by omega) (by omega) (by omega)
      rw [hY] at h1
      exact h1
    have hYD : ¬ (9223372036854775807 : Int) < (Y.size : Int) + (D.size : Int) := by omega
    have hwn : IntKind.i64.wrap (n : Int) = (n : Int) := wraps_i64 _ (by omega) (by omega)
    clear hz hzb hn hY h5 sD
    go_enter Tryd.func18, Tryd.ntmps18
    go_upto_region 3 with fail
    go_region_with (first
        | (go_at_call 35; refine (H1.out _).mono ?_; rintro e w1 ⟨rfl, rfl⟩)
        | (go_at_call 34; refine (H2.out _).mono ?_; rintro e w2 ⟨rfl, ho2⟩))
    all_goals go_wp2_with fail
    all_goals go_ret
    all_goals exact ⟨_, rfl, (Only.drew (fun _ => False) w).trans ho2 (fun _ _ h => h)⟩
  · have h5' : ((d.size : Int) != 512) = true := by simp; omega
    clear h5
    go_enter Tryd.func18, Tryd.ntmps18
    go_wp2_with fail
    go_ret
    exact ⟨_, rfl, Only.refl _ _⟩

set_option maxRecDepth 100000 in
set_option maxHeartbeats 1600000 in
theorem back_law (w : World) (a k v r : Int) (h : ByteArray) (B cp : Nat) (ao : Option Addr) (l : List ByteArray) (hS : Strs w B ao l) (hh : h.size ≤ 140737488355328) (ha : a < 9223372036854775808) (d : ByteArray) :
    Calls Tryd.prog 8 #[.agg #[.int .i64 a, .int .i64 k, .int .i64 v, .int .i64 r, .string h, .slice ao l.length cp], .string d] w fun e w' => e = .returned (.bool true) ∧ Only (fun _ => False) w w' := by
  have HS := hide hS
  have HP := hide (Pag.new w (.int .i64 a) (.int .i64 k) (.int .i64 v) (.int .i64 r) (.string h) (.slice ao l.length cp))
  have HO0 := hide (onlyA w (.cells #[.int .i64 a, .int .i64 k, .int .i64 v, .int .i64 r, .string h, .slice ao l.length cp] 24))
  obtain ⟨W0, hW0⟩ : ∃ W0, w.alloc (.cells #[.int .i64 a, .int .i64 k, .int .i64 v, .int .i64 r, .string h, .slice ao l.length cp] 24) = W0 := ⟨_, rfl⟩
  rw [hW0] at HP HO0
  have HW0 := hide hW0
  clear hW0 hS
  go_enter Tryd.func8, Tryd.ntmps8
  go_wp2_with fail
  rw [HW0.out]
  have he := pencode_any W0 a k v r h B cp ao l (HS.out.more HO0.out) hh ha
  refine Calls.mono he ?_
  clear he
  rintro e w1 ⟨rfl, ho1⟩
  have HO1 := hide (o2 HO0.out ho1)
  have HP1 := hide (HP.out.more ho1)
  have HS1 := hide (HS.out.more HO1.out)
  clear ho1
  by_cases hv : Pg.inRange ⟨a, k, v, r, h, l⟩ ∧ Pg.fits ⟨a, k, v, r, h, l⟩
  · have HV : Hid (Pg.valid ⟨a, k, v, r, h, l⟩) := ⟨hv.1, hv.2, ha⟩
    rw [out_ok hv.1 hv.2]
    obtain ⟨E, hE⟩ : ∃ E, str (Pg.enc ⟨a, k, v, r, h, l⟩) = E := ⟨_, rfl⟩
    have HDE : Hid (dec (bl E) = (⟨a, k, v, r, h, l⟩, 0)) := by unfold Hid; rw [← hE, bl_str]; exact dec_enc _ HV.out
    have hEs : ((E.size : Int) != 512) = false := by
      have h1 : E.size = 512 := by rw [← hE, str_size]; exact enc_len _ hv.2.2.2
      rw [h1]; rfl
    simp only [hE]
    clear hE hv
    go_wp2_with fail
    refine (pdecode_any w1 E).mono ?_
    rw [HDE.out]
    rintro e w2 ⟨B2, ao2, cp2, rfl, hS2, hF2, ho2, _⟩
    simp only at hS2 ⊢
    have HS2 := hide hS2
    have HO2 := hide (o2 HO1.out ho2)
    have HP2 := hide (HP1.out.more ho2)
    have HS12' := hide (HS1.out.more ho2)
    clear hS2 hF2 ho2 HDE
    go_upto_region 4 with fail
    obtain ⟨W2, hW2⟩ : ∃ W2, w2.alloc (.cells #[.int .i64 a, .int .i64 k, .int .i64 v, .int .i64 r, .string h, .slice ao2 l.length cp2] 24) = W2 := ⟨_, rfl⟩
    have HQ2 := hide (Pag.new w2 (.int .i64 a) (.int .i64 k) (.int .i64 v) (.int .i64 r) (.string h) (.slice ao2 l.length cp2))
    have HOB := hide (onlyA w2 (.cells #[.int .i64 a, .int .i64 k, .int .i64 v, .int .i64 r, .string h, .slice ao2 l.length cp2] 24))
    rw [hW2] at HQ2 HOB ⊢
    clear hW2
    obtain ⟨p0, p1, p2, p3, p4, p5, _⟩ := HP2.out.more HOB.out
    obtain ⟨q0, q1, q2, q3, q4, q5, _⟩ := HQ2.out
    go_wp2_with fail
    have hs := psame_any W2 a k v r a k v r h h B B2 cp cp2 ao ao2 l l (HS12'.out.more HOB.out) (HS2.out.more HOB.out)
    rw [show decide (a = a ∧ k = k ∧ v = v ∧ r = r ∧ h = h ∧ l = l) = true by simp] at hs
    refine Calls.mono hs ?_
    clear hs
    rintro e w3 ⟨rfl, ho3⟩
    have HO3 := hide (o2 (o2 HO2.out HOB.out) ho3)
    clear ho3 p0 p1 p2 p3 p4 p5 q0 q1 q2 q3 q4 q5
    go_wp2_with fail
    refine (fixed_any w3 d).mono ?_
    rintro e w11 ⟨F, rfl, ho11⟩
    have HO11 := hide (o2 HO3.out ho11)
    clear ho11
    go_wp2_with fail
    refine (pdecode_any w11 F).mono ?_
    rintro e w12 ⟨B12, ao12, cp12, rfl, hS12, hF12, ho12, _⟩
    rcases dec_cases (bl F) with hd | ⟨c, hc, hd⟩
    · obtain ⟨q, hq⟩ := hd
      rw [hq] at hS12 ⊢
      simp only at hS12 ⊢
      obtain ⟨hqv, hqe⟩ := dec_ok hq
      have HQO : Hid (q.out = (q.enc, 0)) := out_ok hqv.rng hqv.fit
      have HQF : Hid (str q.enc = F) := by unfold Hid; rw [hqe, str_bl]
      have hqh : q.high.size ≤ 140737488355328 := by have := hqv.fit.1; omega
      have hqa : q.lsn < 9223372036854775808 := hqv.lsn
      have HS12 := hide hS12
      have HO12 := hide (o2 HO11.out ho12)
      clear hqv hqe hq hS12 hF12 ho12
      go_upto_region 8 with fail
      obtain ⟨W12, hW12⟩ : ∃ W12, w12.alloc (.cells #[.int .i64 q.lsn, .int .i64 q.kind, .int .i64 q.level, .int .i64 q.right, .string q.high, .slice ao12 q.items.length cp12] 24) = W12 := ⟨_, rfl⟩
      have HP12 := hide (Pag.new w12 (.int .i64 q.lsn) (.int .i64 q.kind) (.int .i64 q.level) (.int .i64 q.right) (.string q.high) (.slice ao12 q.items.length cp12))
      have HOA := hide (onlyA w12 (.cells #[.int .i64 q.lsn, .int .i64 q.kind, .int .i64 q.level, .int .i64 q.right, .string q.high, .slice ao12 q.items.length cp12] 24))
      rw [hW12] at HP12 HOA ⊢
      clear hW12
      obtain ⟨c0, c1, c2, c3, c4, c5, _⟩ := HP12.out
      go_wp2_with fail
      have he := pencode_any W12 q.lsn q.kind q.level q.right q.high B12 cp12 ao12 q.items (HS12.out.more HOA.out) hqh hqa
      rw [show (⟨q.lsn, q.kind, q.level, q.right, q.high, q.items⟩ : Pg) = q from rfl, HQO.out] at he
      simp only [HQF.out] at he
      refine Calls.mono he ?_
      clear he
      rintro e w13 ⟨rfl, ho13⟩
      have HO13 := hide (o2 (o2 HO12.out HOA.out) ho13)
      clear ho13 c0 c1 c2 c3 c4 c5
      go_wp2_with fail
      refine (awake_any w13).mono ?_
      rintro e w14 ⟨rfl, ho14⟩
      have HO14 := hide (o2 HO13.out ho14)
      clear ho14
      go_wp2_with fail
      go_ret
      exact ⟨ret_bool (by simp), HO14.out⟩
    · rw [hd] at hS12 ⊢
      simp only [Pg.none, List.length_nil] at hS12 ⊢
      have HO12 := hide (o2 HO11.out ho12)
      have hc' : (c != 0) = true := by simpa using hc
      clear hd hS12 hF12 ho12 hc
      go_upto_region 8 with fail
      obtain ⟨W12, hW12⟩ : ∃ W12, w12.alloc (.cells #[.int .i64 0, .int .i64 0, .int .i64 0, .int .i64 0, .string ⟨#[]⟩, .slice ao12 0 cp12] 24) = W12 := ⟨_, rfl⟩
      have HP12 := hide (Pag.new w12 (.int .i64 0) (.int .i64 0) (.int .i64 0) (.int .i64 0) (.string ⟨#[]⟩) (.slice ao12 0 cp12))
      have HOA := hide (onlyA w12 (.cells #[.int .i64 0, .int .i64 0, .int .i64 0, .int .i64 0, .string ⟨#[]⟩, .slice ao12 0 cp12] 24))
      rw [hW12] at HP12 HOA ⊢
      clear hW12
      go_wp2_with fail
      refine (awake_any W12).mono ?_
      rintro e w13 ⟨rfl, ho13⟩
      obtain ⟨c0, c1, c2, c3, c4, c5, _⟩ := HP12.out.more ho13
      have HO13 := hide (o2 (o2 HO12.out HOA.out) ho13)
      clear ho13
      go_wp2_with fail
      have hs := psame_any w13 0 0 0 0 0 0 0 0 ⟨#[]⟩ ⟨#[]⟩ 0 0 cp12 0 ao12 none [] [] (Strs.nil _ _ _) (Strs.nil _ _ _)
      rw [show decide ((0 : Int) = 0 ∧ (0 : Int) = 0 ∧ (0 : Int) = 0 ∧ (0 : Int) = 0 ∧ (⟨#[]⟩ : ByteArray) = ⟨#[]⟩ ∧ ([] : List ByteArray) = []) = true by simp] at hs
      refine Calls.mono hs ?_
      clear hs
      rintro e w14 ⟨rfl, ho14⟩
      have HO14 := hide (o2 HO13.out ho14)
      clear ho14 c0 c1 c2 c3 c4 c5
      go_wp2_with fail
      go_ret
      exact ⟨rfl, HO14.out⟩
  · obtain ⟨c, hc0, hc⟩ : ∃ c, c ≠ 0 ∧ Pg.out ⟨a, k, v, r, h, l⟩ = ([], c) := by
      by_cases h1 : Pg.inRange ⟨a, k, v, r, h, l⟩
      · exact ⟨3, by decide, out_long h1 (fun h2 => hv ⟨h1, h2⟩)⟩
      · exact ⟨4, by decide, out_range h1⟩
    rw [hc]
    have hcb : (c == 0) = false := by simpa using hc0
    clear hc hv
    go_wp2_with fail
    refine (fixed_any w1 d).mono ?_
    rintro e w11 ⟨F, rfl, ho11⟩
    have HO11 := hide (o2 HO1.out ho11)
    clear ho11
    go_wp2_with fail
    refine (pdecode_any w11 F).mono ?_
    rintro e w12 ⟨B12, ao12, cp12, rfl, hS12, hF12, ho12, _⟩
    rcases dec_cases (bl F) with hd | ⟨c, hc, hd⟩
    · obtain ⟨q, hq⟩ := hd
      rw [hq] at hS12 ⊢
      simp only at hS12 ⊢
      obtain ⟨hqv, hqe⟩ := dec_ok hq
      have HQO : Hid (q.out = (q.enc, 0)) := out_ok hqv.rng hqv.fit
      have HQF : Hid (str q.enc = F) := by unfold Hid; rw [hqe, str_bl]
      have hqh : q.high.size ≤ 140737488355328 := by have := hqv.fit.1; omega
      have hqa : q.lsn < 9223372036854775808 := hqv.lsn
      have HS12 := hide hS12
      have HO12 := hide (o2 HO11.out ho12)
      clear hqv hqe hq hS12 hF12 ho12
      go_upto_region 8 with fail
      obtain ⟨W12, hW12⟩ : ∃ W12, w12.alloc (.cells #[.int .i64 q.lsn, .int .i64 q.kind, .int .i64 q.level, .int .i64 q.right, .string q.high, .slice ao12 q.items.length cp12] 24) = W12 := ⟨_, rfl⟩
      have HP12 := hide (Pag.new w12 (.int .i64 q.lsn) (.int .i64 q.kind) (.int .i64 q.level) (.int .i64 q.right) (.string q.high) (.slice ao12 q.items.length cp12))
      have HOA := hide (onlyA w12 (.cells #[.int .i64 q.lsn, .int .i64 q.kind, .int .i64 q.level, .int .i64 q.right, .string q.high, .slice ao12 q.items.length cp12] 24))
      rw [hW12] at HP12 HOA ⊢
      clear hW12
      obtain ⟨c0, c1, c2, c3, c4, c5, _⟩ := HP12.out
      go_wp2_with fail
      have he := pencode_any W12 q.lsn q.kind q.level q.right q.high B12 cp12 ao12 q.items (HS12.out.more HOA.out) hqh hqa
      rw [show (⟨q.lsn, q.kind, q.level, q.right, q.high, q.items⟩ : Pg) = q from rfl, HQO.out] at he
      simp only [HQF.out] at he
      refine Calls.mono he ?_
      clear he
      rintro e w13 ⟨rfl, ho13⟩
      have HO13 := hide (o2 (o2 HO12.out HOA.out) ho13)
      clear ho13 c0 c1 c2 c3 c4 c5
      go_wp2_with fail
      refine (awake_any w13).mono ?_
      rintro e w14 ⟨rfl, ho14⟩
      have HO14 := hide (o2 HO13.out ho14)
      clear ho14
      go_wp2_with fail
      go_ret
      exact ⟨ret_bool (by simp), HO14.out⟩
    · rw [hd] at hS12 ⊢
      simp only [Pg.none, List.length_nil] at hS12 ⊢
      have HO12 := hide (o2 HO11.out ho12)
      have hc' : (c != 0) = true := by simpa using hc
      clear hd hS12 hF12 ho12 hc
      go_upto_region 8 with fail
      obtain ⟨W12, hW12⟩ : ∃ W12, w12.alloc (.cells #[.int .i64 0, .int .i64 0, .int .i64 0, .int .i64 0, .string ⟨#[]⟩, .slice ao12 0 cp12] 24) = W12 := ⟨_, rfl⟩
      have HP12 := hide (Pag.new w12 (.int .i64 0) (.int .i64 0) (.int .i64 0) (.int .i64 0) (.string ⟨#[]⟩) (.slice ao12 0 cp12))
      have HOA := hide (onlyA w12 (.cells #[.int .i64 0, .int .i64 0, .int .i64 0, .int .i64 0, .string ⟨#[]⟩, .slice ao12 0 cp12] 24))
      rw [hW12] at HP12 HOA ⊢
      clear hW12
      go_wp2_with fail
      refine (awake_any W12).mono ?_
      rintro e w13 ⟨rfl, ho13⟩
      obtain ⟨c0, c1, c2, c3, c4, c5, _⟩ := HP12.out.more ho13
      have HO13 := hide (o2 (o2 HO12.out HOA.out) ho13)
      clear ho13
      go_wp2_with fail
      have hs := psame_any w13 0 0 0 0 0 0 0 0 ⟨#[]⟩ ⟨#[]⟩ 0 0 cp12 0 ao12 none [] [] (Strs.nil _ _ _) (Strs.nil _ _ _)
      rw [show decide ((0 : Int) = 0 ∧ (0 : Int) = 0 ∧ (0 : Int) = 0 ∧ (0 : Int) = 0 ∧ (⟨#[]⟩ : ByteArray) = ⟨#[]⟩ ∧ ([] : List ByteArray) = []) = true by simp] at hs
      refine Calls.mono hs ?_
      clear hs
      rintro e w14 ⟨rfl, ho14⟩
      have HO14 := hide (o2 HO13.out ho14)
      clear ho14 c0 c1 c2 c3 c4 c5
      go_wp2_with fail
      go_ret
      exact ⟨rfl, HO14.out⟩
end Go.Proofs.YtiefdndhfeleiaaDoor
