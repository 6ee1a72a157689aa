/- What Encode does. -/
import Derived.Test.YtpbpamhlenogoaaPBody
namespace Go.Proofs.Ytpbpamhlenogoaa
open Go.RowKit

instance (p : Pg) : Decidable p.inRange := by unfold Pg.inRange; exact inferInstance
instance (p : Pg) : Decidable p.fits := by unfold Pg.fits; exact inferInstance
/-- What Encode answers. -/
def Pg.out (p : Pg) : List UInt8 × Int := if p.inRange then (if p.fits then (p.enc, 0) else ([], 3)) else ([], 4)
theorem out_ok {p : Pg} (h1 : p.inRange) (h2 : p.fits) : p.out = (p.enc, 0) := by unfold Pg.out; rw [if_pos h1, if_pos h2]
theorem out_long {p : Pg} (h1 : p.inRange) (h2 : ¬ p.fits) : p.out = ([], 3) := by unfold Pg.out; rw [if_pos h1, if_neg h2]
theorem out_range {p : Pg} (h1 : ¬ p.inRange) : p.out = ([], 4) := by unfold Pg.out; rw [if_neg h1]

set_option maxRecDepth 100000 in
set_option maxHeartbeats 1600000 in
theorem pencode_any (w : World) (a k v r : Int) (h : ByteArray) (B cp : Nat) (ao : Option Addr) (l : List ByteArray) (hS : Strs w B ao l) (hh : h.size ≤ 140737488355328) (ha : a < 9223372036854775808) :
    Calls Try.prog 9 #[.agg #[.int .i64 a, .int .i64 k, .int .i64 v, .int .i64 r, .string h, .slice ao l.length cp]] w fun e w' => e = .returned (.tuple #[.string (str (Pg.out ⟨a, k, v, r, h, l⟩).1), .int .i64 (Pg.out ⟨a, k, v, r, h, l⟩).2]) ∧ Only (fun _ => False) w w' := by
  have HS := hide hS
  clear hS
  have HP := hide (Pag.new w (.int .i64 a) (.int .i64 k) (.int .i64 v) (.int .i64 r) (.string h) (.slice ao l.length cp))
  have HO0 := hide (onlyA w (.cells #[.int .i64 a, .int .i64 k, .int .i64 v, .int .i64 r, .string h, .slice ao l.length cp] 24))
  go_enter Try.func9, Try.ntmps9
  go_wp2_with fail
  refine (inRange_any _ a k v r h cp l.length ao).mono ?_
  rintro e w1 ⟨rfl, ho1⟩
  obtain ⟨p0, p1, p2, p3, p4, p5, _⟩ := HP.out.more ho1
  have HO1 := hide ho1
  clear ho1
  by_cases hr : Pg.inRange ⟨a, k, v, r, h, l⟩
  · have hd : decide (0 ≤ a ∧ 1 ≤ k ∧ k ≤ 3 ∧ 0 ≤ v ∧ v ≤ 255 ∧ 0 ≤ r ∧ r ≤ 4294967295) = true := decide_eq_true hr
    rw [hd]
    have HR := hide hr
    clear hr hd
    by_cases hf : Pg.fits ⟨a, k, v, r, h, l⟩
    · have HOUT := hide (out_ok HR.out hf)
      have HV : Hid (Pg.valid ⟨a, k, v, r, h, l⟩) := ⟨HR.out, hf, ha⟩
      have hh2 : ¬ (255 : Int) < (h.size : Int) := by have := hf.1; simp only at this; omega
      have hdl : decide (255 < l.length ∨ 512 < 20 + h.size + isz l) = false := decide_eq_false (by have h1 := hf.2.1; have h2 := hf.2.2; simp only [Pg.size] at h1 h2; omega)
      have HDL := hide hdl
      clear hf hdl
      go_wp2_with fail
      refine (tooLong_any _ a k v r h B cp ao l (HS.out.more (o2 HO0.out HO1.out)) hh).mono ?_
      rintro e w2 ⟨rfl, ho2⟩
      rw [HDL.out]
      clear p0 p1 p2 p3 p4 p5
      have HO2 := hide (o2 HO1.out ho2)
      obtain ⟨p0, p1, p2, p3, p4, p5, _⟩ := HP.out.more HO2.out
      clear ho2
      go_wp2_with fail
      refine (body_any _ a k v r h B cp ao l (HS.out.more (o2 HO0.out HO2.out)) HV.out).mono ?_
      rintro e w3 ⟨rfl, ho3⟩
      have HO3 := hide (o2 (o2 HO0.out HO2.out) ho3)
      clear p0 p1 p2 p3 p4 p5 ho3
      obtain ⟨bd, hbd⟩ : ∃ bd, Pg.body ⟨a, k, v, r, h, l⟩ = bd := ⟨_, rfl⟩
      have hbl := body_len _ HV.out.fit.2.2
      have henc : Pg.enc ⟨a, k, v, r, h, l⟩ = bigF 4 (sum bd).toNat ++ bd := by rw [← hbd]; rfl
      rw [hbd] at hbl ⊢
      have HENC := hide henc
      have hX : (str bd).size = 508 := hbl
      obtain ⟨X, hXe⟩ : ∃ X, str bd = X := ⟨_, rfl⟩
      rw [hXe] at hX ⊢
      have HX := hide hXe
      have HX8 := hide hX
      have hXle : X.size ≤ 508 := by omega
      have hsb := sum_bd bd
      have HSUM : Hid (sum X.data.toList = sum bd) := by unfold Hid; rw [← hXe]; rfl
      clear hbd henc hX hXe hbl
      go_wp2_with fail
      refine (sum_any X w3 (by unfold maxLen; omega)).mono ?_
      rw [HSUM.out]
      obtain ⟨z, hz⟩ : ∃ z, sum bd = z := ⟨_, rfl⟩
      rw [hz] at hsb ⊢
      rintro e w4 ⟨rfl, rfl⟩
      have hz0 := hsb.1
      have hz1 := hsb.2
      go_wp2_with fail
      refine (big_int z 4 w4 (by omega) (by omega) hz0 (by omega)).mono ?_
      rintro e w5 ⟨rfl, ho5⟩
      obtain ⟨Y, hYe⟩ : ∃ Y, str (bigF 4 z.toNat) = Y := ⟨_, rfl⟩
      have hYs : Y.size ≤ 4 := by rw [← hYe, str_size, bigF_len]; omega
      have HFIN : Hid (Y ++ X = str (Pg.enc ⟨a, k, v, r, h, l⟩)) := by unfold Hid; rw [HENC.out, hz, ← HX.out, ← hYe, str_cat]
      rw [hYe]
      have HO5 := hide (o2 HO3.out ho5)
      clear ho5 hYe
      have hXY : ¬ (9223372036854775807 : Int) < (Y.size : Int) + (X.size : Int) := by omega
      go_wp2_with fail
      go_ret2
      rw [HOUT.out, ← HFIN.out]
      exact ⟨rfl, HO5.out⟩
    · have HOUT := hide (out_long HR.out hf)
      by_cases hh2 : 255 < h.size
      · have hh3 : (255 : Int) < (h.size : Int) := by omega
        clear hf hh2
        go_wp2_with fail
        go_ret2
        rw [HOUT.out]
        exact ⟨rfl, o2 HO0.out HO1.out⟩
      · have hh3 : ¬ (255 : Int) < (h.size : Int) := by omega
        have hdl : decide (255 < l.length ∨ 512 < 20 + h.size + isz l) = true := decide_eq_true (by
          have h1 : ¬ (h.size ≤ 255 ∧ l.length ≤ 255 ∧ 20 + h.size + isz l ≤ 512) := hf
          omega)
        have HDL := hide hdl
        clear hf hdl hh2
        go_wp2_with fail
        refine (tooLong_any _ a k v r h B cp ao l (HS.out.more (o2 HO0.out HO1.out)) hh).mono ?_
        rintro e w2 ⟨rfl, ho2⟩
        rw [HDL.out]
        have HO2 := hide (o2 (o2 HO0.out HO1.out) ho2)
        clear ho2 p0 p1 p2 p3 p4 p5
        go_wp2_with fail
        go_ret2
        rw [HOUT.out]
        exact ⟨rfl, HO2.out⟩
  · have hd : decide (0 ≤ a ∧ 1 ≤ k ∧ k ≤ 3 ∧ 0 ≤ v ∧ v ≤ 255 ∧ 0 ≤ r ∧ r ≤ 4294967295) = false := decide_eq_false hr
    rw [hd]
    have HOUT := hide (out_range hr)
    clear hd hr
    go_wp2_with fail
    go_ret2
    rw [HOUT.out]
    exact ⟨rfl, o2 HO0.out HO1.out⟩
end Go.Proofs.Ytpbpamhlenogoaa
