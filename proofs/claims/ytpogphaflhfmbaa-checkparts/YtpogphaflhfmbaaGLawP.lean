/- The law of CheckParts. -/
import Derived.Test.YtpogphaflhfmbaaGAwake
namespace Go.Proofs.Ytpogphaflhfmbaa
open Go.RowKit

set_option maxRecDepth 100000 in
set_option maxHeartbeats 3200000 in
theorem parts_no (w : World) (f m l p : Int) (h : ¬ Snd f m l p) : Calls Try.prog 6 #[.agg #[.int .i64 f, .int .i64 m, .int .i64 l, .int .i64 p]] w fun e w' => e = .returned (.bool true) ∧ Only (fun _ => False) w w' := by
  have HL : Hid (∀ W, Calls Try.prog 9 #[.agg #[.int .i64 f, .int .i64 m, .int .i64 l, .int .i64 p]] W fun e w' => e = .returned (.tuple #[.agg #[.int .i64 0, .int .i64 0, .int .i64 0], .int .i64 1]) ∧ Only (fun _ => False) W w') := fun W => by
    have g := layout_any f m l p W
    rw [show outL f m l p = .tuple #[layV 0 0 0, .int .i64 1] from if_neg h] at g
    exact g
  have HS := hide (fun W => sound_any f m l p W)
  simp only [decide_eq_false h] at HS
  have HW : Hid (∀ W, Calls Try.prog 15 #[] W fun e w' => e = .returned (.bool true) ∧ Only (fun _ => False) W w') := fun W => chawake_any W
  have HC0 := hide (Cf.new w f m l p)
  have HO := hide (onlyA w (.cells #[.int .i64 f, .int .i64 m, .int .i64 l, .int .i64 p] 23))
  have HQ : ∀ W, (binOp .eql 31 (.agg #[.int .i64 0, .int .i64 0, .int .i64 0]) (.agg #[.int .i64 0, .int .i64 0, .int .i64 0])).run Try.prog W = .ok (.bool true) W := fun W => layR_eq 0 0 0 0 0 0 rfl rfl rfl W
  clear h
  obtain ⟨W0, hW0⟩ : ∃ x, w.alloc (.cells #[.int .i64 f, .int .i64 m, .int .i64 l, .int .i64 p] 23) = x := ⟨_, rfl⟩
  rw [hW0] at HC0 HO
  go_enter Try.func6, Try.ntmps6
  go_upto_region 1 with fail
  clear hW0
  obtain ⟨a0, a1, a2, a3, _⟩ := HC0.out
  go_wp2_with fail
  refine (HL.out _).mono ?_
  rintro e w1 ⟨rfl, ho1⟩
  have HC1 := hide (HC0.out.more ho1)
  have HO1 := hide (o2 HO.out ho1)
  have HY := hide (Lb.new w1 0 0 0)
  have HA := hide (onlyA w1 (.cells #[.int .i64 0, .int .i64 0, .int .i64 0] 31))
  clear ho1 a0 a1 a2 a3
  go_upto_region 2 with fail
  obtain ⟨W1, hW1⟩ : ∃ x, w1.alloc (.cells #[.int .i64 0, .int .i64 0, .int .i64 0] 31) = x := ⟨_, rfl⟩
  rw [hW1] at HY HA ⊢
  clear hW1
  have HC2 := hide (HC1.out.more HA.out)
  have HO2 := hide (o2 HO1.out HA.out)
  obtain ⟨a0, a1, a2, a3, _⟩ := HC2.out
  go_wp2_with fail
  refine (HS.out _).mono ?_
  rintro e w2 ⟨rfl, ho2⟩
  have HC3 := hide (HC2.out.more ho2)
  have HY3 := hide (HY.out.more ho2)
  have HO3 := hide (o2 HO2.out ho2)
  clear ho2 a0 a1 a2 a3
  obtain ⟨a0, a1, a2, a3, _⟩ := HC3.out
  obtain ⟨y0, y1, y2, _, _, _, _⟩ := HY3.out
  go_wp2_with fail
  refine (HW.out _).mono ?_
  rintro e w3 ⟨rfl, ho3⟩
  have HO4 := hide (o2 HO3.out ho3)
  clear ho3
  go_wp2_with fail
  go_ret
  exact ⟨rfl, HO4.out⟩
set_option maxRecDepth 100000 in
set_option maxHeartbeats 3200000 in
theorem parts_ok (w : World) (f m l p : Int) (h : Snd f m l p) : Calls Try.prog 6 #[.agg #[.int .i64 f, .int .i64 m, .int .i64 l, .int .i64 p]] w fun e w' => e = .returned (.bool true) ∧ Only (fun _ => False) w w' := by
  have HL : Hid (∀ W, Calls Try.prog 9 #[.agg #[.int .i64 f, .int .i64 m, .int .i64 l, .int .i64 p]] W fun e w' => e = .returned (.tuple #[.agg #[.int .i64 2, .int .i64 (2 + l), .int .i64 (2 + l + 8 * p)], .int .i64 0]) ∧ Only (fun _ => False) W w') := fun W => by
    have g := layout_any f m l p W
    rw [show outL f m l p = .tuple #[layV 2 (2 + l) (2 + l + 8 * p), .int .i64 0] from if_pos h] at g
    exact g
  have HS := hide (fun W => sound_any f m l p W)
  simp only [decide_eq_true h] at HS
  have HW : Hid (∀ W, Calls Try.prog 15 #[] W fun e w' => e = .returned (.bool true) ∧ Only (fun _ => False) W w') := fun W => chawake_any W
  have HC0 := hide (Cf.new w f m l p)
  have HO := hide (onlyA w (.cells #[.int .i64 f, .int .i64 m, .int .i64 l, .int .i64 p] 23))
  have hb : 160 ≤ l ∧ l ≤ 4096 ∧ 4 ≤ p ∧ p ≤ 4096 := ⟨h.2.2.2.1.1, h.2.2.2.1.2, h.2.2.2.2.1, h.2.2.2.2.2⟩
  obtain ⟨b0, b1, b2, b3⟩ := hb
  have q1 : 2 + l - 2 = l := by omega
  have q2 : 2 + l + 8 * p - (2 + l) = 8 * p := by omega
  have q3 : decide (2 + l + 8 * p ≤ 65536) = true := by simp; omega
  have q4 : 2 + l + 8 * p ≤ 65536 := by omega
  clear h
  obtain ⟨W0, hW0⟩ : ∃ x, w.alloc (.cells #[.int .i64 f, .int .i64 m, .int .i64 l, .int .i64 p] 23) = x := ⟨_, rfl⟩
  rw [hW0] at HC0 HO
  go_enter Try.func6, Try.ntmps6
  go_upto_region 1 with fail
  clear hW0
  obtain ⟨a0, a1, a2, a3, _⟩ := HC0.out
  go_wp2_with fail
  refine (HL.out _).mono ?_
  rintro e w1 ⟨rfl, ho1⟩
  have HC1 := hide (HC0.out.more ho1)
  have HO1 := hide (o2 HO.out ho1)
  have HY := hide (Lb.new w1 2 (2 + l) (2 + l + 8 * p))
  have HA := hide (onlyA w1 (.cells #[.int .i64 2, .int .i64 (2 + l), .int .i64 (2 + l + 8 * p)] 31))
  clear ho1 a0 a1 a2 a3
  go_upto_region 2 with fail
  obtain ⟨W1, hW1⟩ : ∃ x, w1.alloc (.cells #[.int .i64 2, .int .i64 (2 + l), .int .i64 (2 + l + 8 * p)] 31) = x := ⟨_, rfl⟩
  rw [hW1] at HY HA ⊢
  clear hW1
  have HC2 := hide (HC1.out.more HA.out)
  have HO2 := hide (o2 HO1.out HA.out)
  obtain ⟨a0, a1, a2, a3, _⟩ := HC2.out
  go_wp2_with fail
  refine (HS.out _).mono ?_
  rintro e w2 ⟨rfl, ho2⟩
  have HC3 := hide (HC2.out.more ho2)
  have HY3 := hide (HY.out.more ho2)
  have HO3 := hide (o2 HO2.out ho2)
  clear ho2 a0 a1 a2 a3
  obtain ⟨a0, a1, a2, a3, _⟩ := HC3.out
  obtain ⟨y0, y1, y2, _, _, _, _⟩ := HY3.out
  go_wp2_with fail
  refine (HW.out _).mono ?_
  rintro e w3 ⟨rfl, ho3⟩
  have HO4 := hide (o2 HO3.out ho3)
  clear ho3
  go_wp2_with fail
  go_ret
  exact ⟨rfl, HO4.out⟩
theorem parts_law (w : World) (f m l p : Int) : Calls Try.prog 6 #[.agg #[.int .i64 f, .int .i64 m, .int .i64 l, .int .i64 p]] w fun e w' => e = .returned (.bool true) ∧ Only (fun _ => False) w w' := by
  by_cases h : Snd f m l p
  · exact parts_ok w f m l p h
  · exact parts_no w f m l p h
end Go.Proofs.Ytpogphaflhfmbaa
