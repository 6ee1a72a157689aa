/- The law's own examples. -/
import Derived.Test.YtpogphaflhfmbaaGDecC
import Derived.Test.YtpogphaflhfmbaaGRedo
namespace Go.Proofs.Ytpogphaflhfmbaa
open Go.RowKit

def exC : Ct := ⟨4, 16, 160, 4, 1, 1, 0⟩
theorem exC_ok : exC.ok := by decide
theorem exC_lay : str exC.lay = ⟨#[0, 0, 0, 1, 0, 0, 0, 4, 0, 0, 0, 16, 0, 0, 0, 160, 0, 0, 0, 4, 0, 0, 0, 0, 0, 1, 0, 0, 0, 0, 0, 0, 0, 0, 0, 0, 0, 0, 0, 0, 0, 0, 0, 0, 0, 0, 0, 0, 0, 0, 0, 0, 0, 0, 0, 0, 0, 0, 0, 0, 0, 0, 0, 1]⟩ := rfl
theorem layR_eq (x y z x' y' z' : Int) (hx : x = x') (hy : y = y') (hz : z = z') (W : World) : (binOp .eql 31 (.agg #[.int .i64 x, .int .i64 y, .int .i64 z]) (.agg #[.int .i64 x', .int .i64 y', .int .i64 z'])).run Try.prog W = .ok (.bool true) W := by
  subst hx hy hz
  simp [go_sem]
set_option maxRecDepth 100000 in
set_option maxHeartbeats 3200000 in
theorem chawake_any (w : World) : Calls Try.prog 15 #[] w fun e w' => e = .returned (.bool true) ∧ Only (fun _ => False) w w' := by
  obtain ⟨S, hS⟩ : ∃ S : ByteArray, ⟨#[0, 0, 0, 1, 0, 0, 0, 4, 0, 0, 0, 16, 0, 0, 0, 160, 0, 0, 0, 4, 0, 0, 0, 0, 0, 1, 0, 0, 0, 0, 0, 0, 0, 0, 0, 0, 0, 0, 0, 0, 0, 0, 0, 0, 0, 0, 0, 0, 0, 0, 0, 0, 0, 0, 0, 0, 0, 0, 0, 0, 0, 0, 0, 1]⟩ = S := ⟨_, rfl⟩
  have hlay : str exC.lay = S := by rw [exC_lay, hS]
  have HM : Hid (∀ W, Calls Try.prog 25 #[] W fun e w' => e = .returned (.agg #[.int .i64 4, .int .i64 16, .int .i64 160, .int .i64 4]) ∧ Only (fun _ => False) W w') := fun W => small_any W
  have HE : Hid (∀ W, Calls Try.prog 7 #[.agg #[.int .i64 4, .int .i64 16, .int .i64 160, .int .i64 4, .int .i64 1, .int .i64 1, .int .i64 0]] W fun e w' => e = .returned (.tuple #[.string S, .int .i64 0]) ∧ Only (fun _ => False) W w') := fun W => by
    have h := encode_any exC W
    rw [show exC.out = .tuple #[.string (str exC.lay), .int .i64 0] from if_pos exC_ok, hlay] at h
    exact h
  have HD1 : Hid (∀ W, Calls Try.prog 18 #[.string S, .int .i64 1] W fun e w' => e = .returned (.tuple #[.agg #[.int .i64 4, .int .i64 16, .int .i64 160, .int .i64 4, .int .i64 1, .int .i64 1, .int .i64 0], .int .i64 0]) ∧ Only (fun _ => False) W w') := fun W => by
    have h := decode_any S 1 W
    rw [← hlay, bl_str, dec_lay exC exC_ok 1, if_pos (by decide), out_someC, hlay] at h
    exact h
  have HD0 : Hid (∀ W, Calls Try.prog 18 #[.string S, .int .i64 0] W fun e w' => e = .returned (.tuple #[.agg #[.int .i64 0, .int .i64 0, .int .i64 0, .int .i64 0, .int .i64 0, .int .i64 0, .int .i64 0], .int .i64 223]) ∧ Only (fun _ => False) W w') := fun W => by
    have h := decode_any S 0 W
    rw [← hlay, bl_str, dec_lay exC exC_ok 0, if_neg (by decide), out_noC, hlay, noC_agg] at h
    exact h
  have HL : Hid (∀ W, Calls Try.prog 9 #[.agg #[.int .i64 4, .int .i64 16, .int .i64 160, .int .i64 4]] W fun e w' => e = .returned (.tuple #[.agg #[.int .i64 2, .int .i64 162, .int .i64 194], .int .i64 0]) ∧ Only (fun _ => False) W w') := fun W => by
    have h := layout_any 4 16 160 4 W
    rw [show outL 4 16 160 4 = .tuple #[layV 2 162 194, .int .i64 0] from rfl] at h
    exact h
  have HR : Hid (∀ W : World, Calls Try.prog 13 #[.int .i64 50, .slice (some ⟨W.heap.size, 0, none⟩) 2 2] (W.alloc (.cells #[.int .i64 3, .int .i64 40, .int .i64 4, .int .i64 0] 48)) fun e w' => e = .returned (.int .i64 40) ∧ Only (fun _ => False) (W.alloc (.cells #[.int .i64 3, .int .i64 40, .int .i64 4, .int .i64 0] 48)) w') := fun W =>
    redo_any _ 50 _ 2 _ _ (pr_two W 3 40 4 0)
  have HQ : ∀ W, (binOp .eql 31 (.agg #[.int .i64 2, .int .i64 162, .int .i64 194]) (.agg #[.int .i64 2, .int .i64 162, .int .i64 194])).run Try.prog W = .ok (.bool true) W := fun W => layR_eq 2 162 194 2 162 194 rfl rfl rfl W
  clear hlay
  go_enter Try.func15, Try.ntmps15
  go_wp2_with fail
  refine (HM.out _).mono ?_
  rintro e w1 ⟨rfl, ho1⟩
  have HO := hide ho1
  clear ho1
  go_wp2_with fail
  refine (HE.out _).mono ?_
  rintro e w2 ⟨rfl, ho2⟩
  have HO := hide (o2 HO.out ho2)
  clear ho2
  go_wp2_with fail
  refine (HD1.out _).mono ?_
  rintro e w3 ⟨rfl, ho3⟩
  have HC := hide (Cb.new w3 exC)
  have HA := hide (o2 (o2 HO.out ho3) (onlyA w3 (.cells #[.int .i64 4, .int .i64 16, .int .i64 160, .int .i64 4, .int .i64 1, .int .i64 1, .int .i64 0] 25)))
  clear ho3
  go_upto_region 3 with fail
  obtain ⟨W3, hW3⟩ : ∃ x, w3.alloc (.cells #[.int .i64 4, .int .i64 16, .int .i64 160, .int .i64 4, .int .i64 1, .int .i64 1, .int .i64 0] 25) = x := ⟨_, rfl⟩
  have HC : Hid (Cb W3 w3.heap.size exC) := by rw [← hW3]; exact HC.out
  rw [hW3] at HA ⊢
  clear hW3
  go_wp2_with fail
  refine (HD0.out _).mono ?_
  rintro e w4 ⟨rfl, ho4⟩
  have HC := hide (HC.out.more (o2 ho4 (onlyA w4 (.cells #[.int .i64 0, .int .i64 0, .int .i64 0, .int .i64 0, .int .i64 0, .int .i64 0, .int .i64 0] 25))))
  have HA := hide (o2 (o2 HA.out ho4) (onlyA w4 (.cells #[.int .i64 0, .int .i64 0, .int .i64 0, .int .i64 0, .int .i64 0, .int .i64 0, .int .i64 0] 25)))
  clear ho4
  go_upto_region 4 with fail
  obtain ⟨W4, hW4⟩ : ∃ x, w4.alloc (.cells #[.int .i64 0, .int .i64 0, .int .i64 0, .int .i64 0, .int .i64 0, .int .i64 0, .int .i64 0] 25) = x := ⟨_, rfl⟩
  rw [hW4] at HA HC ⊢
  clear hW4
  go_wp2_with fail
  refine (HM.out _).mono ?_
  rintro e w5 ⟨rfl, ho5⟩
  have HC := hide (HC.out.more ho5)
  have HA := hide (o2 HA.out ho5)
  clear ho5
  go_wp2_with fail
  refine (HL.out _).mono ?_
  rintro e w6 ⟨rfl, ho6⟩
  have HC := hide (HC.out.more (o2 ho6 (onlyA w6 (.cells #[.int .i64 2, .int .i64 162, .int .i64 194] 31))))
  have HA := hide (o2 (o2 HA.out ho6) (onlyA w6 (.cells #[.int .i64 2, .int .i64 162, .int .i64 194] 31)))
  have HY := hide (Lb.new w6 2 162 194)
  clear ho6
  go_upto_region 5 with fail
  obtain ⟨W6, hW6⟩ : ∃ x, w6.alloc (.cells #[.int .i64 2, .int .i64 162, .int .i64 194] 31) = x := ⟨_, rfl⟩
  rw [hW6] at HA HC HY ⊢
  clear hW6
  have c5 : W6.cell? ⟨w3.heap.size, 5, none⟩ = some (.int .i64 1) := HC.out.c5
  have y0 := HY.out.c0
  have y1 := HY.out.c1
  have y2 := HY.out.c2
  have s1 : (S.size : Int) = 64 := by rw [← hS]; rfl
  have s2 : 3 < S.size := by omega
  have s3 : 63 < S.size := by omega
  have s4 : S[3] = 1 := by subst hS; rfl
  have s5 : S[63] = 1 := by subst hS; rfl
  clear hS
  go_wp2_with fail
  refine (HR.out _).mono ?_
  rintro e w7 ⟨rfl, ho7⟩
  have HA := hide (o2 (o2 HA.out (onlyA _ _)) ho7)
  clear ho7
  go_wp2_with fail
  go_ret
  exact ⟨rfl, HA.out⟩
end Go.Proofs.Ytpogphaflhfmbaa
