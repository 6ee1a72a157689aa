/- The law of CheckBack. -/
import Derived.Test.YtpogphaflhfmbaaGAwake
namespace Go.Proofs.Ytpogphaflhfmbaa
open Go.RowKit

theorem ctl_eq (c d : Ct) (h : c = d) (W : World) : (binOp .eql 25 c.agg d.agg).run Try.prog W = .ok (.bool true) W := by
  subst h
  simp [go_sem, Ct.agg]
set_option maxRecDepth 100000 in
set_option maxHeartbeats 3200000 in
theorem back_no (w : World) (c : Ct) (h : ¬ c.ok) : Calls Try.prog 5 #[c.agg] w fun e w' => e = .returned (.bool true) ∧ Only (fun _ => False) w w' := by
  have HE : Hid (∀ W, Calls Try.prog 7 #[c.agg] W fun e w' => e = .returned (.tuple #[.string ⟨#[]⟩, .int .i64 1]) ∧ Only (fun _ => False) W w') := fun W => by
    have g := encode_any c W
    rw [show c.out = .tuple #[.string ⟨#[]⟩, .int .i64 1] from if_neg h] at g
    exact g
  have HW : Hid (∀ W, Calls Try.prog 15 #[] W fun e w' => e = .returned (.bool true) ∧ Only (fun _ => False) W w') := fun W => chawake_any W
  have hs : ((⟨#[]⟩ : ByteArray) == ⟨#[]⟩) = true := by decide
  clear h
  unfold Ct.agg at HE ⊢
  have HO := hide (onlyA w (.cells #[.int .i64 c.f, .int .i64 c.m, .int .i64 c.l, .int .i64 c.p, .int .i64 c.n, .int .i64 c.s, .int .i64 c.k] 25))
  go_enter Try.func5, Try.ntmps5
  go_wp2_with fail
  refine (HE.out _).mono ?_
  rintro e w1 ⟨rfl, ho1⟩
  have HO := hide (o2 HO.out ho1)
  clear ho1
  go_wp2_with fail
  refine (HW.out _).mono ?_
  rintro e w2 ⟨rfl, ho2⟩
  have HO := hide (o2 HO.out ho2)
  clear ho2
  go_wp2_with fail
  go_ret
  exact ⟨rfl, HO.out⟩
set_option maxRecDepth 100000 in
set_option maxHeartbeats 3200000 in
theorem back_ok (w : World) (c : Ct) (h : c.ok) : Calls Try.prog 5 #[c.agg] w fun e w' => e = .returned (.bool true) ∧ Only (fun _ => False) w w' := by
  obtain ⟨S, hS⟩ : ∃ S, str c.lay = S := ⟨_, rfl⟩
  have hn : 0 ≤ c.n := by have := h.2.1.1; omega
  obtain ⟨r, hr⟩ : ∃ r, c.n % 2 = r := ⟨_, rfl⟩
  have r0 : 0 ≤ r := by omega
  have r1 : r ≤ 1 := by omega
  have ht : c.n.tmod 2 = r := by rw [tmod2 hn, hr]
  have HE : Hid (∀ W, Calls Try.prog 7 #[c.agg] W fun e w' => e = .returned (.tuple #[.string S, .int .i64 0]) ∧ Only (fun _ => False) W w') := fun W => by
    have g := encode_any c W
    rw [show c.out = .tuple #[.string (str c.lay), .int .i64 0] from if_pos h, hS] at g
    exact g
  have HD1 : Hid (∀ W, Calls Try.prog 18 #[.string S, .int .i64 r] W fun e w' => e = .returned (.tuple #[c.agg, .int .i64 0]) ∧ Only (fun _ => False) W w') := fun W => by
    have g := decode_any S r W
    rw [← hS, bl_str, dec_lay c h r, if_pos hr, out_someC, hS] at g
    exact g
  have HD0 : Hid (∀ W, Calls Try.prog 18 #[.string S, .int .i64 (1 - r)] W fun e w' => e = .returned (.tuple #[.agg #[.int .i64 0, .int .i64 0, .int .i64 0, .int .i64 0, .int .i64 0, .int .i64 0, .int .i64 0], .int .i64 223]) ∧ Only (fun _ => False) W w') := fun W => by
    have g := decode_any S (1 - r) W
    rw [← hS, bl_str, dec_lay c h (1 - r), if_neg (by omega), out_noC, hS, noC_agg] at g
    exact g
  have HW : Hid (∀ W, Calls Try.prog 15 #[] W fun e w' => e = .returned (.bool true) ∧ Only (fun _ => False) W w') := fun W => chawake_any W
  have HQ : ∀ W, (binOp .eql 25 c.agg c.agg).run Try.prog W = .ok (.bool true) W := fun W => ctl_eq c c rfl W
  have HB0 := hide (Cb.new w c)
  have HO := hide (onlyA w (.cells #[.int .i64 c.f, .int .i64 c.m, .int .i64 c.l, .int .i64 c.p, .int .i64 c.n, .int .i64 c.s, .int .i64 c.k] 25))
  clear h hS hn hr
  unfold Ct.agg at HE HD1 HQ ⊢
  obtain ⟨W0, hW0⟩ : ∃ x, w.alloc (.cells #[.int .i64 c.f, .int .i64 c.m, .int .i64 c.l, .int .i64 c.p, .int .i64 c.n, .int .i64 c.s, .int .i64 c.k] 25) = x := ⟨_, rfl⟩
  rw [hW0] at HB0 HO
  go_enter Try.func5, Try.ntmps5
  go_upto_region 1 with fail
  clear hW0
  obtain ⟨c0, c1, c2, c3, c4, c5, c6, _, _, _, _, _, _, _, _⟩ := HB0.out
  go_wp2_with fail
  refine (HE.out _).mono ?_
  rintro e w1 ⟨rfl, ho1⟩
  have HB1 := hide (HB0.out.more ho1)
  have HO := hide (o2 HO.out ho1)
  clear ho1
  clear c0 c1 c2 c3 c4 c5 c6
  obtain ⟨c0, c1, c2, c3, c4, c5, c6, _, _, _, _, _, _, _, _⟩ := HB1.out
  go_wp2_with fail
  refine (HD1.out _).mono ?_
  rintro e w2 ⟨rfl, ho2⟩
  have HB2 := hide (HB1.out.more ho2)
  have HO := hide (o2 HO.out ho2)
  have HX := hide (Cb.new w2 c)
  have HA := hide (onlyA w2 (.cells #[.int .i64 c.f, .int .i64 c.m, .int .i64 c.l, .int .i64 c.p, .int .i64 c.n, .int .i64 c.s, .int .i64 c.k] 25))
  clear ho2
  clear c0 c1 c2 c3 c4 c5 c6
  go_upto_region 5 with fail
  obtain ⟨W2, hW2⟩ : ∃ x, w2.alloc (.cells #[.int .i64 c.f, .int .i64 c.m, .int .i64 c.l, .int .i64 c.p, .int .i64 c.n, .int .i64 c.s, .int .i64 c.k] 25) = x := ⟨_, rfl⟩
  rw [hW2] at HX HA ⊢
  clear hW2
  have HB3 := hide (HB2.out.more HA.out)
  have HO := hide (o2 HO.out HA.out)
  obtain ⟨c0, c1, c2, c3, c4, c5, c6, _, _, _, _, _, _, _, _⟩ := HB3.out
  go_wp2_with fail
  refine (HD0.out _).mono ?_
  rintro e w3 ⟨rfl, ho3⟩
  have HB4 := hide (HB3.out.more (o2 ho3 (onlyA w3 (.cells #[.int .i64 0, .int .i64 0, .int .i64 0, .int .i64 0, .int .i64 0, .int .i64 0, .int .i64 0] 25))))
  have HX4 := hide (HX.out.more (o2 ho3 (onlyA w3 (.cells #[.int .i64 0, .int .i64 0, .int .i64 0, .int .i64 0, .int .i64 0, .int .i64 0, .int .i64 0] 25))))
  have HO := hide (o2 HO.out (o2 ho3 (onlyA w3 (.cells #[.int .i64 0, .int .i64 0, .int .i64 0, .int .i64 0, .int .i64 0, .int .i64 0, .int .i64 0] 25))))
  clear ho3
  clear c0 c1 c2 c3 c4 c5 c6
  go_upto_region 6 with fail
  obtain ⟨W3, hW3⟩ : ∃ x, w3.alloc (.cells #[.int .i64 0, .int .i64 0, .int .i64 0, .int .i64 0, .int .i64 0, .int .i64 0, .int .i64 0] 25) = x := ⟨_, rfl⟩
  rw [hW3] at HB4 HX4 HO ⊢
  clear hW3
  obtain ⟨c0, c1, c2, c3, c4, c5, c6, _, _, _, _, _, _, _, _⟩ := HB4.out
  obtain ⟨x0, x1, x2, x3, x4, x5, x6, _, _, _, _, _, _, _, _⟩ := HX4.out
  go_wp2_with fail
  refine (HW.out _).mono ?_
  rintro e w4 ⟨rfl, ho4⟩
  have HO := hide (o2 HO.out ho4)
  clear ho4
  go_wp2_with fail
  go_ret
  exact ⟨rfl, HO.out⟩
theorem back_law (w : World) (c : Ct) : Calls Try.prog 5 #[c.agg] w fun e w' => e = .returned (.bool true) ∧ Only (fun _ => False) w w' := by
  by_cases h : c.ok
  · exact back_ok w c h
  · exact back_no w c h
end Go.Proofs.Ytpogphaflhfmbaa
