/- The law of CheckReads. -/
import Derived.Test.YtpogphaflhfmbaaGNew
import Derived.Test.YtpogphaflhfmbaaGLawB
namespace Go.Proofs.Ytpogphaflhfmbaa
open Go.RowKit

theorem outC_form (o : Option Ct) : ∃ (x : Ct) (E : Int), outC o = .tuple #[x.agg, .int .i64 E] := ⟨_, _, rfl⟩
set_option maxRecDepth 100000 in
set_option maxHeartbeats 3200000 in
theorem reads_law (w : World) (a b : ByteArray) (z : Int) : Calls Try.prog 4 #[.string a, .string b, .int .i64 z] w fun e w' => e = .returned (.bool true) ∧ Only (fun _ => False) w w' := by
  obtain ⟨x, E, hx⟩ := outC_form (newC (bl a) (bl b))
  obtain ⟨y, F, hy⟩ := outC_form (decC (bl a) z)
  have H1 : Hid (∀ W, Calls Try.prog 16 #[.string a, .string b] W fun e w' => e = .returned (.tuple #[x.agg, .int .i64 E]) ∧ Only (fun _ => False) W w') := fun W => by
    rw [← hx]
    exact newest_any a b W
  have H2 : Hid (∀ W, Calls Try.prog 17 #[.string a, .string b] W fun e w' => e = .returned (.tuple #[x.agg, .int .i64 E]) ∧ Only (fun _ => False) W w') := fun W => by
    rw [← hx]
    exact rnewest_any a b W
  have H3 : Hid (∀ W, Calls Try.prog 18 #[.string a, .int .i64 z] W fun e w' => e = .returned (.tuple #[y.agg, .int .i64 F]) ∧ Only (fun _ => False) W w') := fun W => by
    rw [← hy]
    exact decode_any a z W
  have H4 : Hid (∀ W, Calls Try.prog 19 #[.string a, .int .i64 z] W fun e w' => e = .returned (.tuple #[y.agg, .int .i64 F]) ∧ Only (fun _ => False) W w') := fun W => by
    rw [← hy]
    exact rdecode_any a z W
  have HW : Hid (∀ W, Calls Try.prog 15 #[] W fun e w' => e = .returned (.bool true) ∧ Only (fun _ => False) W w') := fun W => chawake_any W
  have HQ1 : ∀ W, (binOp .eql 25 x.agg x.agg).run Try.prog W = .ok (.bool true) W := fun W => ctl_eq x x rfl W
  have HQ2 : ∀ W, (binOp .eql 25 y.agg y.agg).run Try.prog W = .ok (.bool true) W := fun W => ctl_eq y y rfl W
  clear hx hy
  unfold Ct.agg at H1 H2 H3 H4 HQ1 HQ2
  go_enter Try.func4, Try.ntmps4
  go_wp2_with fail
  refine (H1.out _).mono ?_
  rintro e w1 ⟨rfl, ho⟩
  have HA1 := hide (Cb.new w1 x)
  have HO1 := hide (o2 ho (onlyA w1 (.cells #[.int .i64 x.f, .int .i64 x.m, .int .i64 x.l, .int .i64 x.p, .int .i64 x.n, .int .i64 x.s, .int .i64 x.k] 25)))
  clear ho
  go_upto_region 2 with fail
  obtain ⟨W1, hW⟩ : ∃ V, w1.alloc (.cells #[.int .i64 x.f, .int .i64 x.m, .int .i64 x.l, .int .i64 x.p, .int .i64 x.n, .int .i64 x.s, .int .i64 x.k] 25) = V := ⟨_, rfl⟩
  rw [hW] at HO1 HA1 ⊢
  clear hW
  go_wp2_with fail
  refine (H2.out _).mono ?_
  rintro e w2 ⟨rfl, ho⟩
  have HA2 := hide (Cb.new w2 x)
  have HO2 := hide (o2 (o2 HO1.out ho) (onlyA w2 (.cells #[.int .i64 x.f, .int .i64 x.m, .int .i64 x.l, .int .i64 x.p, .int .i64 x.n, .int .i64 x.s, .int .i64 x.k] 25)))
  have HA1 := hide (HA1.out.more (o2 ho (onlyA w2 (.cells #[.int .i64 x.f, .int .i64 x.m, .int .i64 x.l, .int .i64 x.p, .int .i64 x.n, .int .i64 x.s, .int .i64 x.k] 25))))
  clear ho
  go_upto_region 3 with fail
  obtain ⟨W2, hW⟩ : ∃ V, w2.alloc (.cells #[.int .i64 x.f, .int .i64 x.m, .int .i64 x.l, .int .i64 x.p, .int .i64 x.n, .int .i64 x.s, .int .i64 x.k] 25) = V := ⟨_, rfl⟩
  rw [hW] at HO2 HA1 HA2 ⊢
  clear hW
  go_wp2_with fail
  refine (H3.out _).mono ?_
  rintro e w3 ⟨rfl, ho⟩
  have HA3 := hide (Cb.new w3 y)
  have HO3 := hide (o2 (o2 HO2.out ho) (onlyA w3 (.cells #[.int .i64 y.f, .int .i64 y.m, .int .i64 y.l, .int .i64 y.p, .int .i64 y.n, .int .i64 y.s, .int .i64 y.k] 25)))
  have HA1 := hide (HA1.out.more (o2 ho (onlyA w3 (.cells #[.int .i64 y.f, .int .i64 y.m, .int .i64 y.l, .int .i64 y.p, .int .i64 y.n, .int .i64 y.s, .int .i64 y.k] 25))))
  have HA2 := hide (HA2.out.more (o2 ho (onlyA w3 (.cells #[.int .i64 y.f, .int .i64 y.m, .int .i64 y.l, .int .i64 y.p, .int .i64 y.n, .int .i64 y.s, .int .i64 y.k] 25))))
  clear ho
  go_upto_region 4 with fail
  obtain ⟨W3, hW⟩ : ∃ V, w3.alloc (.cells #[.int .i64 y.f, .int .i64 y.m, .int .i64 y.l, .int .i64 y.p, .int .i64 y.n, .int .i64 y.s, .int .i64 y.k] 25) = V := ⟨_, rfl⟩
  rw [hW] at HO3 HA1 HA2 HA3 ⊢
  clear hW
  go_wp2_with fail
  refine (H4.out _).mono ?_
  rintro e w4 ⟨rfl, ho⟩
  have HA4 := hide (Cb.new w4 y)
  have HO4 := hide (o2 (o2 HO3.out ho) (onlyA w4 (.cells #[.int .i64 y.f, .int .i64 y.m, .int .i64 y.l, .int .i64 y.p, .int .i64 y.n, .int .i64 y.s, .int .i64 y.k] 25)))
  have HA1 := hide (HA1.out.more (o2 ho (onlyA w4 (.cells #[.int .i64 y.f, .int .i64 y.m, .int .i64 y.l, .int .i64 y.p, .int .i64 y.n, .int .i64 y.s, .int .i64 y.k] 25))))
  have HA2 := hide (HA2.out.more (o2 ho (onlyA w4 (.cells #[.int .i64 y.f, .int .i64 y.m, .int .i64 y.l, .int .i64 y.p, .int .i64 y.n, .int .i64 y.s, .int .i64 y.k] 25))))
  have HA3 := hide (HA3.out.more (o2 ho (onlyA w4 (.cells #[.int .i64 y.f, .int .i64 y.m, .int .i64 y.l, .int .i64 y.p, .int .i64 y.n, .int .i64 y.s, .int .i64 y.k] 25))))
  clear ho
  go_upto_region 5 with fail
  obtain ⟨W4, hW⟩ : ∃ V, w4.alloc (.cells #[.int .i64 y.f, .int .i64 y.m, .int .i64 y.l, .int .i64 y.p, .int .i64 y.n, .int .i64 y.s, .int .i64 y.k] 25) = V := ⟨_, rfl⟩
  rw [hW] at HO4 HA1 HA2 HA3 HA4 ⊢
  clear hW
  obtain ⟨ax0, ax1, ax2, ax3, ax4, ax5, ax6, _, _, _, _, _, _, _, _⟩ := HA1.out
  obtain ⟨bx0, bx1, bx2, bx3, bx4, bx5, bx6, _, _, _, _, _, _, _, _⟩ := HA2.out
  obtain ⟨cx0, cx1, cx2, cx3, cx4, cx5, cx6, _, _, _, _, _, _, _, _⟩ := HA3.out
  obtain ⟨dx0, dx1, dx2, dx3, dx4, dx5, dx6, _, _, _, _, _, _, _, _⟩ := HA4.out
  go_wp2_with fail
  refine (HW.out _).mono ?_
  rintro e w5 ⟨rfl, ho⟩
  have HO := hide (o2 HO4.out ho)
  clear ho
  go_wp2_with fail
  go_ret
  exact ⟨rfl, HO.out⟩
end Go.Proofs.Ytpogphaflhfmbaa
