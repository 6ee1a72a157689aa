/- What Newest does, the code's and the document's. -/
import Derived.Test.YtpogphaflhfmbaaGDecR
namespace Go.Proofs.Ytpogphaflhfmbaa
open Go.RowKit

set_option maxRecDepth 100000 in
set_option maxHeartbeats 1600000 in
theorem newest_bad (x y : Ct) (a b : ByteArray) (w : World) (E : Int) (h1 : Hid (∀ W, Calls Try.prog 18 #[.string a, .int .i64 0] W fun e w' => e = .returned (.tuple #[x.agg, .int .i64 223]) ∧ Only (fun _ => False) W w')) (h2 : Hid (∀ W, Calls Try.prog 18 #[.string b, .int .i64 1] W fun e w' => e = .returned (.tuple #[y.agg, .int .i64 E]) ∧ Only (fun _ => False) W w')) :
    Calls Try.prog 16 #[.string a, .string b] w fun e w' => e = .returned (.tuple #[y.agg, .int .i64 E]) ∧ Only (fun _ => False) w w' := by
  have HB := hide (Cb.new w noC)
  have HO := hide (onlyA w (.cells #[.int .i64 0, .int .i64 0, .int .i64 0, .int .i64 0, .int .i64 0, .int .i64 0, .int .i64 0] 25))
  have hlt : w.heap.size ≤ w.heap.size := Nat.le_refl _
  unfold noC at HB
  simp only at HB
  obtain ⟨W0, hW0⟩ : ∃ x, w.alloc (.cells #[.int .i64 0, .int .i64 0, .int .i64 0, .int .i64 0, .int .i64 0, .int .i64 0, .int .i64 0] 25) = x := ⟨_, rfl⟩
  rw [hW0] at HB HO
  unfold Ct.agg at h1 h2 ⊢
  go_enter Try.func16, Try.ntmps16
  go_upto_region 1 with fail
  clear hW0
  go_wp2_with fail
  refine (h1.out _).mono ?_
  rintro e w1 ⟨rfl, ho1⟩
  have HB1 := hide (HB.out.more ho1)
  have HO1 := hide (o2 HO.out ho1)
  have HX1 := hide (Cb.new w1 x)
  have HA1 := hide (onlyA w1 (.cells #[.int .i64 x.f, .int .i64 x.m, .int .i64 x.l, .int .i64 x.p, .int .i64 x.n, .int .i64 x.s, .int .i64 x.k] 25))
  clear ho1
  go_upto_region 2 with fail
  obtain ⟨W1, hW1⟩ : ∃ z, w1.alloc (.cells #[.int .i64 x.f, .int .i64 x.m, .int .i64 x.l, .int .i64 x.p, .int .i64 x.n, .int .i64 x.s, .int .i64 x.k] 25) = z := ⟨_, rfl⟩
  rw [hW1] at HX1 HA1 ⊢
  have HB2 := hide (HB1.out.more HA1.out)
  have HO2 := hide (o2 HO1.out HA1.out)
  clear hW1
  go_wp2_with fail
  refine (h2.out _).mono ?_
  rintro e w2 ⟨rfl, ho2⟩
  have HB3 := hide (HB2.out.more ho2)
  have HO3 := hide (o2 HO2.out ho2)
  have HX3 := hide (HX1.out.more ho2)
  have HY3 := hide (Cb.new w2 y)
  have HA3 := hide (onlyA w2 (.cells #[.int .i64 y.f, .int .i64 y.m, .int .i64 y.l, .int .i64 y.p, .int .i64 y.n, .int .i64 y.s, .int .i64 y.k] 25))
  clear ho2
  go_upto_region 3 with fail
  obtain ⟨W2, hW2⟩ : ∃ z, w2.alloc (.cells #[.int .i64 y.f, .int .i64 y.m, .int .i64 y.l, .int .i64 y.p, .int .i64 y.n, .int .i64 y.s, .int .i64 y.k] 25) = z := ⟨_, rfl⟩
  rw [hW2] at HY3 HA3 ⊢
  have HB4 := hide (HB3.out.more HA3.out)
  have HX4 := hide (HX3.out.more HA3.out)
  have HO4 := hide (o2 HO3.out HA3.out)
  clear hW2
  obtain ⟨x0, x1, x2, x3, x4, x5, x6, _, _, _, _, _, _, _, _⟩ := HX4.out
  obtain ⟨y0, y1, y2, y3, y4, y5, y6, _, _, _, _, _, _, _, _⟩ := HY3.out
  obtain ⟨d0, d1, d2, d3, d4, d5, d6, df0, df1, df2, df3, df4, df5, df6, _⟩ := HB4.out
  go_wp2_with fail
  refine bodyPost_ret (results_ct rfl rfl (HB4.out.all y)) rfl ?_
  exact ⟨rfl, newer w.heap.size (Only.seven _ _ _ _ _ _ _ _ _) HO4.out hlt⟩
set_option maxRecDepth 100000 in
set_option maxHeartbeats 1600000 in
theorem newest_left (x y : Ct) (a b : ByteArray) (w : World) (h1 : Hid (∀ W, Calls Try.prog 18 #[.string a, .int .i64 0] W fun e w' => e = .returned (.tuple #[x.agg, .int .i64 0]) ∧ Only (fun _ => False) W w')) (h2 : Hid (∀ W, Calls Try.prog 18 #[.string b, .int .i64 1] W fun e w' => e = .returned (.tuple #[y.agg, .int .i64 223]) ∧ Only (fun _ => False) W w')) :
    Calls Try.prog 16 #[.string a, .string b] w fun e w' => e = .returned (.tuple #[x.agg, .int .i64 0]) ∧ Only (fun _ => False) w w' := by
  have HB := hide (Cb.new w noC)
  have HO := hide (onlyA w (.cells #[.int .i64 0, .int .i64 0, .int .i64 0, .int .i64 0, .int .i64 0, .int .i64 0, .int .i64 0] 25))
  have hlt : w.heap.size ≤ w.heap.size := Nat.le_refl _
  unfold noC at HB
  simp only at HB
  obtain ⟨W0, hW0⟩ : ∃ x, w.alloc (.cells #[.int .i64 0, .int .i64 0, .int .i64 0, .int .i64 0, .int .i64 0, .int .i64 0, .int .i64 0] 25) = x := ⟨_, rfl⟩
  rw [hW0] at HB HO
  unfold Ct.agg at h1 h2 ⊢
  go_enter Try.func16, Try.ntmps16
  go_upto_region 1 with fail
  clear hW0
  go_wp2_with fail
  refine (h1.out _).mono ?_
  rintro e w1 ⟨rfl, ho1⟩
  have HB1 := hide (HB.out.more ho1)
  have HO1 := hide (o2 HO.out ho1)
  have HX1 := hide (Cb.new w1 x)
  have HA1 := hide (onlyA w1 (.cells #[.int .i64 x.f, .int .i64 x.m, .int .i64 x.l, .int .i64 x.p, .int .i64 x.n, .int .i64 x.s, .int .i64 x.k] 25))
  clear ho1
  go_upto_region 2 with fail
  obtain ⟨W1, hW1⟩ : ∃ z, w1.alloc (.cells #[.int .i64 x.f, .int .i64 x.m, .int .i64 x.l, .int .i64 x.p, .int .i64 x.n, .int .i64 x.s, .int .i64 x.k] 25) = z := ⟨_, rfl⟩
  rw [hW1] at HX1 HA1 ⊢
  have HB2 := hide (HB1.out.more HA1.out)
  have HO2 := hide (o2 HO1.out HA1.out)
  clear hW1
  go_wp2_with fail
  refine (h2.out _).mono ?_
  rintro e w2 ⟨rfl, ho2⟩
  have HB3 := hide (HB2.out.more ho2)
  have HO3 := hide (o2 HO2.out ho2)
  have HX3 := hide (HX1.out.more ho2)
  have HY3 := hide (Cb.new w2 y)
  have HA3 := hide (onlyA w2 (.cells #[.int .i64 y.f, .int .i64 y.m, .int .i64 y.l, .int .i64 y.p, .int .i64 y.n, .int .i64 y.s, .int .i64 y.k] 25))
  clear ho2
  go_upto_region 3 with fail
  obtain ⟨W2, hW2⟩ : ∃ z, w2.alloc (.cells #[.int .i64 y.f, .int .i64 y.m, .int .i64 y.l, .int .i64 y.p, .int .i64 y.n, .int .i64 y.s, .int .i64 y.k] 25) = z := ⟨_, rfl⟩
  rw [hW2] at HY3 HA3 ⊢
  have HB4 := hide (HB3.out.more HA3.out)
  have HX4 := hide (HX3.out.more HA3.out)
  have HO4 := hide (o2 HO3.out HA3.out)
  clear hW2
  obtain ⟨x0, x1, x2, x3, x4, x5, x6, _, _, _, _, _, _, _, _⟩ := HX4.out
  obtain ⟨y0, y1, y2, y3, y4, y5, y6, _, _, _, _, _, _, _, _⟩ := HY3.out
  obtain ⟨d0, d1, d2, d3, d4, d5, d6, df0, df1, df2, df3, df4, df5, df6, _⟩ := HB4.out
  go_wp2_with fail
  refine bodyPost_ret (results_ct rfl rfl (HB4.out.all x)) rfl ?_
  exact ⟨rfl, newer w.heap.size (Only.seven _ _ _ _ _ _ _ _ _) HO4.out hlt⟩
set_option maxRecDepth 100000 in
set_option maxHeartbeats 1600000 in
theorem newest_lt (x y : Ct) (a b : ByteArray) (w : World) (h1 : Hid (∀ W, Calls Try.prog 18 #[.string a, .int .i64 0] W fun e w' => e = .returned (.tuple #[x.agg, .int .i64 0]) ∧ Only (fun _ => False) W w')) (h2 : Hid (∀ W, Calls Try.prog 18 #[.string b, .int .i64 1] W fun e w' => e = .returned (.tuple #[y.agg, .int .i64 0]) ∧ Only (fun _ => False) W w')) (h3 : x.n < y.n) :
    Calls Try.prog 16 #[.string a, .string b] w fun e w' => e = .returned (.tuple #[y.agg, .int .i64 0]) ∧ Only (fun _ => False) w w' := by
  have h4 : decide (x.n < y.n) = true := by simpa using h3
  have HB := hide (Cb.new w noC)
  have HO := hide (onlyA w (.cells #[.int .i64 0, .int .i64 0, .int .i64 0, .int .i64 0, .int .i64 0, .int .i64 0, .int .i64 0] 25))
  have hlt : w.heap.size ≤ w.heap.size := Nat.le_refl _
  unfold noC at HB
  simp only at HB
  obtain ⟨W0, hW0⟩ : ∃ x, w.alloc (.cells #[.int .i64 0, .int .i64 0, .int .i64 0, .int .i64 0, .int .i64 0, .int .i64 0, .int .i64 0] 25) = x := ⟨_, rfl⟩
  rw [hW0] at HB HO
  unfold Ct.agg at h1 h2 ⊢
  go_enter Try.func16, Try.ntmps16
  go_upto_region 1 with fail
  clear hW0
  go_wp2_with fail
  refine (h1.out _).mono ?_
  rintro e w1 ⟨rfl, ho1⟩
  have HB1 := hide (HB.out.more ho1)
  have HO1 := hide (o2 HO.out ho1)
  have HX1 := hide (Cb.new w1 x)
  have HA1 := hide (onlyA w1 (.cells #[.int .i64 x.f, .int .i64 x.m, .int .i64 x.l, .int .i64 x.p, .int .i64 x.n, .int .i64 x.s, .int .i64 x.k] 25))
  clear ho1
  go_upto_region 2 with fail
  obtain ⟨W1, hW1⟩ : ∃ z, w1.alloc (.cells #[.int .i64 x.f, .int .i64 x.m, .int .i64 x.l, .int .i64 x.p, .int .i64 x.n, .int .i64 x.s, .int .i64 x.k] 25) = z := ⟨_, rfl⟩
  rw [hW1] at HX1 HA1 ⊢
  have HB2 := hide (HB1.out.more HA1.out)
  have HO2 := hide (o2 HO1.out HA1.out)
  clear hW1
  go_wp2_with fail
  refine (h2.out _).mono ?_
  rintro e w2 ⟨rfl, ho2⟩
  have HB3 := hide (HB2.out.more ho2)
  have HO3 := hide (o2 HO2.out ho2)
  have HX3 := hide (HX1.out.more ho2)
  have HY3 := hide (Cb.new w2 y)
  have HA3 := hide (onlyA w2 (.cells #[.int .i64 y.f, .int .i64 y.m, .int .i64 y.l, .int .i64 y.p, .int .i64 y.n, .int .i64 y.s, .int .i64 y.k] 25))
  clear ho2
  go_upto_region 3 with fail
  obtain ⟨W2, hW2⟩ : ∃ z, w2.alloc (.cells #[.int .i64 y.f, .int .i64 y.m, .int .i64 y.l, .int .i64 y.p, .int .i64 y.n, .int .i64 y.s, .int .i64 y.k] 25) = z := ⟨_, rfl⟩
  rw [hW2] at HY3 HA3 ⊢
  have HB4 := hide (HB3.out.more HA3.out)
  have HX4 := hide (HX3.out.more HA3.out)
  have HO4 := hide (o2 HO3.out HA3.out)
  clear hW2
  obtain ⟨x0, x1, x2, x3, x4, x5, x6, _, _, _, _, _, _, _, _⟩ := HX4.out
  obtain ⟨y0, y1, y2, y3, y4, y5, y6, _, _, _, _, _, _, _, _⟩ := HY3.out
  obtain ⟨d0, d1, d2, d3, d4, d5, d6, df0, df1, df2, df3, df4, df5, df6, _⟩ := HB4.out
  go_wp2_with fail
  refine bodyPost_ret (results_ct rfl rfl (HB4.out.all y)) rfl ?_
  exact ⟨rfl, newer w.heap.size (Only.seven _ _ _ _ _ _ _ _ _) HO4.out hlt⟩
set_option maxRecDepth 100000 in
set_option maxHeartbeats 1600000 in
theorem newest_ge (x y : Ct) (a b : ByteArray) (w : World) (h1 : Hid (∀ W, Calls Try.prog 18 #[.string a, .int .i64 0] W fun e w' => e = .returned (.tuple #[x.agg, .int .i64 0]) ∧ Only (fun _ => False) W w')) (h2 : Hid (∀ W, Calls Try.prog 18 #[.string b, .int .i64 1] W fun e w' => e = .returned (.tuple #[y.agg, .int .i64 0]) ∧ Only (fun _ => False) W w')) (h3 : ¬ x.n < y.n) :
    Calls Try.prog 16 #[.string a, .string b] w fun e w' => e = .returned (.tuple #[x.agg, .int .i64 0]) ∧ Only (fun _ => False) w w' := by
  have h4 : decide (x.n < y.n) = false := by simpa using h3
  have HB := hide (Cb.new w noC)
  have HO := hide (onlyA w (.cells #[.int .i64 0, .int .i64 0, .int .i64 0, .int .i64 0, .int .i64 0, .int .i64 0, .int .i64 0] 25))
  have hlt : w.heap.size ≤ w.heap.size := Nat.le_refl _
  unfold noC at HB
  simp only at HB
  obtain ⟨W0, hW0⟩ : ∃ x, w.alloc (.cells #[.int .i64 0, .int .i64 0, .int .i64 0, .int .i64 0, .int .i64 0, .int .i64 0, .int .i64 0] 25) = x := ⟨_, rfl⟩
  rw [hW0] at HB HO
  unfold Ct.agg at h1 h2 ⊢
  go_enter Try.func16, Try.ntmps16
  go_upto_region 1 with fail
  clear hW0
  go_wp2_with fail
  refine (h1.out _).mono ?_
  rintro e w1 ⟨rfl, ho1⟩
  have HB1 := hide (HB.out.more ho1)
  have HO1 := hide (o2 HO.out ho1)
  have HX1 := hide (Cb.new w1 x)
  have HA1 := hide (onlyA w1 (.cells #[.int .i64 x.f, .int .i64 x.m, .int .i64 x.l, .int .i64 x.p, .int .i64 x.n, .int .i64 x.s, .int .i64 x.k] 25))
  clear ho1
  go_upto_region 2 with fail
  obtain ⟨W1, hW1⟩ : ∃ z, w1.alloc (.cells #[.int .i64 x.f, .int .i64 x.m, .int .i64 x.l, .int .i64 x.p, .int .i64 x.n, .int .i64 x.s, .int .i64 x.k] 25) = z := ⟨_, rfl⟩
  rw [hW1] at HX1 HA1 ⊢
  have HB2 := hide (HB1.out.more HA1.out)
  have HO2 := hide (o2 HO1.out HA1.out)
  clear hW1
  go_wp2_with fail
  refine (h2.out _).mono ?_
  rintro e w2 ⟨rfl, ho2⟩
  have HB3 := hide (HB2.out.more ho2)
  have HO3 := hide (o2 HO2.out ho2)
  have HX3 := hide (HX1.out.more ho2)
  have HY3 := hide (Cb.new w2 y)
  have HA3 := hide (onlyA w2 (.cells #[.int .i64 y.f, .int .i64 y.m, .int .i64 y.l, .int .i64 y.p, .int .i64 y.n, .int .i64 y.s, .int .i64 y.k] 25))
  clear ho2
  go_upto_region 3 with fail
  obtain ⟨W2, hW2⟩ : ∃ z, w2.alloc (.cells #[.int .i64 y.f, .int .i64 y.m, .int .i64 y.l, .int .i64 y.p, .int .i64 y.n, .int .i64 y.s, .int .i64 y.k] 25) = z := ⟨_, rfl⟩
  rw [hW2] at HY3 HA3 ⊢
  have HB4 := hide (HB3.out.more HA3.out)
  have HX4 := hide (HX3.out.more HA3.out)
  have HO4 := hide (o2 HO3.out HA3.out)
  clear hW2
  obtain ⟨x0, x1, x2, x3, x4, x5, x6, _, _, _, _, _, _, _, _⟩ := HX4.out
  obtain ⟨y0, y1, y2, y3, y4, y5, y6, _, _, _, _, _, _, _, _⟩ := HY3.out
  obtain ⟨d0, d1, d2, d3, d4, d5, d6, df0, df1, df2, df3, df4, df5, df6, _⟩ := HB4.out
  go_wp2_with fail
  refine bodyPost_ret (results_ct rfl rfl (HB4.out.all x)) rfl ?_
  exact ⟨rfl, newer w.heap.size (Only.seven _ _ _ _ _ _ _ _ _) HO4.out hlt⟩
set_option maxRecDepth 100000 in
set_option maxHeartbeats 1600000 in
theorem rnewest_none (x y : Ct) (a b : ByteArray) (w : World) (h1 : Hid (∀ W, Calls Try.prog 19 #[.string a, .int .i64 0] W fun e w' => e = .returned (.tuple #[x.agg, .int .i64 223]) ∧ Only (fun _ => False) W w')) (h2 : Hid (∀ W, Calls Try.prog 19 #[.string b, .int .i64 1] W fun e w' => e = .returned (.tuple #[y.agg, .int .i64 223]) ∧ Only (fun _ => False) W w')) :
    Calls Try.prog 17 #[.string a, .string b] w fun e w' => e = .returned (.tuple #[noC.agg, .int .i64 223]) ∧ Only (fun _ => False) w w' := by
  have HB := hide (Cb.new w noC)
  have HO := hide (onlyA w (.cells #[.int .i64 0, .int .i64 0, .int .i64 0, .int .i64 0, .int .i64 0, .int .i64 0, .int .i64 0] 25))
  have hlt : w.heap.size ≤ w.heap.size := Nat.le_refl _
  unfold noC at HB
  simp only at HB
  obtain ⟨W0, hW0⟩ : ∃ x, w.alloc (.cells #[.int .i64 0, .int .i64 0, .int .i64 0, .int .i64 0, .int .i64 0, .int .i64 0, .int .i64 0] 25) = x := ⟨_, rfl⟩
  rw [hW0] at HB HO
  unfold Ct.agg at h1 h2
  go_enter Try.func17, Try.ntmps17
  go_upto_region 1 with fail
  clear hW0
  go_wp2_with fail
  refine (h1.out _).mono ?_
  rintro e w1 ⟨rfl, ho1⟩
  have HB1 := hide (HB.out.more ho1)
  have HO1 := hide (o2 HO.out ho1)
  have HX1 := hide (Cb.new w1 x)
  have HA1 := hide (onlyA w1 (.cells #[.int .i64 x.f, .int .i64 x.m, .int .i64 x.l, .int .i64 x.p, .int .i64 x.n, .int .i64 x.s, .int .i64 x.k] 25))
  clear ho1
  go_upto_region 2 with fail
  obtain ⟨W1, hW1⟩ : ∃ z, w1.alloc (.cells #[.int .i64 x.f, .int .i64 x.m, .int .i64 x.l, .int .i64 x.p, .int .i64 x.n, .int .i64 x.s, .int .i64 x.k] 25) = z := ⟨_, rfl⟩
  rw [hW1] at HX1 HA1 ⊢
  have HB2 := hide (HB1.out.more HA1.out)
  have HO2 := hide (o2 HO1.out HA1.out)
  clear hW1
  go_wp2_with fail
  refine (h2.out _).mono ?_
  rintro e w2 ⟨rfl, ho2⟩
  have HB3 := hide (HB2.out.more ho2)
  have HO3 := hide (o2 HO2.out ho2)
  have HX3 := hide (HX1.out.more ho2)
  have HY3 := hide (Cb.new w2 y)
  have HA3 := hide (onlyA w2 (.cells #[.int .i64 y.f, .int .i64 y.m, .int .i64 y.l, .int .i64 y.p, .int .i64 y.n, .int .i64 y.s, .int .i64 y.k] 25))
  clear ho2
  go_upto_region 3 with fail
  obtain ⟨W2, hW2⟩ : ∃ z, w2.alloc (.cells #[.int .i64 y.f, .int .i64 y.m, .int .i64 y.l, .int .i64 y.p, .int .i64 y.n, .int .i64 y.s, .int .i64 y.k] 25) = z := ⟨_, rfl⟩
  rw [hW2] at HY3 HA3 ⊢
  have HB4 := hide (HB3.out.more HA3.out)
  have HX4 := hide (HX3.out.more HA3.out)
  have HO4 := hide (o2 HO3.out HA3.out)
  clear hW2
  obtain ⟨x0, x1, x2, x3, x4, x5, x6, _, _, _, _, _, _, _, _⟩ := HX4.out
  obtain ⟨y0, y1, y2, y3, y4, y5, y6, _, _, _, _, _, _, _, _⟩ := HY3.out
  obtain ⟨d0, d1, d2, d3, d4, d5, d6, df0, df1, df2, df3, df4, df5, df6, _⟩ := HB4.out
  go_wp2_with fail
  refine bodyPost_ret (results_ct rfl rfl (HB4.out.all noC)) rfl ?_
  exact ⟨rfl, newer w.heap.size (Only.seven _ _ _ _ _ _ _ _ _) HO4.out hlt⟩
set_option maxRecDepth 100000 in
set_option maxHeartbeats 1600000 in
theorem rnewest_right (x y : Ct) (a b : ByteArray) (w : World) (h1 : Hid (∀ W, Calls Try.prog 19 #[.string a, .int .i64 0] W fun e w' => e = .returned (.tuple #[x.agg, .int .i64 223]) ∧ Only (fun _ => False) W w')) (h2 : Hid (∀ W, Calls Try.prog 19 #[.string b, .int .i64 1] W fun e w' => e = .returned (.tuple #[y.agg, .int .i64 0]) ∧ Only (fun _ => False) W w')) :
    Calls Try.prog 17 #[.string a, .string b] w fun e w' => e = .returned (.tuple #[y.agg, .int .i64 0]) ∧ Only (fun _ => False) w w' := by
  have HB := hide (Cb.new w noC)
  have HO := hide (onlyA w (.cells #[.int .i64 0, .int .i64 0, .int .i64 0, .int .i64 0, .int .i64 0, .int .i64 0, .int .i64 0] 25))
  have hlt : w.heap.size ≤ w.heap.size := Nat.le_refl _
  unfold noC at HB
  simp only at HB
  obtain ⟨W0, hW0⟩ : ∃ x, w.alloc (.cells #[.int .i64 0, .int .i64 0, .int .i64 0, .int .i64 0, .int .i64 0, .int .i64 0, .int .i64 0] 25) = x := ⟨_, rfl⟩
  rw [hW0] at HB HO
  unfold Ct.agg at h1 h2 ⊢
  go_enter Try.func17, Try.ntmps17
  go_upto_region 1 with fail
  clear hW0
  go_wp2_with fail
  refine (h1.out _).mono ?_
  rintro e w1 ⟨rfl, ho1⟩
  have HB1 := hide (HB.out.more ho1)
  have HO1 := hide (o2 HO.out ho1)
  have HX1 := hide (Cb.new w1 x)
  have HA1 := hide (onlyA w1 (.cells #[.int .i64 x.f, .int .i64 x.m, .int .i64 x.l, .int .i64 x.p, .int .i64 x.n, .int .i64 x.s, .int .i64 x.k] 25))
  clear ho1
  go_upto_region 2 with fail
  obtain ⟨W1, hW1⟩ : ∃ z, w1.alloc (.cells #[.int .i64 x.f, .int .i64 x.m, .int .i64 x.l, .int .i64 x.p, .int .i64 x.n, .int .i64 x.s, .int .i64 x.k] 25) = z := ⟨_, rfl⟩
  rw [hW1] at HX1 HA1 ⊢
  have HB2 := hide (HB1.out.more HA1.out)
  have HO2 := hide (o2 HO1.out HA1.out)
  clear hW1
  go_wp2_with fail
  refine (h2.out _).mono ?_
  rintro e w2 ⟨rfl, ho2⟩
  have HB3 := hide (HB2.out.more ho2)
  have HO3 := hide (o2 HO2.out ho2)
  have HX3 := hide (HX1.out.more ho2)
  have HY3 := hide (Cb.new w2 y)
  have HA3 := hide (onlyA w2 (.cells #[.int .i64 y.f, .int .i64 y.m, .int .i64 y.l, .int .i64 y.p, .int .i64 y.n, .int .i64 y.s, .int .i64 y.k] 25))
  clear ho2
  go_upto_region 3 with fail
  obtain ⟨W2, hW2⟩ : ∃ z, w2.alloc (.cells #[.int .i64 y.f, .int .i64 y.m, .int .i64 y.l, .int .i64 y.p, .int .i64 y.n, .int .i64 y.s, .int .i64 y.k] 25) = z := ⟨_, rfl⟩
  rw [hW2] at HY3 HA3 ⊢
  have HB4 := hide (HB3.out.more HA3.out)
  have HX4 := hide (HX3.out.more HA3.out)
  have HO4 := hide (o2 HO3.out HA3.out)
  clear hW2
  obtain ⟨x0, x1, x2, x3, x4, x5, x6, _, _, _, _, _, _, _, _⟩ := HX4.out
  obtain ⟨y0, y1, y2, y3, y4, y5, y6, _, _, _, _, _, _, _, _⟩ := HY3.out
  obtain ⟨d0, d1, d2, d3, d4, d5, d6, df0, df1, df2, df3, df4, df5, df6, _⟩ := HB4.out
  go_wp2_with fail
  refine bodyPost_ret (results_ct rfl rfl (HB4.out.all y)) rfl ?_
  exact ⟨rfl, newer w.heap.size (Only.seven _ _ _ _ _ _ _ _ _) HO4.out hlt⟩
set_option maxRecDepth 100000 in
set_option maxHeartbeats 1600000 in
theorem rnewest_left (x y : Ct) (a b : ByteArray) (w : World) (h1 : Hid (∀ W, Calls Try.prog 19 #[.string a, .int .i64 0] W fun e w' => e = .returned (.tuple #[x.agg, .int .i64 0]) ∧ Only (fun _ => False) W w')) (h2 : Hid (∀ W, Calls Try.prog 19 #[.string b, .int .i64 1] W fun e w' => e = .returned (.tuple #[y.agg, .int .i64 223]) ∧ Only (fun _ => False) W w')) :
    Calls Try.prog 17 #[.string a, .string b] w fun e w' => e = .returned (.tuple #[x.agg, .int .i64 0]) ∧ Only (fun _ => False) w w' := by
  have HB := hide (Cb.new w noC)
  have HO := hide (onlyA w (.cells #[.int .i64 0, .int .i64 0, .int .i64 0, .int .i64 0, .int .i64 0, .int .i64 0, .int .i64 0] 25))
  have hlt : w.heap.size ≤ w.heap.size := Nat.le_refl _
  unfold noC at HB
  simp only at HB
  obtain ⟨W0, hW0⟩ : ∃ x, w.alloc (.cells #[.int .i64 0, .int .i64 0, .int .i64 0, .int .i64 0, .int .i64 0, .int .i64 0, .int .i64 0] 25) = x := ⟨_, rfl⟩
  rw [hW0] at HB HO
  unfold Ct.agg at h1 h2 ⊢
  go_enter Try.func17, Try.ntmps17
  go_upto_region 1 with fail
  clear hW0
  go_wp2_with fail
  refine (h1.out _).mono ?_
  rintro e w1 ⟨rfl, ho1⟩
  have HB1 := hide (HB.out.more ho1)
  have HO1 := hide (o2 HO.out ho1)
  have HX1 := hide (Cb.new w1 x)
  have HA1 := hide (onlyA w1 (.cells #[.int .i64 x.f, .int .i64 x.m, .int .i64 x.l, .int .i64 x.p, .int .i64 x.n, .int .i64 x.s, .int .i64 x.k] 25))
  clear ho1
  go_upto_region 2 with fail
  obtain ⟨W1, hW1⟩ : ∃ z, w1.alloc (.cells #[.int .i64 x.f, .int .i64 x.m, .int .i64 x.l, .int .i64 x.p, .int .i64 x.n, .int .i64 x.s, .int .i64 x.k] 25) = z := ⟨_, rfl⟩
  rw [hW1] at HX1 HA1 ⊢
  have HB2 := hide (HB1.out.more HA1.out)
  have HO2 := hide (o2 HO1.out HA1.out)
  clear hW1
  go_wp2_with fail
  refine (h2.out _).mono ?_
  rintro e w2 ⟨rfl, ho2⟩
  have HB3 := hide (HB2.out.more ho2)
  have HO3 := hide (o2 HO2.out ho2)
  have HX3 := hide (HX1.out.more ho2)
  have HY3 := hide (Cb.new w2 y)
  have HA3 := hide (onlyA w2 (.cells #[.int .i64 y.f, .int .i64 y.m, .int .i64 y.l, .int .i64 y.p, .int .i64 y.n, .int .i64 y.s, .int .i64 y.k] 25))
  clear ho2
  go_upto_region 3 with fail
  obtain ⟨W2, hW2⟩ : ∃ z, w2.alloc (.cells #[.int .i64 y.f, .int .i64 y.m, .int .i64 y.l, .int .i64 y.p, .int .i64 y.n, .int .i64 y.s, .int .i64 y.k] 25) = z := ⟨_, rfl⟩
  rw [hW2] at HY3 HA3 ⊢
  have HB4 := hide (HB3.out.more HA3.out)
  have HX4 := hide (HX3.out.more HA3.out)
  have HO4 := hide (o2 HO3.out HA3.out)
  clear hW2
  obtain ⟨x0, x1, x2, x3, x4, x5, x6, _, _, _, _, _, _, _, _⟩ := HX4.out
  obtain ⟨y0, y1, y2, y3, y4, y5, y6, _, _, _, _, _, _, _, _⟩ := HY3.out
  obtain ⟨d0, d1, d2, d3, d4, d5, d6, df0, df1, df2, df3, df4, df5, df6, _⟩ := HB4.out
  go_wp2_with fail
  refine bodyPost_ret (results_ct rfl rfl (HB4.out.all x)) rfl ?_
  exact ⟨rfl, newer w.heap.size (Only.seven _ _ _ _ _ _ _ _ _) HO4.out hlt⟩
set_option maxRecDepth 100000 in
set_option maxHeartbeats 1600000 in
theorem rnewest_lt (x y : Ct) (a b : ByteArray) (w : World) (h1 : Hid (∀ W, Calls Try.prog 19 #[.string a, .int .i64 0] W fun e w' => e = .returned (.tuple #[x.agg, .int .i64 0]) ∧ Only (fun _ => False) W w')) (h2 : Hid (∀ W, Calls Try.prog 19 #[.string b, .int .i64 1] W fun e w' => e = .returned (.tuple #[y.agg, .int .i64 0]) ∧ Only (fun _ => False) W w')) (h3 : x.n < y.n) :
    Calls Try.prog 17 #[.string a, .string b] w fun e w' => e = .returned (.tuple #[y.agg, .int .i64 0]) ∧ Only (fun _ => False) w w' := by
  have h4 : decide (x.n < y.n) = true := by simpa using h3
  have HB := hide (Cb.new w noC)
  have HO := hide (onlyA w (.cells #[.int .i64 0, .int .i64 0, .int .i64 0, .int .i64 0, .int .i64 0, .int .i64 0, .int .i64 0] 25))
  have hlt : w.heap.size ≤ w.heap.size := Nat.le_refl _
  unfold noC at HB
  simp only at HB
  obtain ⟨W0, hW0⟩ : ∃ x, w.alloc (.cells #[.int .i64 0, .int .i64 0, .int .i64 0, .int .i64 0, .int .i64 0, .int .i64 0, .int .i64 0] 25) = x := ⟨_, rfl⟩
  rw [hW0] at HB HO
  unfold Ct.agg at h1 h2 ⊢
  go_enter Try.func17, Try.ntmps17
  go_upto_region 1 with fail
  clear hW0
  go_wp2_with fail
  refine (h1.out _).mono ?_
  rintro e w1 ⟨rfl, ho1⟩
  have HB1 := hide (HB.out.more ho1)
  have HO1 := hide (o2 HO.out ho1)
  have HX1 := hide (Cb.new w1 x)
  have HA1 := hide (onlyA w1 (.cells #[.int .i64 x.f, .int .i64 x.m, .int .i64 x.l, .int .i64 x.p, .int .i64 x.n, .int .i64 x.s, .int .i64 x.k] 25))
  clear ho1
  go_upto_region 2 with fail
  obtain ⟨W1, hW1⟩ : ∃ z, w1.alloc (.cells #[.int .i64 x.f, .int .i64 x.m, .int .i64 x.l, .int .i64 x.p, .int .i64 x.n, .int .i64 x.s, .int .i64 x.k] 25) = z := ⟨_, rfl⟩
  rw [hW1] at HX1 HA1 ⊢
  have HB2 := hide (HB1.out.more HA1.out)
  have HO2 := hide (o2 HO1.out HA1.out)
  clear hW1
  go_wp2_with fail
  refine (h2.out _).mono ?_
  rintro e w2 ⟨rfl, ho2⟩
  have HB3 := hide (HB2.out.more ho2)
  have HO3 := hide (o2 HO2.out ho2)
  have HX3 := hide (HX1.out.more ho2)
  have HY3 := hide (Cb.new w2 y)
  have HA3 := hide (onlyA w2 (.cells #[.int .i64 y.f, .int .i64 y.m, .int .i64 y.l, .int .i64 y.p, .int .i64 y.n, .int .i64 y.s, .int .i64 y.k] 25))
  clear ho2
  go_upto_region 3 with fail
  obtain ⟨W2, hW2⟩ : ∃ z, w2.alloc (.cells #[.int .i64 y.f, .int .i64 y.m, .int .i64 y.l, .int .i64 y.p, .int .i64 y.n, .int .i64 y.s, .int .i64 y.k] 25) = z := ⟨_, rfl⟩
  rw [hW2] at HY3 HA3 ⊢
  have HB4 := hide (HB3.out.more HA3.out)
  have HX4 := hide (HX3.out.more HA3.out)
  have HO4 := hide (o2 HO3.out HA3.out)
  clear hW2
  obtain ⟨x0, x1, x2, x3, x4, x5, x6, _, _, _, _, _, _, _, _⟩ := HX4.out
  obtain ⟨y0, y1, y2, y3, y4, y5, y6, _, _, _, _, _, _, _, _⟩ := HY3.out
  obtain ⟨d0, d1, d2, d3, d4, d5, d6, df0, df1, df2, df3, df4, df5, df6, _⟩ := HB4.out
  go_wp2_with fail
  refine bodyPost_ret (results_ct rfl rfl (HB4.out.all y)) rfl ?_
  exact ⟨rfl, newer w.heap.size (Only.seven _ _ _ _ _ _ _ _ _) HO4.out hlt⟩
set_option maxRecDepth 100000 in
set_option maxHeartbeats 1600000 in
theorem rnewest_ge (x y : Ct) (a b : ByteArray) (w : World) (h1 : Hid (∀ W, Calls Try.prog 19 #[.string a, .int .i64 0] W fun e w' => e = .returned (.tuple #[x.agg, .int .i64 0]) ∧ Only (fun _ => False) W w')) (h2 : Hid (∀ W, Calls Try.prog 19 #[.string b, .int .i64 1] W fun e w' => e = .returned (.tuple #[y.agg, .int .i64 0]) ∧ Only (fun _ => False) W w')) (h3 : ¬ x.n < y.n) :
    Calls Try.prog 17 #[.string a, .string b] w fun e w' => e = .returned (.tuple #[x.agg, .int .i64 0]) ∧ Only (fun _ => False) w w' := by
  have h4 : decide (x.n < y.n) = false := by simpa using h3
  have HB := hide (Cb.new w noC)
  have HO := hide (onlyA w (.cells #[.int .i64 0, .int .i64 0, .int .i64 0, .int .i64 0, .int .i64 0, .int .i64 0, .int .i64 0] 25))
  have hlt : w.heap.size ≤ w.heap.size := Nat.le_refl _
  unfold noC at HB
  simp only at HB
  obtain ⟨W0, hW0⟩ : ∃ x, w.alloc (.cells #[.int .i64 0, .int .i64 0, .int .i64 0, .int .i64 0, .int .i64 0, .int .i64 0, .int .i64 0] 25) = x := ⟨_, rfl⟩
  rw [hW0] at HB HO
  unfold Ct.agg at h1 h2 ⊢
  go_enter Try.func17, Try.ntmps17
  go_upto_region 1 with fail
  clear hW0
  go_wp2_with fail
  refine (h1.out _).mono ?_
  rintro e w1 ⟨rfl, ho1⟩
  have HB1 := hide (HB.out.more ho1)
  have HO1 := hide (o2 HO.out ho1)
  have HX1 := hide (Cb.new w1 x)
  have HA1 := hide (onlyA w1 (.cells #[.int .i64 x.f, .int .i64 x.m, .int .i64 x.l, .int .i64 x.p, .int .i64 x.n, .int .i64 x.s, .int .i64 x.k] 25))
  clear ho1
  go_upto_region 2 with fail
  obtain ⟨W1, hW1⟩ : ∃ z, w1.alloc (.cells #[.int .i64 x.f, .int .i64 x.m, .int .i64 x.l, .int .i64 x.p, .int .i64 x.n, .int .i64 x.s, .int .i64 x.k] 25) = z := ⟨_, rfl⟩
  rw [hW1] at HX1 HA1 ⊢
  have HB2 := hide (HB1.out.more HA1.out)
  have HO2 := hide (o2 HO1.out HA1.out)
  clear hW1
  go_wp2_with fail
  refine (h2.out _).mono ?_
  rintro e w2 ⟨rfl, ho2⟩
  have HB3 := hide (HB2.out.more ho2)
  have HO3 := hide (o2 HO2.out ho2)
  have HX3 := hide (HX1.out.more ho2)
  have HY3 := hide (Cb.new w2 y)
  have HA3 := hide (onlyA w2 (.cells #[.int .i64 y.f, .int .i64 y.m, .int .i64 y.l, .int .i64 y.p, .int .i64 y.n, .int .i64 y.s, .int .i64 y.k] 25))
  clear ho2
  go_upto_region 3 with fail
  obtain ⟨W2, hW2⟩ : ∃ z, w2.alloc (.cells #[.int .i64 y.f, .int .i64 y.m, .int .i64 y.l, .int .i64 y.p, .int .i64 y.n, .int .i64 y.s, .int .i64 y.k] 25) = z := ⟨_, rfl⟩
  rw [hW2] at HY3 HA3 ⊢
  have HB4 := hide (HB3.out.more HA3.out)
  have HX4 := hide (HX3.out.more HA3.out)
  have HO4 := hide (o2 HO3.out HA3.out)
  clear hW2
  obtain ⟨x0, x1, x2, x3, x4, x5, x6, _, _, _, _, _, _, _, _⟩ := HX4.out
  obtain ⟨y0, y1, y2, y3, y4, y5, y6, _, _, _, _, _, _, _, _⟩ := HY3.out
  obtain ⟨d0, d1, d2, d3, d4, d5, d6, df0, df1, df2, df3, df4, df5, df6, _⟩ := HB4.out
  go_wp2_with fail
  refine bodyPost_ret (results_ct rfl rfl (HB4.out.all x)) rfl ?_
  exact ⟨rfl, newer w.heap.size (Only.seven _ _ _ _ _ _ _ _ _) HO4.out hlt⟩
theorem newest_any (a b : ByteArray) (w : World) : Calls Try.prog 16 #[.string a, .string b] w fun e w' => e = .returned (outC (newC (bl a) (bl b))) ∧ Only (fun _ => False) w w' := by
  have h1 : Hid (∀ W, Calls Try.prog 18 #[.string a, .int .i64 0] W fun e w' => e = .returned (outC (decC (bl a) 0)) ∧ Only (fun _ => False) W w') := fun W => decode_any a 0 W
  have h2 : Hid (∀ W, Calls Try.prog 18 #[.string b, .int .i64 1] W fun e w' => e = .returned (outC (decC (bl b) 1)) ∧ Only (fun _ => False) W w') := fun W => decode_any b 1 W
  unfold newC
  cases hx : decC (bl a) 0 with
  | none =>
    rw [hx, out_noC] at h1
    cases hy : decC (bl b) 1 with
    | none =>
      rw [hy, out_noC] at h2
      exact newest_bad noC noC a b w 223 h1 h2
    | some y =>
      rw [hy, out_someC] at h2
      exact newest_bad noC y a b w 0 h1 h2
  | some x =>
    rw [hx, out_someC] at h1
    cases hy : decC (bl b) 1 with
    | none =>
      rw [hy, out_noC] at h2
      exact newest_left x noC a b w h1 h2
    | some y =>
      rw [hy, out_someC] at h2
      by_cases hl : x.n < y.n
      · simp only [if_pos hl]
        exact newest_lt x y a b w h1 h2 hl
      · simp only [if_neg hl]
        exact newest_ge x y a b w h1 h2 hl
theorem rnewest_any (a b : ByteArray) (w : World) : Calls Try.prog 17 #[.string a, .string b] w fun e w' => e = .returned (outC (newC (bl a) (bl b))) ∧ Only (fun _ => False) w w' := by
  have h1 : Hid (∀ W, Calls Try.prog 19 #[.string a, .int .i64 0] W fun e w' => e = .returned (outC (decC (bl a) 0)) ∧ Only (fun _ => False) W w') := fun W => rdecode_any a 0 W
  have h2 : Hid (∀ W, Calls Try.prog 19 #[.string b, .int .i64 1] W fun e w' => e = .returned (outC (decC (bl b) 1)) ∧ Only (fun _ => False) W w') := fun W => rdecode_any b 1 W
  unfold newC
  cases hx : decC (bl a) 0 with
  | none =>
    rw [hx, out_noC] at h1
    cases hy : decC (bl b) 1 with
    | none =>
      rw [hy, out_noC] at h2
      exact rnewest_none noC noC a b w h1 h2
    | some y =>
      rw [hy, out_someC] at h2
      exact rnewest_right noC y a b w h1 h2
  | some x =>
    rw [hx, out_someC] at h1
    cases hy : decC (bl b) 1 with
    | none =>
      rw [hy, out_noC] at h2
      exact rnewest_left x noC a b w h1 h2
    | some y =>
      rw [hy, out_someC] at h2
      by_cases hl : x.n < y.n
      · simp only [if_pos hl]
        exact rnewest_lt x y a b w h1 h2 hl
      · simp only [if_neg hl]
        exact rnewest_ge x y a b w h1 h2 hl
end Go.Proofs.Ytpogphaflhfmbaa
