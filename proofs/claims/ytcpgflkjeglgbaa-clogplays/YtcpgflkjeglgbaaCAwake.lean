/- The law's own examples. -/
import Derived.Test.YtcpgflkjeglgbaaCBox
namespace Go.Proofs.Ytcpgflkjeglgbaa
open Go.RowKit

theorem id16 {x : Int} (h1 : 1 ≤ x) (h2 : x ≤ 16) : Idd 16 x := ⟨⟨by omega, by omega, by decide⟩, h1, h2⟩
theorem ex1 : blankP 16 3 = ⟨0, 1, 0, 0, ⟨#[]⟩, [⟨#[3]⟩, ⟨#[0, 0, 0, 0]⟩]⟩ := rfl
theorem ex2 : setP ⟨0, 1, 0, 0, ⟨#[]⟩, [⟨#[3]⟩, ⟨#[0, 0, 0, 0]⟩]⟩ 5 2 = ⟨0, 1, 0, 0, ⟨#[]⟩, [⟨#[3]⟩, ⟨#[0, 2, 0, 0]⟩]⟩ := rfl
theorem ex3 : setP ⟨0, 1, 0, 0, ⟨#[]⟩, [⟨#[3]⟩, ⟨#[0, 2, 0, 0]⟩]⟩ 8 3 = ⟨0, 1, 0, 0, ⟨#[]⟩, [⟨#[3]⟩, ⟨#[0, 194, 0, 0]⟩]⟩ := rfl
theorem ok1 : OkP 16 ⟨0, 1, 0, 0, ⟨#[]⟩, [⟨#[3]⟩, ⟨#[0, 0, 0, 0]⟩]⟩ := by
  have := OkP.blank (id16 (x := 3) (by omega) (by omega))
  rw [ex1] at this
  exact this
theorem ok2 : OkP 16 ⟨0, 1, 0, 0, ⟨#[]⟩, [⟨#[3]⟩, ⟨#[0, 2, 0, 0]⟩]⟩ := by
  have := ok1.set (id16 (x := 5) (by omega) (by omega)) (show 2 < 4 by omega)
  rw [ex2] at this
  exact this
theorem ok3 : OkP 16 ⟨0, 1, 0, 0, ⟨#[]⟩, [⟨#[3]⟩, ⟨#[0, 194, 0, 0]⟩]⟩ := by
  have := ok2.set (id16 (x := 8) (by omega) (by omega)) (show 3 < 4 by omega)
  rw [ex3] at this
  exact this
theorem lim3 : lim 16 ⟨#[3]⟩ = 3 := lim_sev (f := 3) (by omega) (by omega) (by omega)
theorem gap38 : xgap 16 3 8 = 5 := by
  rw [ring_gap (id16 (by omega) (by omega)) (id16 (by omega) (by omega)), if_pos (by omega)]
  rfl
theorem on16 {x : Int} (h1 : 1 ≤ x) (h2 : x ≤ 15) : xadd 16 x 1 = x + 1 := by
  rw [ring_on (id16 h1 (by omega)) (by omega) (by omega), if_pos (by omega)]
theorem ex4 : clr 16 (xgap 16 (lim 16 ⟨#[3]⟩) 8).toNat (lim 16 ⟨#[3]⟩) (bl ⟨#[0, 194, 0, 0]⟩) = [0, 192, 0, 0] := by
  rw [lim3, gap38]
  show clr 16 5 3 _ = _
  rw [clr, on16 (by omega) (by omega), clr, on16 (by omega) (by omega), clr, on16 (by omega) (by omega), clr, on16 (by omega) (by omega), clr, clr]
  rfl
set_option maxRecDepth 100000 in
set_option maxHeartbeats 1600000 in
theorem cawake_any (w : World) : Calls Try.prog 19 #[] w fun e w' => e = .returned (.bool true) ∧ Only (fun _ => False) w w' := by
  have HB : Hid (Calls Try.prog 20 #[.int .i64 16, .int .i64 3] w fun e w' => Res w w' e ⟨0, 1, 0, 0, ⟨#[]⟩, [⟨#[3]⟩, ⟨#[0, 0, 0, 0]⟩]⟩ 0) := by
    have := cblank_ok w 16 3 (id16 (by omega) (by omega))
    rw [ex1] at this
    exact this
  have HS2 := hide (fun W B ao cp (hS : Strs W B ao [⟨#[3]⟩, ⟨#[0, 0, 0, 0]⟩]) => cset_ok W 16 0 5 cp B ao ⟨#[3]⟩ ⟨#[0, 0, 0, 0]⟩ 2 hS ok1 (id16 (by omega) (by omega)) (by omega))
  have HS3 := hide (fun W B ao cp (hS : Strs W B ao [⟨#[3]⟩, ⟨#[0, 2, 0, 0]⟩]) => cset_ok W 16 0 8 cp B ao ⟨#[3]⟩ ⟨#[0, 2, 0, 0]⟩ 3 hS ok2 (id16 (by omega) (by omega)) (by omega))
  have HC4 := hide (fun W B ao cp (hS : Strs W B ao [⟨#[3]⟩, ⟨#[0, 194, 0, 0]⟩]) => ccut_ok W 16 0 8 cp B ao ⟨#[3]⟩ ⟨#[0, 194, 0, 0]⟩ hS ok3 (id16 (by omega) (by omega)))
  have HG5 := hide (fun W B ao cp (hS : Strs W B ao [⟨#[3]⟩, ⟨#[0, 194, 0, 0]⟩]) => cget_ok W 16 0 5 cp B ao ⟨#[3]⟩ ⟨#[0, 194, 0, 0]⟩ hS ok3 (id16 (by omega) (by omega)))
  simp only [ex4, show stSet (bl ⟨#[0, 0, 0, 0]⟩) ((5 : Int) - 1).toNat 2 = [0, 2, 0, 0] from rfl, show stSet (bl ⟨#[0, 2, 0, 0]⟩) ((8 : Int) - 1).toNat 3 = [0, 194, 0, 0] from rfl, show stAt (bl ⟨#[0, 194, 0, 0]⟩) ((5 : Int) - 1).toNat = 2 from rfl,
    show str [0, 2, 0, 0] = ⟨#[0, 2, 0, 0]⟩ from rfl, show str [0, 194, 0, 0] = ⟨#[0, 194, 0, 0]⟩ from rfl, show str [0, 192, 0, 0] = ⟨#[0, 192, 0, 0]⟩ from rfl, show str (sev (8 : Int).toNat) = ⟨#[8]⟩ from rfl] at HS2 HS3 HC4 HG5
  go_enter Try.func19, Try.ntmps19
  go_wp2_with fail
  refine HB.out.mono ?_
  rintro e w1 ⟨B1, ao1, cp1, rfl, hS1, hF1, ho1, hB1⟩
  have HW1 := hide ho1.size
  have HP1 := hide (PgB.new hS1 hF1)
  have HN1 := hide (onlyA w1 (.cells #[.int .i64 0, .int .i64 1, .int .i64 0, .int .i64 0, .string ⟨#[]⟩, .slice ao1 2 cp1] 24))
  have HL1 := hide (hS1.lt (by simp))
  have HM1 := hide (hB1 (by simp))
  have HO1 := hide (ho1)
  simp only [List.length_cons, List.length_nil, Nat.zero_add, Nat.reduceAdd] at HP1 ⊢
  clear hS1 hF1 hB1 ho1
  go_upto_region 2 with fail
  obtain ⟨b1, hb1⟩ : ∃ b, w1.heap.size = b := ⟨_, rfl⟩
  have HZ1 := hide hb1
  obtain ⟨W1, hW1⟩ : ∃ W, w1.alloc (.cells #[.int .i64 0, .int .i64 1, .int .i64 0, .int .i64 0, .string ⟨#[]⟩, .slice ao1 2 cp1] 24) = W := ⟨_, rfl⟩
  rw [hW1] at HP1 HN1 ⊢
  rw [hb1] at HP1 HL1 ⊢
  clear hW1 hb1
  have HO1 := hide (o2 HO1.out HN1.out)
  obtain ⟨xo, rfl, hc⟩ := HP1.out.strs.at_ (by simp)
  have xd0 := hc 0 (by simp)
  have xd1 := hc 1 (by simp)
  simp only [List.getElem_cons_zero, List.getElem_cons_succ, Nat.add_zero] at xd0 xd1
  clear hc
  obtain ⟨xp0, xp1, xp2, xp3, xp4, xp5, xf0, xf1, xf2, xf3, xf4, xf5, xfl⟩ := HP1.out.pag
  simp only [List.length_cons, List.length_nil, Nat.zero_add, Nat.reduceAdd] at xp5
  go_upto_region 4 with fail
  go_wp2_with fail
  refine (HS2.out _ _ _ _ HP1.out.strs).mono ?_
  rintro e w2 ⟨B2, ao2, cp2, rfl, hS2, hF2, ho2, hB2⟩
  clear xp0 xp1 xp2 xp3 xp4 xp5 xf0 xf1 xf2 xf3 xf4 xf5 xfl xd0 xd1
  have HQ := hide (HP1.out.more ho2)
  have HT := hide (PgB.put (p := ⟨0, 1, 0, 0, ⟨#[]⟩, [⟨#[3]⟩, ⟨#[0, 2, 0, 0]⟩]⟩) HQ.out.pag hS2 hF2 (fun _ => by have := hB2 (by simp); have := HP1.out.pag.lt; omega))
  have HU := hide (Only.six w2 b1 (.int .i64 0) (.int .i64 1) (.int .i64 0) (.int .i64 0) (.string ⟨#[]⟩) (.slice ao2 2 cp2))
  have HO2 : Hid (Only (fun _ => False) w ((((((w2.setCell ⟨b1, 0, none⟩ (.int .i64 0)).setCell ⟨b1, 1, none⟩ (.int .i64 1)).setCell ⟨b1, 2, none⟩ (.int .i64 0)).setCell ⟨b1, 3, none⟩ (.int .i64 0)).setCell ⟨b1, 4, none⟩ (.string ⟨#[]⟩)).setCell ⟨b1, 5, none⟩ (.slice ao2 2 cp2))) := by
    refine (o2 HO1.out ho2).trans HU.out (fun i hi e => ?_)
    have := HZ1.out
    have := HW1.out
    omega
  simp only [List.length_cons, List.length_nil, Nat.zero_add, Nat.reduceAdd] at HT ⊢
  clear hS2 hF2 hB2 HU
  obtain ⟨q0, q1, q2, q3, q4, q5, t0, t1, t2, t3, t4, t5, tl⟩ := HQ.out.pag
  simp only [List.length_cons, List.length_nil, Nat.zero_add, Nat.reduceAdd] at q5
  clear ho2
  go_upto_region 5 with fail
  obtain ⟨W2, hW2⟩ : ∃ W, ((((((w2.setCell ⟨b1, 0, none⟩ (.int .i64 0)).setCell ⟨b1, 1, none⟩ (.int .i64 1)).setCell ⟨b1, 2, none⟩ (.int .i64 0)).setCell ⟨b1, 3, none⟩ (.int .i64 0)).setCell ⟨b1, 4, none⟩ (.string ⟨#[]⟩)).setCell ⟨b1, 5, none⟩ (.slice ao2 2 cp2)) = W := ⟨_, rfl⟩
  rw [hW2] at HT HO2 ⊢
  clear hW2 q0 q1 q2 q3 q4 q5 t0 t1 t2 t3 t4 t5 tl HQ HP1
  obtain ⟨xp0, xp1, xp2, xp3, xp4, xp5, xf0, xf1, xf2, xf3, xf4, xf5, xfl⟩ := HT.out.pag
  simp only [List.length_cons, List.length_nil, Nat.zero_add, Nat.reduceAdd] at xp5
  go_wp2_with fail
  refine (HS3.out _ _ _ _ HT.out.strs).mono ?_
  rintro e w3 ⟨B3, ao3, cp3, rfl, hS3, hF3, ho3, hB3⟩
  clear xp0 xp1 xp2 xp3 xp4 xp5 xf0 xf1 xf2 xf3 xf4 xf5 xfl
  have HP3 := hide (PgB.new hS3 hF3)
  have HN3 := hide (onlyA w3 (.cells #[.int .i64 0, .int .i64 1, .int .i64 0, .int .i64 0, .string ⟨#[]⟩, .slice ao3 2 cp3] 24))
  have HL3 := hide (hS3.lt (by simp))
  have HM3 := hide (hB3 (by simp))
  have HO3 := hide (o2 HO2.out ho3)
  simp only [List.length_cons, List.length_nil, Nat.zero_add, Nat.reduceAdd] at HP3 ⊢
  clear hS3 hF3 hB3 ho3
  go_upto_region 6 with fail
  obtain ⟨b3, hb3⟩ : ∃ b, w3.heap.size = b := ⟨_, rfl⟩
  have HZ3 := hide hb3
  obtain ⟨W3, hW3⟩ : ∃ W, w3.alloc (.cells #[.int .i64 0, .int .i64 1, .int .i64 0, .int .i64 0, .string ⟨#[]⟩, .slice ao3 2 cp3] 24) = W := ⟨_, rfl⟩
  rw [hW3] at HP3 HN3 ⊢
  rw [hb3] at HP3 HL3 ⊢
  clear hW3 hb3
  have HO3 := hide (o2 HO3.out HN3.out)
  obtain ⟨yp0, yp1, yp2, yp3, yp4, yp5, yf0, yf1, yf2, yf3, yf4, yf5, yfl⟩ := HP3.out.pag
  simp only [List.length_cons, List.length_nil, Nat.zero_add, Nat.reduceAdd] at yp5
  go_wp2_with fail
  refine (HC4.out _ _ _ _ HP3.out.strs).mono ?_
  rintro e w4 ⟨B4, ao4, cp4, rfl, hS4, hF4, ho4, hB4⟩
  clear yp0 yp1 yp2 yp3 yp4 yp5 yf0 yf1 yf2 yf3 yf4 yf5 yfl
  have HP4 := hide (PgB.new hS4 hF4)
  have HN4 := hide (onlyA w4 (.cells #[.int .i64 0, .int .i64 1, .int .i64 0, .int .i64 0, .string ⟨#[]⟩, .slice ao4 2 cp4] 24))
  have HL4 := hide (hS4.lt (by simp))
  have HM4 := hide (hB4 (by simp))
  have HO4 := hide (o2 HO3.out ho4)
  have HP3 := hide (HP3.out.more ho4)
  simp only [List.length_cons, List.length_nil, Nat.zero_add, Nat.reduceAdd] at HP4 ⊢
  clear hS4 hF4 hB4 ho4
  go_upto_region 7 with fail
  obtain ⟨b4, hb4⟩ : ∃ b, w4.heap.size = b := ⟨_, rfl⟩
  have HZ4 := hide hb4
  obtain ⟨W4, hW4⟩ : ∃ W, w4.alloc (.cells #[.int .i64 0, .int .i64 1, .int .i64 0, .int .i64 0, .string ⟨#[]⟩, .slice ao4 2 cp4] 24) = W := ⟨_, rfl⟩
  rw [hW4] at HP4 HN4 ⊢
  rw [hb4] at HP4 HL4 ⊢
  clear hW4 hb4
  have HO4 := hide (o2 HO4.out HN4.out)
  have HP3 := hide (HP3.out.more HN4.out)
  obtain ⟨yp0, yp1, yp2, yp3, yp4, yp5, yf0, yf1, yf2, yf3, yf4, yf5, yfl⟩ := HP3.out.pag
  simp only [List.length_cons, List.length_nil, Nat.zero_add, Nat.reduceAdd] at yp5
  go_wp2_with fail
  refine (HG5.out _ _ _ _ HP3.out.strs).mono ?_
  rintro e w5 ⟨rfl, ho5⟩
  have HO5 := hide (o2 HO4.out ho5)
  have HP3 := hide (HP3.out.more ho5)
  have HP4 := hide (HP4.out.more ho5)
  clear ho5 yp0 yp1 yp2 yp3 yp4 yp5 yf0 yf1 yf2 yf3 yf4 yf5 yfl
  obtain ⟨yo, rfl, hc⟩ := HP3.out.strs.at_ (by simp)
  have yd0 := hc 0 (by simp)
  have yd1 := hc 1 (by simp)
  simp only [List.getElem_cons_zero, List.getElem_cons_succ, Nat.add_zero] at yd0 yd1
  clear hc
  obtain ⟨yp0, yp1, yp2, yp3, yp4, yp5, yf0, yf1, yf2, yf3, yf4, yf5, yfl⟩ := HP3.out.pag
  simp only [List.length_cons, List.length_nil, Nat.zero_add, Nat.reduceAdd] at yp5
  obtain ⟨zo, rfl, hc⟩ := HP4.out.strs.at_ (by simp)
  have zd0 := hc 0 (by simp)
  have zd1 := hc 1 (by simp)
  simp only [List.getElem_cons_zero, List.getElem_cons_succ, Nat.add_zero] at zd0 zd1
  clear hc
  obtain ⟨zp0, zp1, zp2, zp3, zp4, zp5, zf0, zf1, zf2, zf3, zf4, zf5, zfl⟩ := HP4.out.pag
  simp only [List.length_cons, List.length_nil, Nat.zero_add, Nat.reduceAdd] at zp5
  go_wp2_with fail
  go_ret
  exact ⟨rfl, HO5.out⟩
end Go.Proofs.Ytcpgflkjeglgbaa
