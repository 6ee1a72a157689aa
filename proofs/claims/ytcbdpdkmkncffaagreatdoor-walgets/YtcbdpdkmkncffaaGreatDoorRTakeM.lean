/- What takeImage does. -/
import Derived.Test.YtcbdpdkmkncffaaGreatDoorRTake
namespace Go.Proofs.YtcbdpdkmkncffaaGreatDoor
open Go.RowKit

theorem set_seven {w : World} {b : Nat} {u0 u1 u2 u3 u4 u5 u6 : Value} (c0 : w.cell? ⟨b, 0, none⟩ = some u0) (c1 : w.cell? ⟨b, 1, none⟩ = some u1) (c2 : w.cell? ⟨b, 2, none⟩ = some u2) (c3 : w.cell? ⟨b, 3, none⟩ = some u3) (c4 : w.cell? ⟨b, 4, none⟩ = some u4) (c5 : w.cell? ⟨b, 5, none⟩ = some u5) (c6 : w.cell? ⟨b, 6, none⟩ = some u6) (v0 v1 v2 v3 v4 v5 v6 : Value) : (((((((w.setCell ⟨b, 0, none⟩ v0).setCell ⟨b, 1, none⟩ v1).setCell ⟨b, 2, none⟩ v2).setCell ⟨b, 3, none⟩ v3).setCell ⟨b, 4, none⟩ v4).setCell ⟨b, 5, none⟩ v5).setCell ⟨b, 6, none⟩ v6).cell? ⟨b, 0, none⟩ = some v0 ∧ (((((((w.setCell ⟨b, 0, none⟩ v0).setCell ⟨b, 1, none⟩ v1).setCell ⟨b, 2, none⟩ v2).setCell ⟨b, 3, none⟩ v3).setCell ⟨b, 4, none⟩ v4).setCell ⟨b, 5, none⟩ v5).setCell ⟨b, 6, none⟩ v6).cell? ⟨b, 1, none⟩ = some v1 ∧ (((((((w.setCell ⟨b, 0, none⟩ v0).setCell ⟨b, 1, none⟩ v1).setCell ⟨b, 2, none⟩ v2).setCell ⟨b, 3, none⟩ v3).setCell ⟨b, 4, none⟩ v4).setCell ⟨b, 5, none⟩ v5).setCell ⟨b, 6, none⟩ v6).cell? ⟨b, 2, none⟩ = some v2 ∧ (((((((w.setCell ⟨b, 0, none⟩ v0).setCell ⟨b, 1, none⟩ v1).setCell ⟨b, 2, none⟩ v2).setCell ⟨b, 3, none⟩ v3).setCell ⟨b, 4, none⟩ v4).setCell ⟨b, 5, none⟩ v5).setCell ⟨b, 6, none⟩ v6).cell? ⟨b, 3, none⟩ = some v3 ∧ (((((((w.setCell ⟨b, 0, none⟩ v0).setCell ⟨b, 1, none⟩ v1).setCell ⟨b, 2, none⟩ v2).setCell ⟨b, 3, none⟩ v3).setCell ⟨b, 4, none⟩ v4).setCell ⟨b, 5, none⟩ v5).setCell ⟨b, 6, none⟩ v6).cell? ⟨b, 4, none⟩ = some v4 ∧ (((((((w.setCell ⟨b, 0, none⟩ v0).setCell ⟨b, 1, none⟩ v1).setCell ⟨b, 2, none⟩ v2).setCell ⟨b, 3, none⟩ v3).setCell ⟨b, 4, none⟩ v4).setCell ⟨b, 5, none⟩ v5).setCell ⟨b, 6, none⟩ v6).cell? ⟨b, 5, none⟩ = some v5 ∧ (((((((w.setCell ⟨b, 0, none⟩ v0).setCell ⟨b, 1, none⟩ v1).setCell ⟨b, 2, none⟩ v2).setCell ⟨b, 3, none⟩ v3).setCell ⟨b, 4, none⟩ v4).setCell ⟨b, 5, none⟩ v5).setCell ⟨b, 6, none⟩ v6).cell? ⟨b, 6, none⟩ = some v6 := by
  have oth : ∀ (W : World) (i j : Nat) (v x : Value), i ≠ j → W.cell? ⟨b, j, none⟩ = some x → (W.setCell ⟨b, i, none⟩ v).cell? ⟨b, j, none⟩ = some x := fun W i j v x hij hx => (World.cell?_setCell_other _ _ _ _ (by intro e; injection e with _ e2; exact hij e2)).trans hx
  exact ⟨(oth _ 6 0 _ _ (by omega) (oth _ 5 0 _ _ (by omega) (oth _ 4 0 _ _ (by omega) (oth _ 3 0 _ _ (by omega) (oth _ 2 0 _ _ (by omega) (oth _ 1 0 _ _ (by omega) (World.cell?_setCell_same _ _ _ c0))))))),
    (oth _ 6 1 _ _ (by omega) (oth _ 5 1 _ _ (by omega) (oth _ 4 1 _ _ (by omega) (oth _ 3 1 _ _ (by omega) (oth _ 2 1 _ _ (by omega) (World.cell?_setCell_same _ _ _ (oth _ 0 1 _ _ (by omega) c1))))))),
    (oth _ 6 2 _ _ (by omega) (oth _ 5 2 _ _ (by omega) (oth _ 4 2 _ _ (by omega) (oth _ 3 2 _ _ (by omega) (World.cell?_setCell_same _ _ _ (oth _ 1 2 _ _ (by omega) (oth _ 0 2 _ _ (by omega) c2))))))),
    (oth _ 6 3 _ _ (by omega) (oth _ 5 3 _ _ (by omega) (oth _ 4 3 _ _ (by omega) (World.cell?_setCell_same _ _ _ (oth _ 2 3 _ _ (by omega) (oth _ 1 3 _ _ (by omega) (oth _ 0 3 _ _ (by omega) c3))))))),
    (oth _ 6 4 _ _ (by omega) (oth _ 5 4 _ _ (by omega) (World.cell?_setCell_same _ _ _ (oth _ 3 4 _ _ (by omega) (oth _ 2 4 _ _ (by omega) (oth _ 1 4 _ _ (by omega) (oth _ 0 4 _ _ (by omega) c4))))))),
    (oth _ 6 5 _ _ (by omega) (World.cell?_setCell_same _ _ _ (oth _ 4 5 _ _ (by omega) (oth _ 3 5 _ _ (by omega) (oth _ 2 5 _ _ (by omega) (oth _ 1 5 _ _ (by omega) (oth _ 0 5 _ _ (by omega) c5))))))),
    (World.cell?_setCell_same _ _ _ (oth _ 5 6 _ _ (by omega) (oth _ 4 6 _ _ (by omega) (oth _ 3 6 _ _ (by omega) (oth _ 2 6 _ _ (by omega) (oth _ 1 6 _ _ (by omega) (oth _ 0 6 _ _ (by omega) c6)))))))⟩
theorem only_seven (w : World) (b : Nat) (v0 v1 v2 v3 v4 v5 v6 : Value) : Only (fun k => k = b) w (((((((w.setCell ⟨b, 0, none⟩ v0).setCell ⟨b, 1, none⟩ v1).setCell ⟨b, 2, none⟩ v2).setCell ⟨b, 3, none⟩ v3).setCell ⟨b, 4, none⟩ v4).setCell ⟨b, 5, none⟩ v5).setCell ⟨b, 6, none⟩ v6) := by
  have st : ∀ (W : World) (i : Nat) (v : Value), Only (fun k => k = b) W (W.setCell ⟨b, i, none⟩ v) := fun W i v => Only.setCell W ⟨b, i, none⟩ v rfl
  exact (((((((st _ 0 _).trans (st _ 1 _) (fun _ _ h => h)).trans (st _ 2 _) (fun _ _ h => h)).trans (st _ 3 _) (fun _ _ h => h)).trans (st _ 4 _) (fun _ _ h => h)).trans (st _ 5 _) (fun _ _ h => h)).trans (st _ 6 _) (fun _ _ h => h))
theorem load_image {w : World} {b : Nat} {v0 v1 v2 v3 v4 v5 v6 : Value} (h0 : w.cell? ⟨b, 0, none⟩ = some v0) (h1 : w.cell? ⟨b, 1, none⟩ = some v1) (h2 : w.cell? ⟨b, 2, none⟩ = some v2) (h3 : w.cell? ⟨b, 3, none⟩ = some v3) (h4 : w.cell? ⟨b, 4, none⟩ = some v4) (h5 : w.cell? ⟨b, 5, none⟩ = some v5) (h6 : w.cell? ⟨b, 6, none⟩ = some v6) : (loadVar 79 ⟨b, 0, none⟩).run Tryz.prog w = .ok (.agg #[v0, v1, v2, v3, v4, v5, v6]) w := by simp [loadVar, go_sem, h0, h1, h2, h3, h4, h5, h6]
theorem rep0_any (W : World) (c : Nat) (hc : c ≤ 512) : Calls Tryz.prog 23 #[.string ⟨#[0]⟩, .int .i64 (c : Int)] W fun e w' => e = .returned (.string (str (List.replicate c 0))) ∧ Only (fun _ => False) W w' := by
  have e1 : (⟨#[0]⟩ : ByteArray).size = 1 := rfl
  have h1 := Tryz.strings_Repeat ⟨#[0]⟩ c W (by omega) (by rw [e1]; omega)
  refine Calls.mono h1 ?_
  rintro e w' ⟨rfl, hb⟩
  refine ⟨?_, only_below hb⟩
  rw [rep_zero]
  rfl
theorem dec_bounds (l : List UInt8) : (dec l).1.lsn < 9223372036854775808 ∧ (dec l).1.high.size ≤ 140737488355328 := by
  have key : (∃ q, dec l = (q, 0)) ∨ ∃ c, dec l = (.none, c) := by
    unfold dec
    split
    · exact .inr ⟨31, rfl⟩
    · split
      · exact .inr ⟨30, rfl⟩
      · split
        · rename_i p r _
          split
          · exact .inl ⟨p, rfl⟩
          · exact .inr ⟨31, rfl⟩
        · exact .inr ⟨31, rfl⟩
  rcases key with ⟨q, h⟩ | ⟨c, h⟩
  · have hv := (dec_ok h).1
    rw [h]
    exact ⟨hv.lsn, by have := hv.fit.1; simp only; omega⟩
  · rw [h]
    exact ⟨by show (0 : Int) < _; omega, by show (⟨#[]⟩ : ByteArray).size ≤ _; exact Nat.zero_le _⟩
/-- What takeImage answers. -/
structure TmQ (w w' : World) (e : Ending) (r : Nat) (i : Im) (s : St) : Prop where
  ex : ∃ D a c, e = .returned (.agg #[.int .i64 i.page, .int .i64 i.body.lsn, .int .i64 i.body.kind, .int .i64 i.body.level, .int .i64 i.body.right, .string i.body.high, .slice a i.body.items.length c]) ∧ Strs w' D a i.body.items ∧ Fit a i.body.items.length c ∧ (0 < i.body.items.length → w.heap.size ≤ D)
  rs : Rs w' r s
  only : Only (fun k => k = r) w w'
  lsn : i.body.lsn < 9223372036854775808
  high : i.body.high.size ≤ 140737488355328
set_option maxRecDepth 100000 in
set_option maxHeartbeats 1600000 in
theorem tm_any (w : World) (r : Nat) (s : St) (h : Rs w r s) :
    Calls Tryz.prog 80 #[.pointer (some ⟨r, 0, none⟩)] w fun e w' => TmQ w w' e r (rIm s).1 (rIm s).2 := by
  have hlt := h.lt
  have HS := hide (h.kept (onlyA w (.cells #[.int .i64 0, .int .i64 0, .int .i64 0, .int .i64 0, .int .i64 0, .string ⟨#[]⟩, .slice none 0 0] 79)) (fun h => h))
  have HO0 := hide (Only.alloc (fun k => k = r) w (.cells #[.int .i64 0, .int .i64 0, .int .i64 0, .int .i64 0, .int .i64 0, .string ⟨#[]⟩, .slice none 0 0] 79))
  have HZ0 : Hid ((w.alloc (.cells #[.int .i64 0, .int .i64 0, .int .i64 0, .int .i64 0, .int .i64 0, .string ⟨#[]⟩, .slice none 0 0] 79)).heap.size = w.heap.size + 1) := by unfold Hid; simp
  have HC0 : Hid (∀ W, Only (fun k => k = r) (w.alloc (.cells #[.int .i64 0, .int .i64 0, .int .i64 0, .int .i64 0, .int .i64 0, .string ⟨#[]⟩, .slice none 0 0] 79)) W → ∀ j v, (#[.int .i64 0, .int .i64 0, .int .i64 0, .int .i64 0, .int .i64 0, .string ⟨#[]⟩, .slice none 0 0] : Array Value)[j]? = some v → W.cell? ⟨w.heap.size, j, none⟩ = some v ∧ W.frozen? ⟨w.heap.size, j, none⟩ = false) := fun W hW j v hv =>
    ⟨(hW.cell (p := ⟨w.heap.size, j, none⟩) (by simp) (by show ¬ w.heap.size = r; omega)).trans (by simpa using hv), (hW.frozen (p := ⟨w.heap.size, j, none⟩) (by simp) (by show ¬ w.heap.size = r; omega)).trans (by simp)⟩
  obtain ⟨W0, hW0⟩ : ∃ W0, w.alloc (.cells #[.int .i64 0, .int .i64 0, .int .i64 0, .int .i64 0, .int .i64 0, .string ⟨#[]⟩, .slice none 0 0] 79) = W0 := ⟨_, rfl⟩
  rw [hW0] at HS HO0 HC0 HZ0
  have HW0 := hide hW0
  clear hW0 h
  obtain ⟨⟨n, s1⟩, h1⟩ : ∃ a, rN top s = a := ⟨_, rfl⟩
  obtain ⟨⟨t, s2⟩, h2⟩ : ∃ a, rT 512 s1 = a := ⟨_, rfl⟩
  obtain ⟨⟨p, cd⟩, h3⟩ : ∃ a, dec (t ++ List.replicate (512 - t.length) 0) = a := ⟨_, rfl⟩
  have hIm : rIm s = (⟨n, p⟩, s2) := by
    unfold rIm
    rw [h1]
    simp only
    rw [h2]
    simp only
    rw [h3]
  rw [hIm]
  have hmost := rT_most 512 s1 (by omega)
  rw [h2] at hmost
  have hbd := dec_bounds (t ++ List.replicate (512 - t.length) 0)
  rw [h3] at hbd
  simp only at hmost hbd
  have H1 := hide h1
  have H2 := hide h2
  have H3 := hide h3
  have HBD := hide hbd
  clear hIm h1 h2 h3 hbd
  go_enter Tryz.func80, Tryz.ntmps80
  go_wp2_with fail
  rw [HW0.out]
  have q1 := tn_any W0 r s HS.out
  rw [H1.out] at q1
  refine Calls.mono q1 ?_
  clear q1
  rintro e w1 ⟨rfl, hr1, ho1⟩
  simp only at hr1 ⊢
  have HR1 := hide hr1
  have HO1 := hide ho1
  clear hr1 ho1
  go_wp2_with fail
  have q2 := rt_any w1 r s1 512 HR1.out
  rw [H2.out] at q2
  refine Calls.mono q2 ?_
  clear q2
  rintro e w2 ⟨rfl, hr2, ho2⟩
  simp only at hr2 ⊢
  have HR2 := hide hr2
  have HO2 : Hid (Only (fun k => k = r) W0 w2) := HO1.out.trans ho2 (fun _ _ h => h)
  clear hr2 ho2
  obtain ⟨X, hX⟩ : ∃ X, str t = X := ⟨_, rfl⟩
  have hXs : X.size = t.length := by rw [← hX, str_size]
  have HX := hide hX
  rw [hX]
  obtain ⟨c, hc⟩ : ∃ c, c = 512 - t.length := ⟨_, rfl⟩
  have hc2 : (512 : Int) - (X.size : Int) = (c : Int) := by omega
  have HCE := hide hc
  have hXb : X.size ≤ 512 := by omega
  have hcb : c ≤ 512 := by omega
  have HXS := hide hXs
  clear hX hc hXs hmost
  go_wp2_with fail
  refine (rep0_any w2 c hcb).mono ?_
  rintro e w3 ⟨rfl, ho3⟩
  obtain ⟨Y, hY⟩ : ∃ Y, str (List.replicate c 0) = Y := ⟨_, rfl⟩
  have hYs : Y.size ≤ 512 := by rw [← hY, str_size, List.length_replicate]; exact hcb
  have HY := hide hY
  have HO3 : Hid (Only (fun k => k = r) W0 w3) := HO2.out.trans ho3 (fun _ _ h => h.elim)
  have HR3 := hide (HR2.out.kept ho3 (fun h => h))
  rw [hY]
  clear hY ho3 hc2
  have hXY : ¬ (9223372036854775807 : Int) < (X.size : Int) + (Y.size : Int) := by omega
  have HDEC : Hid (bl (X ++ Y) = t ++ List.replicate (512 - t.length) 0) := by unfold Hid; rw [← HX.out, ← HY.out, str_cat, bl_str, HCE.out]
  go_wp2_with fail
  have q3 := pdecode_any w3 (X ++ Y)
  rw [HDEC.out, H3.out] at q3
  refine Calls.mono q3 ?_
  clear q3
  rintro e w4 ⟨B4, ao4, cp4, rfl, hS4, hF4, ho4, hB4⟩
  have HS4 := hide hS4
  have HF4 := hide hF4
  have HO4 : Hid (Only (fun k => k = r) W0 w4) := HO3.out.trans ho4 (fun _ _ h => h.elim)
  have HR4 := hide (HR3.out.kept ho4 (fun h => h))
  have HB4 := hide hB4
  have HW43 := hide (HO3.out.size)
  have hO5 : Only (fun k => k = r) W0 (w4.alloc (.cells #[.int .i64 p.lsn, .int .i64 p.kind, .int .i64 p.level, .int .i64 p.right, .string p.high, .slice ao4 p.items.length cp4] 77)) := HO4.out.trans (onlyA _ _) (fun _ _ h => h.elim)
  have hA5 := onlyA w4 (.cells #[.int .i64 p.lsn, .int .i64 p.kind, .int .i64 p.level, .int .i64 p.right, .string p.high, .slice ao4 p.items.length cp4] 77)
  have hP5 := Pag.new w4 (.int .i64 p.lsn) (.int .i64 p.kind) (.int .i64 p.level) (.int .i64 p.right) (.string p.high) (.slice ao4 p.items.length cp4)
  obtain ⟨W5, hW5⟩ : ∃ W5, w4.alloc (.cells #[.int .i64 p.lsn, .int .i64 p.kind, .int .i64 p.level, .int .i64 p.right, .string p.high, .slice ao4 p.items.length cp4] 77) = W5 := ⟨_, rfl⟩
  rw [hW5] at hO5 hA5 hP5
  have HO5 := hide hO5
  have HR5 := hide (HR4.out.kept hA5 (fun h => h))
  have HS5 := hide (HS4.out.more hA5)
  have HW5 := hide hW5
  clear hS4 hF4 ho4 hB4 hA5 hO5 hW5
  simp only
  go_upto_region 4 with fail
  rw [HW5.out]
  obtain ⟨p0, p1, p2, p3, p4, p5, _, _, _, _, _, _, _⟩ := hP5
  obtain ⟨c0, f0⟩ := HC0.out _ HO5.out 0 (.int .i64 0) rfl
  obtain ⟨c1, f1⟩ := HC0.out _ HO5.out 1 (.int .i64 0) rfl
  obtain ⟨c2, f2⟩ := HC0.out _ HO5.out 2 (.int .i64 0) rfl
  obtain ⟨c3, f3⟩ := HC0.out _ HO5.out 3 (.int .i64 0) rfl
  obtain ⟨c4, f4⟩ := HC0.out _ HO5.out 4 (.int .i64 0) rfl
  obtain ⟨c5, f5⟩ := HC0.out _ HO5.out 5 (.string ⟨#[]⟩) rfl
  obtain ⟨c6, f6⟩ := HC0.out _ HO5.out 6 (.slice none 0 0) rfl
  go_wp2_with fail
  have hs2 := set_seven c0 c1 c2 c3 c4 c5 c6 (.int .i64 n) (.int .i64 p.lsn) (.int .i64 p.kind) (.int .i64 p.level) (.int .i64 p.right) (.string p.high) (.slice ao4 p.items.length cp4)
  obtain ⟨g0, g1, g2, g3, g4, g5, g6⟩ := hs2
  have ho := only_seven W5 w.heap.size (.int .i64 n) (.int .i64 p.lsn) (.int .i64 p.kind) (.int .i64 p.level) (.int .i64 p.right) (.string p.high) (.slice ao4 p.items.length cp4)
  refine bodyPost_ret (results_cell1 rfl rfl (load_image g0 g1 g2 g3 g4 g5 g6)) rfl ?_
  have hz0 := HZ0.out
  have hw43 := HW43.out
  exact ⟨⟨B4, ao4, cp4, rfl, HS5.out.kept ho (fun h => by have := HB4.out h; omega), HF4.out, fun h => by have := HB4.out h; omega⟩, HR5.out.kept ho (by omega), (HO0.out.trans HO5.out (fun _ _ h => h)).trans ho (fun i hi e => by omega), HBD.out.1, HBD.out.2⟩
end Go.Proofs.YtcbdpdkmkncffaaGreatDoor
