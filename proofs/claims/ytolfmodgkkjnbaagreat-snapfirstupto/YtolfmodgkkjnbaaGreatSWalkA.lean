/- What a view sees. -/
import Derived.Test.YtolfmodgkkjnbaaGreatSView
namespace Go.Proofs.YtolfmodgkkjnbaaGreat
open Go.RowKit

set_option maxRecDepth 100000 in
set_option maxHeartbeats 1600000 in
theorem isOwn_any (w : World) (V : Vw) (q : Lo) (x : Int) (h : Sn w V q) (_ : I64 x) :
    Calls Tryz.prog 34 #[.agg #[.int .i64 V.m, .int .i64 V.next, .slice q.aA V.act.length q.cA, .int .i64 V.own, .slice q.aR V.run.length q.cR, .int .i64 V.pg.lsn, .int .i64 V.pg.kind, .int .i64 V.pg.level, .int .i64 V.pg.right, .string V.pg.high, .slice q.aP V.pg.items.length q.cP], .int .i64 x] w fun e w' => e = .returned (.bool (vown V x)) ∧ Only (fun _ => False) w w' := by
  simp only [vown]
  have HN := hide h
  clear h
  have HB := hide (VB.new w (.int .i64 V.m) (.int .i64 V.next) (.slice q.aA V.act.length q.cA) (.int .i64 V.own) (.slice q.aR V.run.length q.cR) (.int .i64 V.pg.lsn) (.int .i64 V.pg.kind) (.int .i64 V.pg.level) (.int .i64 V.pg.right) (.string V.pg.high) (.slice q.aP V.pg.items.length q.cP))
  have HO := hide (onlyA w (.cells #[.int .i64 V.m, .int .i64 V.next, .slice q.aA V.act.length q.cA, .int .i64 V.own, .slice q.aR V.run.length q.cR, .int .i64 V.pg.lsn, .int .i64 V.pg.kind, .int .i64 V.pg.level, .int .i64 V.pg.right, .string V.pg.high, .slice q.aP V.pg.items.length q.cP] 32))
  by_cases h0 : V.own = 0
  ·
    have g1 : (V.own != 0) = false := by simp [h0]
    clear h0
    rw [g1]
    go_enter Tryz.func34, Tryz.ntmps34
    go_upto_region 1 with fail
    obtain ⟨W0, hW0⟩ : ∃ W, w.alloc (.cells #[.int .i64 V.m, .int .i64 V.next, .slice q.aA V.act.length q.cA, .int .i64 V.own, .slice q.aR V.run.length q.cR, .int .i64 V.pg.lsn, .int .i64 V.pg.kind, .int .i64 V.pg.level, .int .i64 V.pg.right, .string V.pg.high, .slice q.aP V.pg.items.length q.cP] 32) = W := ⟨_, rfl⟩
    rw [hW0] at HB HO ⊢
    clear hW0
    obtain ⟨vc0, vc1, vc2, vc3, vc4, vc5, vc6, vc7, vc8, vc9, vc10, vf0, vf1, vf2, vf3, vf4, vf5, vf6, vf7, vf8, vf9, vf10, vlt⟩ := HB.out
    clear vf0 vf1 vf2 vf3 vf4 vf5 vf6 vf7 vf8 vf9 vf10
    go_wp2_with fail
    go_ret
    exact ⟨rfl, HO.out⟩
  ·
    have g1 : (V.own != 0) = true := by simp [h0]
    clear h0
    rw [g1]
    by_cases h1 : x = V.own
    ·
      have g2 : (x == V.own) = true := by simp [h1]
      clear h1
      rw [g2]
      go_enter Tryz.func34, Tryz.ntmps34
      go_upto_region 1 with fail
      obtain ⟨W0, hW0⟩ : ∃ W, w.alloc (.cells #[.int .i64 V.m, .int .i64 V.next, .slice q.aA V.act.length q.cA, .int .i64 V.own, .slice q.aR V.run.length q.cR, .int .i64 V.pg.lsn, .int .i64 V.pg.kind, .int .i64 V.pg.level, .int .i64 V.pg.right, .string V.pg.high, .slice q.aP V.pg.items.length q.cP] 32) = W := ⟨_, rfl⟩
      rw [hW0] at HB HO ⊢
      clear hW0
      obtain ⟨vc0, vc1, vc2, vc3, vc4, vc5, vc6, vc7, vc8, vc9, vc10, vf0, vf1, vf2, vf3, vf4, vf5, vf6, vf7, vf8, vf9, vf10, vlt⟩ := HB.out
      clear vf0 vf1 vf2 vf3 vf4 vf5 vf6 vf7 vf8 vf9 vf10
      go_wp2_with fail
      go_ret
      exact ⟨rfl, HO.out⟩
    ·
      have g2 : (x == V.own) = false := by simp [h1]
      clear h1
      rw [g2]
      go_enter Tryz.func34, Tryz.ntmps34
      go_upto_region 1 with fail
      obtain ⟨W0, hW0⟩ : ∃ W, w.alloc (.cells #[.int .i64 V.m, .int .i64 V.next, .slice q.aA V.act.length q.cA, .int .i64 V.own, .slice q.aR V.run.length q.cR, .int .i64 V.pg.lsn, .int .i64 V.pg.kind, .int .i64 V.pg.level, .int .i64 V.pg.right, .string V.pg.high, .slice q.aP V.pg.items.length q.cP] 32) = W := ⟨_, rfl⟩
      rw [hW0] at HB HO ⊢
      clear hW0
      obtain ⟨vc0, vc1, vc2, vc3, vc4, vc5, vc6, vc7, vc8, vc9, vc10, vf0, vf1, vf2, vf3, vf4, vf5, vf6, vf7, vf8, vf9, vf10, vlt⟩ := HB.out
      clear vf0 vf1 vf2 vf3 vf4 vf5 vf6 vf7 vf8 vf9 vf10
      go_wp2_with fail
      go_ret
      exact ⟨rfl, HO.out⟩
set_option maxRecDepth 100000 in
set_option maxHeartbeats 1600000 in
theorem status_any (w : World) (V : Vw) (q : Lo) (x : Int) (h : Sn w V q) (hx : I64 x) :
    Calls Tryz.prog 9 #[.agg #[.int .i64 V.m, .int .i64 V.next, .slice q.aA V.act.length q.cA, .int .i64 V.own, .slice q.aR V.run.length q.cR, .int .i64 V.pg.lsn, .int .i64 V.pg.kind, .int .i64 V.pg.level, .int .i64 V.pg.right, .string V.pg.high, .slice q.aP V.pg.items.length q.cP], .int .i64 x] w fun e w' => e = .returned (.int .u8 (vsi V x)) ∧ Only (fun _ => False) w w' := by
  have C0 := hide (fun W (h : Sn W V q) => quiet_only (contains_any W q.bR q.cR q.aR V.run x h.run))
  have C1 := hide (fun W (h : Sn W V q) => cget_any W V.m V.pg.lsn V.pg.kind V.pg.level V.pg.right x V.pg.high q.cP q.bP q.aP V.pg.items h.m hx h.pg)
  have HN := hide h
  clear h hx
  have HB := hide (VB.new w (.int .i64 V.m) (.int .i64 V.next) (.slice q.aA V.act.length q.cA) (.int .i64 V.own) (.slice q.aR V.run.length q.cR) (.int .i64 V.pg.lsn) (.int .i64 V.pg.kind) (.int .i64 V.pg.level) (.int .i64 V.pg.right) (.string V.pg.high) (.slice q.aP V.pg.items.length q.cP))
  have HO := hide (onlyA w (.cells #[.int .i64 V.m, .int .i64 V.next, .slice q.aA V.act.length q.cA, .int .i64 V.own, .slice q.aR V.run.length q.cR, .int .i64 V.pg.lsn, .int .i64 V.pg.kind, .int .i64 V.pg.level, .int .i64 V.pg.right, .string V.pg.high, .slice q.aP V.pg.items.length q.cP] 32))
  by_cases hr : x ∈ V.run
  ·
    rw [decide_eq_true hr] at C0
    have hv : vsi V x = 1 := by unfold vsi; rw [if_pos hr]
    rw [hv]
    clear hr hv
    go_enter Tryz.func9, Tryz.ntmps9
    go_upto_region 1 with fail
    obtain ⟨W0, hW0⟩ : ∃ W, w.alloc (.cells #[.int .i64 V.m, .int .i64 V.next, .slice q.aA V.act.length q.cA, .int .i64 V.own, .slice q.aR V.run.length q.cR, .int .i64 V.pg.lsn, .int .i64 V.pg.kind, .int .i64 V.pg.level, .int .i64 V.pg.right, .string V.pg.high, .slice q.aP V.pg.items.length q.cP] 32) = W := ⟨_, rfl⟩
    rw [hW0] at HB HO ⊢
    clear hW0
    obtain ⟨vc0, vc1, vc2, vc3, vc4, vc5, vc6, vc7, vc8, vc9, vc10, vf0, vf1, vf2, vf3, vf4, vf5, vf6, vf7, vf8, vf9, vf10, vlt⟩ := HB.out
    clear vf0 vf1 vf2 vf3 vf4 vf5 vf6 vf7 vf8 vf9 vf10
    go_wp2_with fail
    refine (C0.out _ (HN.out.more HO.out)).mono ?_
    rintro e w1 ⟨rfl, ho⟩
    clear vc0 vc1 vc2 vc3 vc4 vc5 vc6 vc7 vc8 vc9 vc10 vlt
    have HB := hide (HB.out.more ho)
    have HO := hide (o2 HO.out ho)
    clear ho
    obtain ⟨vc0, vc1, vc2, vc3, vc4, vc5, vc6, vc7, vc8, vc9, vc10, vf0, vf1, vf2, vf3, vf4, vf5, vf6, vf7, vf8, vf9, vf10, vlt⟩ := HB.out
    clear vf0 vf1 vf2 vf3 vf4 vf5 vf6 vf7 vf8 vf9 vf10
    go_wp2_with fail
    go_ret
    exact ⟨rfl, HO.out⟩
  ·
    rw [decide_eq_false hr] at C0
    have hv : vsi V x = (gst V.m V.pg x : Int) := by unfold vsi; rw [if_neg hr]
    rw [hv]
    clear hr hv
    go_enter Tryz.func9, Tryz.ntmps9
    go_upto_region 1 with fail
    obtain ⟨W0, hW0⟩ : ∃ W, w.alloc (.cells #[.int .i64 V.m, .int .i64 V.next, .slice q.aA V.act.length q.cA, .int .i64 V.own, .slice q.aR V.run.length q.cR, .int .i64 V.pg.lsn, .int .i64 V.pg.kind, .int .i64 V.pg.level, .int .i64 V.pg.right, .string V.pg.high, .slice q.aP V.pg.items.length q.cP] 32) = W := ⟨_, rfl⟩
    rw [hW0] at HB HO ⊢
    clear hW0
    obtain ⟨vc0, vc1, vc2, vc3, vc4, vc5, vc6, vc7, vc8, vc9, vc10, vf0, vf1, vf2, vf3, vf4, vf5, vf6, vf7, vf8, vf9, vf10, vlt⟩ := HB.out
    clear vf0 vf1 vf2 vf3 vf4 vf5 vf6 vf7 vf8 vf9 vf10
    go_wp2_with fail
    refine (C0.out _ (HN.out.more HO.out)).mono ?_
    rintro e w2 ⟨rfl, ho⟩
    clear vc0 vc1 vc2 vc3 vc4 vc5 vc6 vc7 vc8 vc9 vc10 vlt
    have HB := hide (HB.out.more ho)
    have HO := hide (o2 HO.out ho)
    clear ho
    obtain ⟨vc0, vc1, vc2, vc3, vc4, vc5, vc6, vc7, vc8, vc9, vc10, vf0, vf1, vf2, vf3, vf4, vf5, vf6, vf7, vf8, vf9, vf10, vlt⟩ := HB.out
    clear vf0 vf1 vf2 vf3 vf4 vf5 vf6 vf7 vf8 vf9 vf10
    go_wp2_with fail
    refine (C1.out _ (HN.out.more HO.out)).mono ?_
    rintro e w3 ⟨rfl, ho⟩
    clear vc0 vc1 vc2 vc3 vc4 vc5 vc6 vc7 vc8 vc9 vc10 vlt
    have HB := hide (HB.out.more ho)
    have HO := hide (o2 HO.out ho)
    clear ho
    obtain ⟨vc0, vc1, vc2, vc3, vc4, vc5, vc6, vc7, vc8, vc9, vc10, vf0, vf1, vf2, vf3, vf4, vf5, vf6, vf7, vf8, vf9, vf10, vlt⟩ := HB.out
    clear vf0 vf1 vf2 vf3 vf4 vf5 vf6 vf7 vf8 vf9 vf10
    go_wp2_with fail
    go_ret
    exact ⟨rfl, HO.out⟩
set_option maxRecDepth 100000 in
set_option maxHeartbeats 1600000 in
theorem isCom_any (w : World) (V : Vw) (q : Lo) (x : Int) (h : Sn w V q) (hx : I64 x) :
    Calls Tryz.prog 35 #[.agg #[.int .i64 V.m, .int .i64 V.next, .slice q.aA V.act.length q.cA, .int .i64 V.own, .slice q.aR V.run.length q.cR, .int .i64 V.pg.lsn, .int .i64 V.pg.kind, .int .i64 V.pg.level, .int .i64 V.pg.right, .string V.pg.high, .slice q.aP V.pg.items.length q.cP], .int .i64 x] w fun e w' => e = .returned (.bool (vcom V x)) ∧ Only (fun _ => False) w w' := by
  have C0 := hide (fun W (h : Sn W V q) => status_any W V q x h hx)
  simp only [vcom]
  obtain ⟨b0, hb0⟩ : ∃ b, vsi V x = b := ⟨_, rfl⟩
  have hs0 : 0 ≤ b0 ∧ b0 < 4 := by rw [← hb0]; exact vsi_bd _ _
  simp only [hb0] at C0 ⊢
  clear hb0
  have HN := hide h
  clear h hx
  have HB := hide (VB.new w (.int .i64 V.m) (.int .i64 V.next) (.slice q.aA V.act.length q.cA) (.int .i64 V.own) (.slice q.aR V.run.length q.cR) (.int .i64 V.pg.lsn) (.int .i64 V.pg.kind) (.int .i64 V.pg.level) (.int .i64 V.pg.right) (.string V.pg.high) (.slice q.aP V.pg.items.length q.cP))
  have HO := hide (onlyA w (.cells #[.int .i64 V.m, .int .i64 V.next, .slice q.aA V.act.length q.cA, .int .i64 V.own, .slice q.aR V.run.length q.cR, .int .i64 V.pg.lsn, .int .i64 V.pg.kind, .int .i64 V.pg.level, .int .i64 V.pg.right, .string V.pg.high, .slice q.aP V.pg.items.length q.cP] 32))
  go_enter Tryz.func35, Tryz.ntmps35
  go_upto_region 1 with fail
  obtain ⟨W0, hW0⟩ : ∃ W, w.alloc (.cells #[.int .i64 V.m, .int .i64 V.next, .slice q.aA V.act.length q.cA, .int .i64 V.own, .slice q.aR V.run.length q.cR, .int .i64 V.pg.lsn, .int .i64 V.pg.kind, .int .i64 V.pg.level, .int .i64 V.pg.right, .string V.pg.high, .slice q.aP V.pg.items.length q.cP] 32) = W := ⟨_, rfl⟩
  rw [hW0] at HB HO ⊢
  clear hW0
  obtain ⟨vc0, vc1, vc2, vc3, vc4, vc5, vc6, vc7, vc8, vc9, vc10, vf0, vf1, vf2, vf3, vf4, vf5, vf6, vf7, vf8, vf9, vf10, vlt⟩ := HB.out
  clear vf0 vf1 vf2 vf3 vf4 vf5 vf6 vf7 vf8 vf9 vf10
  go_wp2_with fail
  refine (C0.out _ (HN.out.more HO.out)).mono ?_
  rintro e w1 ⟨rfl, ho⟩
  clear vc0 vc1 vc2 vc3 vc4 vc5 vc6 vc7 vc8 vc9 vc10 vlt
  have HB := hide (HB.out.more ho)
  have HO := hide (o2 HO.out ho)
  clear ho
  rcases four hs0.1 hs0.2 with rfl | rfl | rfl | rfl
  · clear hs0
    obtain ⟨vc0, vc1, vc2, vc3, vc4, vc5, vc6, vc7, vc8, vc9, vc10, vf0, vf1, vf2, vf3, vf4, vf5, vf6, vf7, vf8, vf9, vf10, vlt⟩ := HB.out
    clear vf0 vf1 vf2 vf3 vf4 vf5 vf6 vf7 vf8 vf9 vf10
    go_wp2_with fail
    go_ret
    exact ⟨rfl, HO.out⟩
  · clear hs0
    obtain ⟨vc0, vc1, vc2, vc3, vc4, vc5, vc6, vc7, vc8, vc9, vc10, vf0, vf1, vf2, vf3, vf4, vf5, vf6, vf7, vf8, vf9, vf10, vlt⟩ := HB.out
    clear vf0 vf1 vf2 vf3 vf4 vf5 vf6 vf7 vf8 vf9 vf10
    go_wp2_with fail
    go_ret
    exact ⟨rfl, HO.out⟩
  · clear hs0
    obtain ⟨vc0, vc1, vc2, vc3, vc4, vc5, vc6, vc7, vc8, vc9, vc10, vf0, vf1, vf2, vf3, vf4, vf5, vf6, vf7, vf8, vf9, vf10, vlt⟩ := HB.out
    clear vf0 vf1 vf2 vf3 vf4 vf5 vf6 vf7 vf8 vf9 vf10
    go_wp2_with fail
    go_ret
    exact ⟨rfl, HO.out⟩
  · clear hs0
    obtain ⟨vc0, vc1, vc2, vc3, vc4, vc5, vc6, vc7, vc8, vc9, vc10, vf0, vf1, vf2, vf3, vf4, vf5, vf6, vf7, vf8, vf9, vf10, vlt⟩ := HB.out
    clear vf0 vf1 vf2 vf3 vf4 vf5 vf6 vf7 vf8 vf9 vf10
    go_wp2_with fail
    go_ret
    exact ⟨rfl, HO.out⟩
set_option maxRecDepth 100000 in
set_option maxHeartbeats 1600000 in
theorem isAbo_any (w : World) (V : Vw) (q : Lo) (x : Int) (h : Sn w V q) (hx : I64 x) :
    Calls Tryz.prog 44 #[.agg #[.int .i64 V.m, .int .i64 V.next, .slice q.aA V.act.length q.cA, .int .i64 V.own, .slice q.aR V.run.length q.cR, .int .i64 V.pg.lsn, .int .i64 V.pg.kind, .int .i64 V.pg.level, .int .i64 V.pg.right, .string V.pg.high, .slice q.aP V.pg.items.length q.cP], .int .i64 x] w fun e w' => e = .returned (.bool (vabo V x)) ∧ Only (fun _ => False) w w' := by
  have C0 := hide (fun W (h : Sn W V q) => status_any W V q x h hx)
  simp only [vabo]
  obtain ⟨b0, hb0⟩ : ∃ b, vsi V x = b := ⟨_, rfl⟩
  have hs0 : 0 ≤ b0 ∧ b0 < 4 := by rw [← hb0]; exact vsi_bd _ _
  simp only [hb0] at C0 ⊢
  clear hb0
  have HN := hide h
  clear h hx
  have HB := hide (VB.new w (.int .i64 V.m) (.int .i64 V.next) (.slice q.aA V.act.length q.cA) (.int .i64 V.own) (.slice q.aR V.run.length q.cR) (.int .i64 V.pg.lsn) (.int .i64 V.pg.kind) (.int .i64 V.pg.level) (.int .i64 V.pg.right) (.string V.pg.high) (.slice q.aP V.pg.items.length q.cP))
  have HO := hide (onlyA w (.cells #[.int .i64 V.m, .int .i64 V.next, .slice q.aA V.act.length q.cA, .int .i64 V.own, .slice q.aR V.run.length q.cR, .int .i64 V.pg.lsn, .int .i64 V.pg.kind, .int .i64 V.pg.level, .int .i64 V.pg.right, .string V.pg.high, .slice q.aP V.pg.items.length q.cP] 32))
  go_enter Tryz.func44, Tryz.ntmps44
  go_upto_region 1 with fail
  obtain ⟨W0, hW0⟩ : ∃ W, w.alloc (.cells #[.int .i64 V.m, .int .i64 V.next, .slice q.aA V.act.length q.cA, .int .i64 V.own, .slice q.aR V.run.length q.cR, .int .i64 V.pg.lsn, .int .i64 V.pg.kind, .int .i64 V.pg.level, .int .i64 V.pg.right, .string V.pg.high, .slice q.aP V.pg.items.length q.cP] 32) = W := ⟨_, rfl⟩
  rw [hW0] at HB HO ⊢
  clear hW0
  obtain ⟨vc0, vc1, vc2, vc3, vc4, vc5, vc6, vc7, vc8, vc9, vc10, vf0, vf1, vf2, vf3, vf4, vf5, vf6, vf7, vf8, vf9, vf10, vlt⟩ := HB.out
  clear vf0 vf1 vf2 vf3 vf4 vf5 vf6 vf7 vf8 vf9 vf10
  go_wp2_with fail
  refine (C0.out _ (HN.out.more HO.out)).mono ?_
  rintro e w1 ⟨rfl, ho⟩
  clear vc0 vc1 vc2 vc3 vc4 vc5 vc6 vc7 vc8 vc9 vc10 vlt
  have HB := hide (HB.out.more ho)
  have HO := hide (o2 HO.out ho)
  clear ho
  rcases four hs0.1 hs0.2 with rfl | rfl | rfl | rfl
  · clear hs0
    obtain ⟨vc0, vc1, vc2, vc3, vc4, vc5, vc6, vc7, vc8, vc9, vc10, vf0, vf1, vf2, vf3, vf4, vf5, vf6, vf7, vf8, vf9, vf10, vlt⟩ := HB.out
    clear vf0 vf1 vf2 vf3 vf4 vf5 vf6 vf7 vf8 vf9 vf10
    go_wp2_with fail
    go_ret
    exact ⟨rfl, HO.out⟩
  · clear hs0
    obtain ⟨vc0, vc1, vc2, vc3, vc4, vc5, vc6, vc7, vc8, vc9, vc10, vf0, vf1, vf2, vf3, vf4, vf5, vf6, vf7, vf8, vf9, vf10, vlt⟩ := HB.out
    clear vf0 vf1 vf2 vf3 vf4 vf5 vf6 vf7 vf8 vf9 vf10
    go_wp2_with fail
    go_ret
    exact ⟨rfl, HO.out⟩
  · clear hs0
    obtain ⟨vc0, vc1, vc2, vc3, vc4, vc5, vc6, vc7, vc8, vc9, vc10, vf0, vf1, vf2, vf3, vf4, vf5, vf6, vf7, vf8, vf9, vf10, vlt⟩ := HB.out
    clear vf0 vf1 vf2 vf3 vf4 vf5 vf6 vf7 vf8 vf9 vf10
    go_wp2_with fail
    go_ret
    exact ⟨rfl, HO.out⟩
  · clear hs0
    obtain ⟨vc0, vc1, vc2, vc3, vc4, vc5, vc6, vc7, vc8, vc9, vc10, vf0, vf1, vf2, vf3, vf4, vf5, vf6, vf7, vf8, vf9, vf10, vlt⟩ := HB.out
    clear vf0 vf1 vf2 vf3 vf4 vf5 vf6 vf7 vf8 vf9 vf10
    go_wp2_with fail
    go_ret
    exact ⟨rfl, HO.out⟩
set_option maxRecDepth 100000 in
set_option maxHeartbeats 1600000 in
theorem wasDone_any (w : World) (V : Vw) (q : Lo) (x : Int) (h : Sn w V q) (hx : I64 x) :
    Calls Tryz.prog 36 #[.agg #[.int .i64 V.m, .int .i64 V.next, .slice q.aA V.act.length q.cA, .int .i64 V.own, .slice q.aR V.run.length q.cR, .int .i64 V.pg.lsn, .int .i64 V.pg.kind, .int .i64 V.pg.level, .int .i64 V.pg.right, .string V.pg.high, .slice q.aP V.pg.items.length q.cP], .int .i64 x] w fun e w' => e = .returned (.bool (vdone V x)) ∧ Only (fun _ => False) w w' := by
  have C0 := hide (fun W (h : Sn W V q) => quiet_only (before_any V.m x V.next W h.m hx h.next))
  have C1 := hide (fun W (h : Sn W V q) => quiet_only (contains_any W q.bA q.cA q.aA V.act x h.act))
  simp only [vdone]
  obtain ⟨b0, hb0⟩ : ∃ b, xbef V.m x V.next = b := ⟨_, rfl⟩
  obtain ⟨b1, hb1⟩ : ∃ b, decide (x ∈ V.act) = b := ⟨_, rfl⟩
  simp only [hb0, hb1] at C0 C1 ⊢
  clear hb0 hb1
  have HN := hide h
  clear h hx
  have HB := hide (VB.new w (.int .i64 V.m) (.int .i64 V.next) (.slice q.aA V.act.length q.cA) (.int .i64 V.own) (.slice q.aR V.run.length q.cR) (.int .i64 V.pg.lsn) (.int .i64 V.pg.kind) (.int .i64 V.pg.level) (.int .i64 V.pg.right) (.string V.pg.high) (.slice q.aP V.pg.items.length q.cP))
  have HO := hide (onlyA w (.cells #[.int .i64 V.m, .int .i64 V.next, .slice q.aA V.act.length q.cA, .int .i64 V.own, .slice q.aR V.run.length q.cR, .int .i64 V.pg.lsn, .int .i64 V.pg.kind, .int .i64 V.pg.level, .int .i64 V.pg.right, .string V.pg.high, .slice q.aP V.pg.items.length q.cP] 32))
  go_enter Tryz.func36, Tryz.ntmps36
  go_upto_region 1 with fail
  obtain ⟨W0, hW0⟩ : ∃ W, w.alloc (.cells #[.int .i64 V.m, .int .i64 V.next, .slice q.aA V.act.length q.cA, .int .i64 V.own, .slice q.aR V.run.length q.cR, .int .i64 V.pg.lsn, .int .i64 V.pg.kind, .int .i64 V.pg.level, .int .i64 V.pg.right, .string V.pg.high, .slice q.aP V.pg.items.length q.cP] 32) = W := ⟨_, rfl⟩
  rw [hW0] at HB HO ⊢
  clear hW0
  obtain ⟨vc0, vc1, vc2, vc3, vc4, vc5, vc6, vc7, vc8, vc9, vc10, vf0, vf1, vf2, vf3, vf4, vf5, vf6, vf7, vf8, vf9, vf10, vlt⟩ := HB.out
  clear vf0 vf1 vf2 vf3 vf4 vf5 vf6 vf7 vf8 vf9 vf10
  go_wp2_with fail
  refine (C0.out _ (HN.out.more HO.out)).mono ?_
  rintro e w1 ⟨rfl, ho⟩
  clear vc0 vc1 vc2 vc3 vc4 vc5 vc6 vc7 vc8 vc9 vc10 vlt
  have HB := hide (HB.out.more ho)
  have HO := hide (o2 HO.out ho)
  clear ho
  cases b0 with
  | true =>
    obtain ⟨vc0, vc1, vc2, vc3, vc4, vc5, vc6, vc7, vc8, vc9, vc10, vf0, vf1, vf2, vf3, vf4, vf5, vf6, vf7, vf8, vf9, vf10, vlt⟩ := HB.out
    clear vf0 vf1 vf2 vf3 vf4 vf5 vf6 vf7 vf8 vf9 vf10
    go_wp2_with fail
    refine (C1.out _ (HN.out.more HO.out)).mono ?_
    rintro e w2 ⟨rfl, ho⟩
    clear vc0 vc1 vc2 vc3 vc4 vc5 vc6 vc7 vc8 vc9 vc10 vlt
    have HB := hide (HB.out.more ho)
    have HO := hide (o2 HO.out ho)
    clear ho
    cases b1 with
    | true =>
      obtain ⟨vc0, vc1, vc2, vc3, vc4, vc5, vc6, vc7, vc8, vc9, vc10, vf0, vf1, vf2, vf3, vf4, vf5, vf6, vf7, vf8, vf9, vf10, vlt⟩ := HB.out
      clear vf0 vf1 vf2 vf3 vf4 vf5 vf6 vf7 vf8 vf9 vf10
      go_wp2_with fail
      go_ret
      exact ⟨rfl, HO.out⟩
    | false =>
      obtain ⟨vc0, vc1, vc2, vc3, vc4, vc5, vc6, vc7, vc8, vc9, vc10, vf0, vf1, vf2, vf3, vf4, vf5, vf6, vf7, vf8, vf9, vf10, vlt⟩ := HB.out
      clear vf0 vf1 vf2 vf3 vf4 vf5 vf6 vf7 vf8 vf9 vf10
      go_wp2_with fail
      go_ret
      exact ⟨rfl, HO.out⟩
  | false =>
    obtain ⟨vc0, vc1, vc2, vc3, vc4, vc5, vc6, vc7, vc8, vc9, vc10, vf0, vf1, vf2, vf3, vf4, vf5, vf6, vf7, vf8, vf9, vf10, vlt⟩ := HB.out
    clear vf0 vf1 vf2 vf3 vf4 vf5 vf6 vf7 vf8 vf9 vf10
    go_wp2_with fail
    go_ret
    exact ⟨rfl, HO.out⟩
set_option maxRecDepth 100000 in
set_option maxHeartbeats 1600000 in
theorem sees_any (w : World) (V : Vw) (q : Lo) (x : Int) (h : Sn w V q) (hx : I64 x) :
    Calls Tryz.prog 11 #[.agg #[.int .i64 V.m, .int .i64 V.next, .slice q.aA V.act.length q.cA, .int .i64 V.own, .slice q.aR V.run.length q.cR, .int .i64 V.pg.lsn, .int .i64 V.pg.kind, .int .i64 V.pg.level, .int .i64 V.pg.right, .string V.pg.high, .slice q.aP V.pg.items.length q.cP], .int .i64 x] w fun e w' => e = .returned (.bool (vsees V x)) ∧ Only (fun _ => False) w w' := by
  have C0 := hide (fun W (h : Sn W V q) => isOwn_any W V q x h hx)
  have C1 := hide (fun W (h : Sn W V q) => isCom_any W V q x h hx)
  have C2 := hide (fun W (h : Sn W V q) => wasDone_any W V q x h hx)
  simp only [vsees]
  obtain ⟨b0, hb0⟩ : ∃ b, vown V x = b := ⟨_, rfl⟩
  obtain ⟨b1, hb1⟩ : ∃ b, vcom V x = b := ⟨_, rfl⟩
  obtain ⟨b2, hb2⟩ : ∃ b, vdone V x = b := ⟨_, rfl⟩
  simp only [hb0, hb1, hb2] at C0 C1 C2 ⊢
  clear hb0 hb1 hb2
  have HN := hide h
  clear h hx
  have HB := hide (VB.new w (.int .i64 V.m) (.int .i64 V.next) (.slice q.aA V.act.length q.cA) (.int .i64 V.own) (.slice q.aR V.run.length q.cR) (.int .i64 V.pg.lsn) (.int .i64 V.pg.kind) (.int .i64 V.pg.level) (.int .i64 V.pg.right) (.string V.pg.high) (.slice q.aP V.pg.items.length q.cP))
  have HO := hide (onlyA w (.cells #[.int .i64 V.m, .int .i64 V.next, .slice q.aA V.act.length q.cA, .int .i64 V.own, .slice q.aR V.run.length q.cR, .int .i64 V.pg.lsn, .int .i64 V.pg.kind, .int .i64 V.pg.level, .int .i64 V.pg.right, .string V.pg.high, .slice q.aP V.pg.items.length q.cP] 32))
  go_enter Tryz.func11, Tryz.ntmps11
  go_upto_region 1 with fail
  obtain ⟨W0, hW0⟩ : ∃ W, w.alloc (.cells #[.int .i64 V.m, .int .i64 V.next, .slice q.aA V.act.length q.cA, .int .i64 V.own, .slice q.aR V.run.length q.cR, .int .i64 V.pg.lsn, .int .i64 V.pg.kind, .int .i64 V.pg.level, .int .i64 V.pg.right, .string V.pg.high, .slice q.aP V.pg.items.length q.cP] 32) = W := ⟨_, rfl⟩
  rw [hW0] at HB HO ⊢
  clear hW0
  obtain ⟨vc0, vc1, vc2, vc3, vc4, vc5, vc6, vc7, vc8, vc9, vc10, vf0, vf1, vf2, vf3, vf4, vf5, vf6, vf7, vf8, vf9, vf10, vlt⟩ := HB.out
  clear vf0 vf1 vf2 vf3 vf4 vf5 vf6 vf7 vf8 vf9 vf10
  go_wp2_with fail
  refine (C0.out _ (HN.out.more HO.out)).mono ?_
  rintro e w1 ⟨rfl, ho⟩
  clear vc0 vc1 vc2 vc3 vc4 vc5 vc6 vc7 vc8 vc9 vc10 vlt
  have HB := hide (HB.out.more ho)
  have HO := hide (o2 HO.out ho)
  clear ho
  cases b0 with
  | true =>
    obtain ⟨vc0, vc1, vc2, vc3, vc4, vc5, vc6, vc7, vc8, vc9, vc10, vf0, vf1, vf2, vf3, vf4, vf5, vf6, vf7, vf8, vf9, vf10, vlt⟩ := HB.out
    clear vf0 vf1 vf2 vf3 vf4 vf5 vf6 vf7 vf8 vf9 vf10
    go_wp2_with fail
    go_ret
    exact ⟨rfl, HO.out⟩
  | false =>
    obtain ⟨vc0, vc1, vc2, vc3, vc4, vc5, vc6, vc7, vc8, vc9, vc10, vf0, vf1, vf2, vf3, vf4, vf5, vf6, vf7, vf8, vf9, vf10, vlt⟩ := HB.out
    clear vf0 vf1 vf2 vf3 vf4 vf5 vf6 vf7 vf8 vf9 vf10
    go_wp2_with fail
    refine (C1.out _ (HN.out.more HO.out)).mono ?_
    rintro e w2 ⟨rfl, ho⟩
    clear vc0 vc1 vc2 vc3 vc4 vc5 vc6 vc7 vc8 vc9 vc10 vlt
    have HB := hide (HB.out.more ho)
    have HO := hide (o2 HO.out ho)
    clear ho
    cases b1 with
    | true =>
      obtain ⟨vc0, vc1, vc2, vc3, vc4, vc5, vc6, vc7, vc8, vc9, vc10, vf0, vf1, vf2, vf3, vf4, vf5, vf6, vf7, vf8, vf9, vf10, vlt⟩ := HB.out
      clear vf0 vf1 vf2 vf3 vf4 vf5 vf6 vf7 vf8 vf9 vf10
      go_wp2_with fail
      refine (C2.out _ (HN.out.more HO.out)).mono ?_
      rintro e w3 ⟨rfl, ho⟩
      clear vc0 vc1 vc2 vc3 vc4 vc5 vc6 vc7 vc8 vc9 vc10 vlt
      have HB := hide (HB.out.more ho)
      have HO := hide (o2 HO.out ho)
      clear ho
      cases b2 with
      | true =>
        obtain ⟨vc0, vc1, vc2, vc3, vc4, vc5, vc6, vc7, vc8, vc9, vc10, vf0, vf1, vf2, vf3, vf4, vf5, vf6, vf7, vf8, vf9, vf10, vlt⟩ := HB.out
        clear vf0 vf1 vf2 vf3 vf4 vf5 vf6 vf7 vf8 vf9 vf10
        go_wp2_with fail
        go_ret
        exact ⟨rfl, HO.out⟩
      | false =>
        obtain ⟨vc0, vc1, vc2, vc3, vc4, vc5, vc6, vc7, vc8, vc9, vc10, vf0, vf1, vf2, vf3, vf4, vf5, vf6, vf7, vf8, vf9, vf10, vlt⟩ := HB.out
        clear vf0 vf1 vf2 vf3 vf4 vf5 vf6 vf7 vf8 vf9 vf10
        go_wp2_with fail
        go_ret
        exact ⟨rfl, HO.out⟩
    | false =>
      obtain ⟨vc0, vc1, vc2, vc3, vc4, vc5, vc6, vc7, vc8, vc9, vc10, vf0, vf1, vf2, vf3, vf4, vf5, vf6, vf7, vf8, vf9, vf10, vlt⟩ := HB.out
      clear vf0 vf1 vf2 vf3 vf4 vf5 vf6 vf7 vf8 vf9 vf10
      go_wp2_with fail
      go_ret
      exact ⟨rfl, HO.out⟩
set_option maxRecDepth 100000 in
set_option maxHeartbeats 1600000 in
theorem isNews_any (w : World) (V : Vw) (q : Lo) (x : Int) (h : Sn w V q) (hx : I64 x) :
    Calls Tryz.prog 39 #[.agg #[.int .i64 V.m, .int .i64 V.next, .slice q.aA V.act.length q.cA, .int .i64 V.own, .slice q.aR V.run.length q.cR, .int .i64 V.pg.lsn, .int .i64 V.pg.kind, .int .i64 V.pg.level, .int .i64 V.pg.right, .string V.pg.high, .slice q.aP V.pg.items.length q.cP], .int .i64 x] w fun e w' => e = .returned (.bool (vnews V x)) ∧ Only (fun _ => False) w w' := by
  have C0 := hide (fun W (h : Sn W V q) => isCom_any W V q x h hx)
  have C1 := hide (fun W (h : Sn W V q) => sees_any W V q x h hx)
  simp only [vnews]
  obtain ⟨b0, hb0⟩ : ∃ b, vcom V x = b := ⟨_, rfl⟩
  obtain ⟨b1, hb1⟩ : ∃ b, vsees V x = b := ⟨_, rfl⟩
  simp only [hb0, hb1] at C0 C1 ⊢
  clear hb0 hb1
  have HN := hide h
  clear h hx
  have HB := hide (VB.new w (.int .i64 V.m) (.int .i64 V.next) (.slice q.aA V.act.length q.cA) (.int .i64 V.own) (.slice q.aR V.run.length q.cR) (.int .i64 V.pg.lsn) (.int .i64 V.pg.kind) (.int .i64 V.pg.level) (.int .i64 V.pg.right) (.string V.pg.high) (.slice q.aP V.pg.items.length q.cP))
  have HO := hide (onlyA w (.cells #[.int .i64 V.m, .int .i64 V.next, .slice q.aA V.act.length q.cA, .int .i64 V.own, .slice q.aR V.run.length q.cR, .int .i64 V.pg.lsn, .int .i64 V.pg.kind, .int .i64 V.pg.level, .int .i64 V.pg.right, .string V.pg.high, .slice q.aP V.pg.items.length q.cP] 32))
  go_enter Tryz.func39, Tryz.ntmps39
  go_upto_region 1 with fail
  obtain ⟨W0, hW0⟩ : ∃ W, w.alloc (.cells #[.int .i64 V.m, .int .i64 V.next, .slice q.aA V.act.length q.cA, .int .i64 V.own, .slice q.aR V.run.length q.cR, .int .i64 V.pg.lsn, .int .i64 V.pg.kind, .int .i64 V.pg.level, .int .i64 V.pg.right, .string V.pg.high, .slice q.aP V.pg.items.length q.cP] 32) = W := ⟨_, rfl⟩
  rw [hW0] at HB HO ⊢
  clear hW0
  obtain ⟨vc0, vc1, vc2, vc3, vc4, vc5, vc6, vc7, vc8, vc9, vc10, vf0, vf1, vf2, vf3, vf4, vf5, vf6, vf7, vf8, vf9, vf10, vlt⟩ := HB.out
  clear vf0 vf1 vf2 vf3 vf4 vf5 vf6 vf7 vf8 vf9 vf10
  go_wp2_with fail
  refine (C0.out _ (HN.out.more HO.out)).mono ?_
  rintro e w1 ⟨rfl, ho⟩
  clear vc0 vc1 vc2 vc3 vc4 vc5 vc6 vc7 vc8 vc9 vc10 vlt
  have HB := hide (HB.out.more ho)
  have HO := hide (o2 HO.out ho)
  clear ho
  cases b0 with
  | true =>
    obtain ⟨vc0, vc1, vc2, vc3, vc4, vc5, vc6, vc7, vc8, vc9, vc10, vf0, vf1, vf2, vf3, vf4, vf5, vf6, vf7, vf8, vf9, vf10, vlt⟩ := HB.out
    clear vf0 vf1 vf2 vf3 vf4 vf5 vf6 vf7 vf8 vf9 vf10
    go_wp2_with fail
    refine (C1.out _ (HN.out.more HO.out)).mono ?_
    rintro e w2 ⟨rfl, ho⟩
    clear vc0 vc1 vc2 vc3 vc4 vc5 vc6 vc7 vc8 vc9 vc10 vlt
    have HB := hide (HB.out.more ho)
    have HO := hide (o2 HO.out ho)
    clear ho
    cases b1 with
    | true =>
      obtain ⟨vc0, vc1, vc2, vc3, vc4, vc5, vc6, vc7, vc8, vc9, vc10, vf0, vf1, vf2, vf3, vf4, vf5, vf6, vf7, vf8, vf9, vf10, vlt⟩ := HB.out
      clear vf0 vf1 vf2 vf3 vf4 vf5 vf6 vf7 vf8 vf9 vf10
      go_wp2_with fail
      go_ret
      exact ⟨rfl, HO.out⟩
    | false =>
      obtain ⟨vc0, vc1, vc2, vc3, vc4, vc5, vc6, vc7, vc8, vc9, vc10, vf0, vf1, vf2, vf3, vf4, vf5, vf6, vf7, vf8, vf9, vf10, vlt⟩ := HB.out
      clear vf0 vf1 vf2 vf3 vf4 vf5 vf6 vf7 vf8 vf9 vf10
      go_wp2_with fail
      go_ret
      exact ⟨rfl, HO.out⟩
  | false =>
    obtain ⟨vc0, vc1, vc2, vc3, vc4, vc5, vc6, vc7, vc8, vc9, vc10, vf0, vf1, vf2, vf3, vf4, vf5, vf6, vf7, vf8, vf9, vf10, vlt⟩ := HB.out
    clear vf0 vf1 vf2 vf3 vf4 vf5 vf6 vf7 vf8 vf9 vf10
    go_wp2_with fail
    go_ret
    exact ⟨rfl, HO.out⟩
set_option maxRecDepth 100000 in
set_option maxHeartbeats 1600000 in
theorem isPast_any (w : World) (V : Vw) (q : Lo) (x : Int) (z : Int) (h : Sn w V q) (hx : I64 x) (hz : I64 z) :
    Calls Tryz.prog 43 #[.agg #[.int .i64 V.m, .int .i64 V.next, .slice q.aA V.act.length q.cA, .int .i64 V.own, .slice q.aR V.run.length q.cR, .int .i64 V.pg.lsn, .int .i64 V.pg.kind, .int .i64 V.pg.level, .int .i64 V.pg.right, .string V.pg.high, .slice q.aP V.pg.items.length q.cP], .int .i64 x, .int .i64 z] w fun e w' => e = .returned (.bool (vpast V x z)) ∧ Only (fun _ => False) w w' := by
  have C0 := hide (fun W (h : Sn W V q) => isCom_any W V q x h hx)
  have C1 := hide (fun W (h : Sn W V q) => quiet_only (before_any V.m x z W h.m hx hz))
  simp only [vpast]
  obtain ⟨b0, hb0⟩ : ∃ b, vcom V x = b := ⟨_, rfl⟩
  obtain ⟨b1, hb1⟩ : ∃ b, xbef V.m x z = b := ⟨_, rfl⟩
  simp only [hb0, hb1] at C0 C1 ⊢
  clear hb0 hb1
  have HN := hide h
  clear h hx hz
  have HB := hide (VB.new w (.int .i64 V.m) (.int .i64 V.next) (.slice q.aA V.act.length q.cA) (.int .i64 V.own) (.slice q.aR V.run.length q.cR) (.int .i64 V.pg.lsn) (.int .i64 V.pg.kind) (.int .i64 V.pg.level) (.int .i64 V.pg.right) (.string V.pg.high) (.slice q.aP V.pg.items.length q.cP))
  have HO := hide (onlyA w (.cells #[.int .i64 V.m, .int .i64 V.next, .slice q.aA V.act.length q.cA, .int .i64 V.own, .slice q.aR V.run.length q.cR, .int .i64 V.pg.lsn, .int .i64 V.pg.kind, .int .i64 V.pg.level, .int .i64 V.pg.right, .string V.pg.high, .slice q.aP V.pg.items.length q.cP] 32))
  go_enter Tryz.func43, Tryz.ntmps43
  go_upto_region 1 with fail
  obtain ⟨W0, hW0⟩ : ∃ W, w.alloc (.cells #[.int .i64 V.m, .int .i64 V.next, .slice q.aA V.act.length q.cA, .int .i64 V.own, .slice q.aR V.run.length q.cR, .int .i64 V.pg.lsn, .int .i64 V.pg.kind, .int .i64 V.pg.level, .int .i64 V.pg.right, .string V.pg.high, .slice q.aP V.pg.items.length q.cP] 32) = W := ⟨_, rfl⟩
  rw [hW0] at HB HO ⊢
  clear hW0
  obtain ⟨vc0, vc1, vc2, vc3, vc4, vc5, vc6, vc7, vc8, vc9, vc10, vf0, vf1, vf2, vf3, vf4, vf5, vf6, vf7, vf8, vf9, vf10, vlt⟩ := HB.out
  clear vf0 vf1 vf2 vf3 vf4 vf5 vf6 vf7 vf8 vf9 vf10
  go_wp2_with fail
  refine (C0.out _ (HN.out.more HO.out)).mono ?_
  rintro e w1 ⟨rfl, ho⟩
  clear vc0 vc1 vc2 vc3 vc4 vc5 vc6 vc7 vc8 vc9 vc10 vlt
  have HB := hide (HB.out.more ho)
  have HO := hide (o2 HO.out ho)
  clear ho
  cases b0 with
  | true =>
    obtain ⟨vc0, vc1, vc2, vc3, vc4, vc5, vc6, vc7, vc8, vc9, vc10, vf0, vf1, vf2, vf3, vf4, vf5, vf6, vf7, vf8, vf9, vf10, vlt⟩ := HB.out
    clear vf0 vf1 vf2 vf3 vf4 vf5 vf6 vf7 vf8 vf9 vf10
    go_wp2_with fail
    refine (C1.out _ (HN.out.more HO.out)).mono ?_
    rintro e w2 ⟨rfl, ho⟩
    clear vc0 vc1 vc2 vc3 vc4 vc5 vc6 vc7 vc8 vc9 vc10 vlt
    have HB := hide (HB.out.more ho)
    have HO := hide (o2 HO.out ho)
    clear ho
    cases b1 with
    | true =>
      obtain ⟨vc0, vc1, vc2, vc3, vc4, vc5, vc6, vc7, vc8, vc9, vc10, vf0, vf1, vf2, vf3, vf4, vf5, vf6, vf7, vf8, vf9, vf10, vlt⟩ := HB.out
      clear vf0 vf1 vf2 vf3 vf4 vf5 vf6 vf7 vf8 vf9 vf10
      go_wp2_with fail
      go_ret
      exact ⟨rfl, HO.out⟩
    | false =>
      obtain ⟨vc0, vc1, vc2, vc3, vc4, vc5, vc6, vc7, vc8, vc9, vc10, vf0, vf1, vf2, vf3, vf4, vf5, vf6, vf7, vf8, vf9, vf10, vlt⟩ := HB.out
      clear vf0 vf1 vf2 vf3 vf4 vf5 vf6 vf7 vf8 vf9 vf10
      go_wp2_with fail
      go_ret
      exact ⟨rfl, HO.out⟩
  | false =>
    obtain ⟨vc0, vc1, vc2, vc3, vc4, vc5, vc6, vc7, vc8, vc9, vc10, vf0, vf1, vf2, vf3, vf4, vf5, vf6, vf7, vf8, vf9, vf10, vlt⟩ := HB.out
    clear vf0 vf1 vf2 vf3 vf4 vf5 vf6 vf7 vf8 vf9 vf10
    go_wp2_with fail
    go_ret
    exact ⟨rfl, HO.out⟩
end Go.Proofs.YtolfmodgkkjnbaaGreat
