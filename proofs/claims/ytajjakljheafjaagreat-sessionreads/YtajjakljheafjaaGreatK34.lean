/- Parts. -/
import Derived.Test.YtajjakljheafjaaGreatK26
import Derived.Test.YtajjakljheafjaaGreatK30
import Derived.Test.YtajjakljheafjaaGreatK33
set_option maxRecDepth 100000
namespace Go.Proofs.YtajjakljheafjaaGreat
open Go.RowKit
set_option maxRecDepth 100000 in
set_option maxHeartbeats 1600000 in
theorem isOwn_any (w : World) (V : Vw) (q : Lo) (x : Int) (h : Sn w V q) (_ : I64 x) :
    Calls Tryz.prog 201 #[.agg #[.int .i64 V.m, .int .i64 V.next, .slice q.aA V.act.length q.cA, .int .i64 V.own, .slice q.aR V.run.length q.cR, .int .i64 V.pg.lsn, .int .i64 V.pg.kind, .int .i64 V.pg.level, .int .i64 V.pg.right, .string V.pg.high, .slice q.aP V.pg.items.length q.cP], .int .i64 x] w fun e w' => e = .returned (.bool (vown V x)) ∧ Only (fun _ => False) w w' := by
  simp only [vown]
  have HN := hide h
  clear h
  have HB := hide (VB.new w (.int .i64 V.m) (.int .i64 V.next) (.slice q.aA V.act.length q.cA) (.int .i64 V.own) (.slice q.aR V.run.length q.cR) (.int .i64 V.pg.lsn) (.int .i64 V.pg.kind) (.int .i64 V.pg.level) (.int .i64 V.pg.right) (.string V.pg.high) (.slice q.aP V.pg.items.length q.cP))
  have HO := hide (onlyA w (.cells #[.int .i64 V.m, .int .i64 V.next, .slice q.aA V.act.length q.cA, .int .i64 V.own, .slice q.aR V.run.length q.cR, .int .i64 V.pg.lsn, .int .i64 V.pg.kind, .int .i64 V.pg.level, .int .i64 V.pg.right, .string V.pg.high, .slice q.aP V.pg.items.length q.cP] 42))
  by_cases h0 : V.own = 0
  ·
    have g1 : (V.own != 0) = false := by simp [h0]
    clear h0
    rw [g1]
    go_enter Tryz.func201, Tryz.ntmps201
    go_upto_region 1 with fail
    obtain ⟨W0, hW0⟩ : ∃ W, w.alloc (.cells #[.int .i64 V.m, .int .i64 V.next, .slice q.aA V.act.length q.cA, .int .i64 V.own, .slice q.aR V.run.length q.cR, .int .i64 V.pg.lsn, .int .i64 V.pg.kind, .int .i64 V.pg.level, .int .i64 V.pg.right, .string V.pg.high, .slice q.aP V.pg.items.length q.cP] 42) = W := ⟨_, rfl⟩
    rw [hW0] at HB HO ⊢
    clear hW0
    obtain ⟨vc0, vc1, vc2, vc3, vc4, vc5, vc6, vc7, vc8, vc9, vc10, vf0, vf1, vf2, vf3, vf4, vf5, vf6, vf7, vf8, vf9, vf10, vlt⟩ := HB.out
    clear vf0 vf1 vf2 vf3 vf4 vf5 vf6 vf7 vf8 vf9 vf10
    go_wp2_with fail
    go_ret
    exact ⟨rfl, HO.out⟩
  ·
    have g1 : (V.own != 0) = true := by simp [h0]
    clear h0
    rw [g1]
    by_cases h1 : x = V.own
    ·
      have g2 : (x == V.own) = true := by simp [h1]
      clear h1
      rw [g2]
      go_enter Tryz.func201, Tryz.ntmps201
      go_upto_region 1 with fail
      obtain ⟨W0, hW0⟩ : ∃ W, w.alloc (.cells #[.int .i64 V.m, .int .i64 V.next, .slice q.aA V.act.length q.cA, .int .i64 V.own, .slice q.aR V.run.length q.cR, .int .i64 V.pg.lsn, .int .i64 V.pg.kind, .int .i64 V.pg.level, .int .i64 V.pg.right, .string V.pg.high, .slice q.aP V.pg.items.length q.cP] 42) = W := ⟨_, rfl⟩
      rw [hW0] at HB HO ⊢
      clear hW0
      obtain ⟨vc0, vc1, vc2, vc3, vc4, vc5, vc6, vc7, vc8, vc9, vc10, vf0, vf1, vf2, vf3, vf4, vf5, vf6, vf7, vf8, vf9, vf10, vlt⟩ := HB.out
      clear vf0 vf1 vf2 vf3 vf4 vf5 vf6 vf7 vf8 vf9 vf10
      go_wp2_with fail
      go_ret
      exact ⟨rfl, HO.out⟩
    ·
      have g2 : (x == V.own) = false := by simp [h1]
      clear h1
      rw [g2]
      go_enter Tryz.func201, Tryz.ntmps201
      go_upto_region 1 with fail
      obtain ⟨W0, hW0⟩ : ∃ W, w.alloc (.cells #[.int .i64 V.m, .int .i64 V.next, .slice q.aA V.act.length q.cA, .int .i64 V.own, .slice q.aR V.run.length q.cR, .int .i64 V.pg.lsn, .int .i64 V.pg.kind, .int .i64 V.pg.level, .int .i64 V.pg.right, .string V.pg.high, .slice q.aP V.pg.items.length q.cP] 42) = W := ⟨_, rfl⟩
      rw [hW0] at HB HO ⊢
      clear hW0
      obtain ⟨vc0, vc1, vc2, vc3, vc4, vc5, vc6, vc7, vc8, vc9, vc10, vf0, vf1, vf2, vf3, vf4, vf5, vf6, vf7, vf8, vf9, vf10, vlt⟩ := HB.out
      clear vf0 vf1 vf2 vf3 vf4 vf5 vf6 vf7 vf8 vf9 vf10
      go_wp2_with fail
      go_ret
      exact ⟨rfl, HO.out⟩
set_option maxRecDepth 100000 in
set_option maxHeartbeats 1600000 in
theorem status_any (w : World) (V : Vw) (q : Lo) (x : Int) (h : Sn w V q) (hx : I64 x) :
    Calls Tryz.prog 200 #[.agg #[.int .i64 V.m, .int .i64 V.next, .slice q.aA V.act.length q.cA, .int .i64 V.own, .slice q.aR V.run.length q.cR, .int .i64 V.pg.lsn, .int .i64 V.pg.kind, .int .i64 V.pg.level, .int .i64 V.pg.right, .string V.pg.high, .slice q.aP V.pg.items.length q.cP], .int .i64 x] w fun e w' => e = .returned (.int .u8 (vsi V x)) ∧ Only (fun _ => False) w w' := by
  have C0 := hide (fun W (h : Sn W V q) => quiet_only (scontains_any W q.bR q.cR q.aR V.run x h.run))
  have C1 := hide (fun W (h : Sn W V q) => cget_any W V.m V.pg.lsn V.pg.kind V.pg.level V.pg.right x V.pg.high q.cP q.bP q.aP V.pg.items h.m hx h.pg)
  have HN := hide h
  clear h hx
  have HB := hide (VB.new w (.int .i64 V.m) (.int .i64 V.next) (.slice q.aA V.act.length q.cA) (.int .i64 V.own) (.slice q.aR V.run.length q.cR) (.int .i64 V.pg.lsn) (.int .i64 V.pg.kind) (.int .i64 V.pg.level) (.int .i64 V.pg.right) (.string V.pg.high) (.slice q.aP V.pg.items.length q.cP))
  have HO := hide (onlyA w (.cells #[.int .i64 V.m, .int .i64 V.next, .slice q.aA V.act.length q.cA, .int .i64 V.own, .slice q.aR V.run.length q.cR, .int .i64 V.pg.lsn, .int .i64 V.pg.kind, .int .i64 V.pg.level, .int .i64 V.pg.right, .string V.pg.high, .slice q.aP V.pg.items.length q.cP] 42))
  by_cases hr : x ∈ V.run
  ·
    rw [decide_eq_true hr] at C0
    have hv : vsi V x = 1 := by unfold vsi; rw [if_pos hr]
    rw [hv]
    clear hr hv
    go_enter Tryz.func200, Tryz.ntmps200
    go_upto_region 1 with fail
    obtain ⟨W0, hW0⟩ : ∃ W, w.alloc (.cells #[.int .i64 V.m, .int .i64 V.next, .slice q.aA V.act.length q.cA, .int .i64 V.own, .slice q.aR V.run.length q.cR, .int .i64 V.pg.lsn, .int .i64 V.pg.kind, .int .i64 V.pg.level, .int .i64 V.pg.right, .string V.pg.high, .slice q.aP V.pg.items.length q.cP] 42) = W := ⟨_, rfl⟩
    rw [hW0] at HB HO ⊢
    clear hW0
    obtain ⟨vc0, vc1, vc2, vc3, vc4, vc5, vc6, vc7, vc8, vc9, vc10, vf0, vf1, vf2, vf3, vf4, vf5, vf6, vf7, vf8, vf9, vf10, vlt⟩ := HB.out
    clear vf0 vf1 vf2 vf3 vf4 vf5 vf6 vf7 vf8 vf9 vf10
    go_wp2_with fail
    refine (C0.out _ (HN.out.more HO.out)).mono ?_
    rintro e w1 ⟨rfl, ho⟩
    clear vc0 vc1 vc2 vc3 vc4 vc5 vc6 vc7 vc8 vc9 vc10 vlt
    have HB := hide (HB.out.more ho)
    have HO := hide (o2 HO.out ho)
    clear ho
    obtain ⟨vc0, vc1, vc2, vc3, vc4, vc5, vc6, vc7, vc8, vc9, vc10, vf0, vf1, vf2, vf3, vf4, vf5, vf6, vf7, vf8, vf9, vf10, vlt⟩ := HB.out
    clear vf0 vf1 vf2 vf3 vf4 vf5 vf6 vf7 vf8 vf9 vf10
    go_wp2_with fail
    go_ret
    exact ⟨rfl, HO.out⟩
  ·
    rw [decide_eq_false hr] at C0
    have hv : vsi V x = (gst V.m V.pg x : Int) := by unfold vsi; rw [if_neg hr]
    rw [hv]
    clear hr hv
    go_enter Tryz.func200, Tryz.ntmps200
    go_upto_region 1 with fail
    obtain ⟨W0, hW0⟩ : ∃ W, w.alloc (.cells #[.int .i64 V.m, .int .i64 V.next, .slice q.aA V.act.length q.cA, .int .i64 V.own, .slice q.aR V.run.length q.cR, .int .i64 V.pg.lsn, .int .i64 V.pg.kind, .int .i64 V.pg.level, .int .i64 V.pg.right, .string V.pg.high, .slice q.aP V.pg.items.length q.cP] 42) = W := ⟨_, rfl⟩
    rw [hW0] at HB HO ⊢
    clear hW0
    obtain ⟨vc0, vc1, vc2, vc3, vc4, vc5, vc6, vc7, vc8, vc9, vc10, vf0, vf1, vf2, vf3, vf4, vf5, vf6, vf7, vf8, vf9, vf10, vlt⟩ := HB.out
    clear vf0 vf1 vf2 vf3 vf4 vf5 vf6 vf7 vf8 vf9 vf10
    go_wp2_with fail
    refine (C0.out _ (HN.out.more HO.out)).mono ?_
    rintro e w2 ⟨rfl, ho⟩
    clear vc0 vc1 vc2 vc3 vc4 vc5 vc6 vc7 vc8 vc9 vc10 vlt
    have HB := hide (HB.out.more ho)
    have HO := hide (o2 HO.out ho)
    clear ho
    obtain ⟨vc0, vc1, vc2, vc3, vc4, vc5, vc6, vc7, vc8, vc9, vc10, vf0, vf1, vf2, vf3, vf4, vf5, vf6, vf7, vf8, vf9, vf10, vlt⟩ := HB.out
    clear vf0 vf1 vf2 vf3 vf4 vf5 vf6 vf7 vf8 vf9 vf10
    go_wp2_with fail
    refine (C1.out _ (HN.out.more HO.out)).mono ?_
    rintro e w3 ⟨rfl, ho⟩
    clear vc0 vc1 vc2 vc3 vc4 vc5 vc6 vc7 vc8 vc9 vc10 vlt
    have HB := hide (HB.out.more ho)
    have HO := hide (o2 HO.out ho)
    clear ho
    obtain ⟨vc0, vc1, vc2, vc3, vc4, vc5, vc6, vc7, vc8, vc9, vc10, vf0, vf1, vf2, vf3, vf4, vf5, vf6, vf7, vf8, vf9, vf10, vlt⟩ := HB.out
    clear vf0 vf1 vf2 vf3 vf4 vf5 vf6 vf7 vf8 vf9 vf10
    go_wp2_with fail
    go_ret
    exact ⟨rfl, HO.out⟩
set_option maxRecDepth 100000 in
set_option maxHeartbeats 1600000 in
theorem isCom_any (w : World) (V : Vw) (q : Lo) (x : Int) (h : Sn w V q) (hx : I64 x) :
    Calls Tryz.prog 198 #[.agg #[.int .i64 V.m, .int .i64 V.next, .slice q.aA V.act.length q.cA, .int .i64 V.own, .slice q.aR V.run.length q.cR, .int .i64 V.pg.lsn, .int .i64 V.pg.kind, .int .i64 V.pg.level, .int .i64 V.pg.right, .string V.pg.high, .slice q.aP V.pg.items.length q.cP], .int .i64 x] w fun e w' => e = .returned (.bool (vcom V x)) ∧ Only (fun _ => False) w w' := by
  have C0 := hide (fun W (h : Sn W V q) => status_any W V q x h hx)
  simp only [vcom]
  obtain ⟨b0, hb0⟩ : ∃ b, vsi V x = b := ⟨_, rfl⟩
  have hs0 : 0 ≤ b0 ∧ b0 < 4 := by rw [← hb0]; exact vsi_bd _ _
  simp only [hb0] at C0 ⊢
  clear hb0
  have HN := hide h
  clear h hx
  have HB := hide (VB.new w (.int .i64 V.m) (.int .i64 V.next) (.slice q.aA V.act.length q.cA) (.int .i64 V.own) (.slice q.aR V.run.length q.cR) (.int .i64 V.pg.lsn) (.int .i64 V.pg.kind) (.int .i64 V.pg.level) (.int .i64 V.pg.right) (.string V.pg.high) (.slice q.aP V.pg.items.length q.cP))
  have HO := hide (onlyA w (.cells #[.int .i64 V.m, .int .i64 V.next, .slice q.aA V.act.length q.cA, .int .i64 V.own, .slice q.aR V.run.length q.cR, .int .i64 V.pg.lsn, .int .i64 V.pg.kind, .int .i64 V.pg.level, .int .i64 V.pg.right, .string V.pg.high, .slice q.aP V.pg.items.length q.cP] 42))
  go_enter Tryz.func198, Tryz.ntmps198
  go_upto_region 1 with fail
  obtain ⟨W0, hW0⟩ : ∃ W, w.alloc (.cells #[.int .i64 V.m, .int .i64 V.next, .slice q.aA V.act.length q.cA, .int .i64 V.own, .slice q.aR V.run.length q.cR, .int .i64 V.pg.lsn, .int .i64 V.pg.kind, .int .i64 V.pg.level, .int .i64 V.pg.right, .string V.pg.high, .slice q.aP V.pg.items.length q.cP] 42) = W := ⟨_, rfl⟩
  rw [hW0] at HB HO ⊢
  clear hW0
  obtain ⟨vc0, vc1, vc2, vc3, vc4, vc5, vc6, vc7, vc8, vc9, vc10, vf0, vf1, vf2, vf3, vf4, vf5, vf6, vf7, vf8, vf9, vf10, vlt⟩ := HB.out
  clear vf0 vf1 vf2 vf3 vf4 vf5 vf6 vf7 vf8 vf9 vf10
  go_wp2_with fail
  refine (C0.out _ (HN.out.more HO.out)).mono ?_
  rintro e w1 ⟨rfl, ho⟩
  clear vc0 vc1 vc2 vc3 vc4 vc5 vc6 vc7 vc8 vc9 vc10 vlt
  have HB := hide (HB.out.more ho)
  have HO := hide (o2 HO.out ho)
  clear ho
  rcases four hs0.1 hs0.2 with rfl | rfl | rfl | rfl
  · clear hs0
    obtain ⟨vc0, vc1, vc2, vc3, vc4, vc5, vc6, vc7, vc8, vc9, vc10, vf0, vf1, vf2, vf3, vf4, vf5, vf6, vf7, vf8, vf9, vf10, vlt⟩ := HB.out
    clear vf0 vf1 vf2 vf3 vf4 vf5 vf6 vf7 vf8 vf9 vf10
    go_wp2_with fail
    go_ret
    exact ⟨rfl, HO.out⟩
  · clear hs0
    obtain ⟨vc0, vc1, vc2, vc3, vc4, vc5, vc6, vc7, vc8, vc9, vc10, vf0, vf1, vf2, vf3, vf4, vf5, vf6, vf7, vf8, vf9, vf10, vlt⟩ := HB.out
    clear vf0 vf1 vf2 vf3 vf4 vf5 vf6 vf7 vf8 vf9 vf10
    go_wp2_with fail
    go_ret
    exact ⟨rfl, HO.out⟩
  · clear hs0
    obtain ⟨vc0, vc1, vc2, vc3, vc4, vc5, vc6, vc7, vc8, vc9, vc10, vf0, vf1, vf2, vf3, vf4, vf5, vf6, vf7, vf8, vf9, vf10, vlt⟩ := HB.out
    clear vf0 vf1 vf2 vf3 vf4 vf5 vf6 vf7 vf8 vf9 vf10
    go_wp2_with fail
    go_ret
    exact ⟨rfl, HO.out⟩
  · clear hs0
    obtain ⟨vc0, vc1, vc2, vc3, vc4, vc5, vc6, vc7, vc8, vc9, vc10, vf0, vf1, vf2, vf3, vf4, vf5, vf6, vf7, vf8, vf9, vf10, vlt⟩ := HB.out
    clear vf0 vf1 vf2 vf3 vf4 vf5 vf6 vf7 vf8 vf9 vf10
    go_wp2_with fail
    go_ret
    exact ⟨rfl, HO.out⟩
set_option maxRecDepth 100000 in
set_option maxHeartbeats 1600000 in
theorem wasDone_any (w : World) (V : Vw) (q : Lo) (x : Int) (h : Sn w V q) (hx : I64 x) :
    Calls Tryz.prog 202 #[.agg #[.int .i64 V.m, .int .i64 V.next, .slice q.aA V.act.length q.cA, .int .i64 V.own, .slice q.aR V.run.length q.cR, .int .i64 V.pg.lsn, .int .i64 V.pg.kind, .int .i64 V.pg.level, .int .i64 V.pg.right, .string V.pg.high, .slice q.aP V.pg.items.length q.cP], .int .i64 x] w fun e w' => e = .returned (.bool (vdone V x)) ∧ Only (fun _ => False) w w' := by
  have C0 := hide (fun W (h : Sn W V q) => quiet_only (before_any V.m x V.next W h.m hx h.next))
  have C1 := hide (fun W (h : Sn W V q) => quiet_only (scontains_any W q.bA q.cA q.aA V.act x h.act))
  simp only [vdone]
  obtain ⟨b0, hb0⟩ : ∃ b, xbef V.m x V.next = b := ⟨_, rfl⟩
  obtain ⟨b1, hb1⟩ : ∃ b, decide (x ∈ V.act) = b := ⟨_, rfl⟩
  simp only [hb0, hb1] at C0 C1 ⊢
  clear hb0 hb1
  have HN := hide h
  clear h hx
  have HB := hide (VB.new w (.int .i64 V.m) (.int .i64 V.next) (.slice q.aA V.act.length q.cA) (.int .i64 V.own) (.slice q.aR V.run.length q.cR) (.int .i64 V.pg.lsn) (.int .i64 V.pg.kind) (.int .i64 V.pg.level) (.int .i64 V.pg.right) (.string V.pg.high) (.slice q.aP V.pg.items.length q.cP))
  have HO := hide (onlyA w (.cells #[.int .i64 V.m, .int .i64 V.next, .slice q.aA V.act.length q.cA, .int .i64 V.own, .slice q.aR V.run.length q.cR, .int .i64 V.pg.lsn, .int .i64 V.pg.kind, .int .i64 V.pg.level, .int .i64 V.pg.right, .string V.pg.high, .slice q.aP V.pg.items.length q.cP] 42))
  go_enter Tryz.func202, Tryz.ntmps202
  go_upto_region 1 with fail
  obtain ⟨W0, hW0⟩ : ∃ W, w.alloc (.cells #[.int .i64 V.m, .int .i64 V.next, .slice q.aA V.act.length q.cA, .int .i64 V.own, .slice q.aR V.run.length q.cR, .int .i64 V.pg.lsn, .int .i64 V.pg.kind, .int .i64 V.pg.level, .int .i64 V.pg.right, .string V.pg.high, .slice q.aP V.pg.items.length q.cP] 42) = W := ⟨_, rfl⟩
  rw [hW0] at HB HO ⊢
  clear hW0
  obtain ⟨vc0, vc1, vc2, vc3, vc4, vc5, vc6, vc7, vc8, vc9, vc10, vf0, vf1, vf2, vf3, vf4, vf5, vf6, vf7, vf8, vf9, vf10, vlt⟩ := HB.out
  clear vf0 vf1 vf2 vf3 vf4 vf5 vf6 vf7 vf8 vf9 vf10
  go_wp2_with fail
  refine (C0.out _ (HN.out.more HO.out)).mono ?_
  rintro e w1 ⟨rfl, ho⟩
  clear vc0 vc1 vc2 vc3 vc4 vc5 vc6 vc7 vc8 vc9 vc10 vlt
  have HB := hide (HB.out.more ho)
  have HO := hide (o2 HO.out ho)
  clear ho
  cases b0 with
  | true =>
    obtain ⟨vc0, vc1, vc2, vc3, vc4, vc5, vc6, vc7, vc8, vc9, vc10, vf0, vf1, vf2, vf3, vf4, vf5, vf6, vf7, vf8, vf9, vf10, vlt⟩ := HB.out
    clear vf0 vf1 vf2 vf3 vf4 vf5 vf6 vf7 vf8 vf9 vf10
    go_wp2_with fail
    refine (C1.out _ (HN.out.more HO.out)).mono ?_
    rintro e w2 ⟨rfl, ho⟩
    clear vc0 vc1 vc2 vc3 vc4 vc5 vc6 vc7 vc8 vc9 vc10 vlt
    have HB := hide (HB.out.more ho)
    have HO := hide (o2 HO.out ho)
    clear ho
    cases b1 with
    | true =>
      obtain ⟨vc0, vc1, vc2, vc3, vc4, vc5, vc6, vc7, vc8, vc9, vc10, vf0, vf1, vf2, vf3, vf4, vf5, vf6, vf7, vf8, vf9, vf10, vlt⟩ := HB.out
      clear vf0 vf1 vf2 vf3 vf4 vf5 vf6 vf7 vf8 vf9 vf10
      go_wp2_with fail
      go_ret
      exact ⟨rfl, HO.out⟩
    | false =>
      obtain ⟨vc0, vc1, vc2, vc3, vc4, vc5, vc6, vc7, vc8, vc9, vc10, vf0, vf1, vf2, vf3, vf4, vf5, vf6, vf7, vf8, vf9, vf10, vlt⟩ := HB.out
      clear vf0 vf1 vf2 vf3 vf4 vf5 vf6 vf7 vf8 vf9 vf10
      go_wp2_with fail
      go_ret
      exact ⟨rfl, HO.out⟩
  | false =>
    obtain ⟨vc0, vc1, vc2, vc3, vc4, vc5, vc6, vc7, vc8, vc9, vc10, vf0, vf1, vf2, vf3, vf4, vf5, vf6, vf7, vf8, vf9, vf10, vlt⟩ := HB.out
    clear vf0 vf1 vf2 vf3 vf4 vf5 vf6 vf7 vf8 vf9 vf10
    go_wp2_with fail
    go_ret
    exact ⟨rfl, HO.out⟩
set_option maxRecDepth 100000 in
set_option maxHeartbeats 1600000 in
theorem sees_any (w : World) (V : Vw) (q : Lo) (x : Int) (h : Sn w V q) (hx : I64 x) :
    Calls Tryz.prog 199 #[.agg #[.int .i64 V.m, .int .i64 V.next, .slice q.aA V.act.length q.cA, .int .i64 V.own, .slice q.aR V.run.length q.cR, .int .i64 V.pg.lsn, .int .i64 V.pg.kind, .int .i64 V.pg.level, .int .i64 V.pg.right, .string V.pg.high, .slice q.aP V.pg.items.length q.cP], .int .i64 x] w fun e w' => e = .returned (.bool (vsees V x)) ∧ Only (fun _ => False) w w' := by
  have C0 := hide (fun W (h : Sn W V q) => isOwn_any W V q x h hx)
  have C1 := hide (fun W (h : Sn W V q) => isCom_any W V q x h hx)
  have C2 := hide (fun W (h : Sn W V q) => wasDone_any W V q x h hx)
  simp only [vsees]
  obtain ⟨b0, hb0⟩ : ∃ b, vown V x = b := ⟨_, rfl⟩
  obtain ⟨b1, hb1⟩ : ∃ b, vcom V x = b := ⟨_, rfl⟩
  obtain ⟨b2, hb2⟩ : ∃ b, vdone V x = b := ⟨_, rfl⟩
  simp only [hb0, hb1, hb2] at C0 C1 C2 ⊢
  clear hb0 hb1 hb2
  have HN := hide h
  clear h hx
  have HB := hide (VB.new w (.int .i64 V.m) (.int .i64 V.next) (.slice q.aA V.act.length q.cA) (.int .i64 V.own) (.slice q.aR V.run.length q.cR) (.int .i64 V.pg.lsn) (.int .i64 V.pg.kind) (.int .i64 V.pg.level) (.int .i64 V.pg.right) (.string V.pg.high) (.slice q.aP V.pg.items.length q.cP))
  have HO := hide (onlyA w (.cells #[.int .i64 V.m, .int .i64 V.next, .slice q.aA V.act.length q.cA, .int .i64 V.own, .slice q.aR V.run.length q.cR, .int .i64 V.pg.lsn, .int .i64 V.pg.kind, .int .i64 V.pg.level, .int .i64 V.pg.right, .string V.pg.high, .slice q.aP V.pg.items.length q.cP] 42))
  go_enter Tryz.func199, Tryz.ntmps199
  go_upto_region 1 with fail
  obtain ⟨W0, hW0⟩ : ∃ W, w.alloc (.cells #[.int .i64 V.m, .int .i64 V.next, .slice q.aA V.act.length q.cA, .int .i64 V.own, .slice q.aR V.run.length q.cR, .int .i64 V.pg.lsn, .int .i64 V.pg.kind, .int .i64 V.pg.level, .int .i64 V.pg.right, .string V.pg.high, .slice q.aP V.pg.items.length q.cP] 42) = W := ⟨_, rfl⟩
  rw [hW0] at HB HO ⊢
  clear hW0
  obtain ⟨vc0, vc1, vc2, vc3, vc4, vc5, vc6, vc7, vc8, vc9, vc10, vf0, vf1, vf2, vf3, vf4, vf5, vf6, vf7, vf8, vf9, vf10, vlt⟩ := HB.out
  clear vf0 vf1 vf2 vf3 vf4 vf5 vf6 vf7 vf8 vf9 vf10
  go_wp2_with fail
  refine (C0.out _ (HN.out.more HO.out)).mono ?_
  rintro e w1 ⟨rfl, ho⟩
  clear vc0 vc1 vc2 vc3 vc4 vc5 vc6 vc7 vc8 vc9 vc10 vlt
  have HB := hide (HB.out.more ho)
  have HO := hide (o2 HO.out ho)
  clear ho
  cases b0 with
  | true =>
    obtain ⟨vc0, vc1, vc2, vc3, vc4, vc5, vc6, vc7, vc8, vc9, vc10, vf0, vf1, vf2, vf3, vf4, vf5, vf6, vf7, vf8, vf9, vf10, vlt⟩ := HB.out
    clear vf0 vf1 vf2 vf3 vf4 vf5 vf6 vf7 vf8 vf9 vf10
    go_wp2_with fail
    go_ret
    exact ⟨rfl, HO.out⟩
  | false =>
    obtain ⟨vc0, vc1, vc2, vc3, vc4, vc5, vc6, vc7, vc8, vc9, vc10, vf0, vf1, vf2, vf3, vf4, vf5, vf6, vf7, vf8, vf9, vf10, vlt⟩ := HB.out
    clear vf0 vf1 vf2 vf3 vf4 vf5 vf6 vf7 vf8 vf9 vf10
    go_wp2_with fail
    refine (C1.out _ (HN.out.more HO.out)).mono ?_
    rintro e w2 ⟨rfl, ho⟩
    clear vc0 vc1 vc2 vc3 vc4 vc5 vc6 vc7 vc8 vc9 vc10 vlt
    have HB := hide (HB.out.more ho)
    have HO := hide (o2 HO.out ho)
    clear ho
    cases b1 with
    | true =>
      obtain ⟨vc0, vc1, vc2, vc3, vc4, vc5, vc6, vc7, vc8, vc9, vc10, vf0, vf1, vf2, vf3, vf4, vf5, vf6, vf7, vf8, vf9, vf10, vlt⟩ := HB.out
      clear vf0 vf1 vf2 vf3 vf4 vf5 vf6 vf7 vf8 vf9 vf10
      go_wp2_with fail
      refine (C2.out _ (HN.out.more HO.out)).mono ?_
      rintro e w3 ⟨rfl, ho⟩
      clear vc0 vc1 vc2 vc3 vc4 vc5 vc6 vc7 vc8 vc9 vc10 vlt
      have HB := hide (HB.out.more ho)
      have HO := hide (o2 HO.out ho)
      clear ho
      cases b2 with
      | true =>
        obtain ⟨vc0, vc1, vc2, vc3, vc4, vc5, vc6, vc7, vc8, vc9, vc10, vf0, vf1, vf2, vf3, vf4, vf5, vf6, vf7, vf8, vf9, vf10, vlt⟩ := HB.out
        clear vf0 vf1 vf2 vf3 vf4 vf5 vf6 vf7 vf8 vf9 vf10
        go_wp2_with fail
        go_ret
        exact ⟨rfl, HO.out⟩
      | false =>
        obtain ⟨vc0, vc1, vc2, vc3, vc4, vc5, vc6, vc7, vc8, vc9, vc10, vf0, vf1, vf2, vf3, vf4, vf5, vf6, vf7, vf8, vf9, vf10, vlt⟩ := HB.out
        clear vf0 vf1 vf2 vf3 vf4 vf5 vf6 vf7 vf8 vf9 vf10
        go_wp2_with fail
        go_ret
        exact ⟨rfl, HO.out⟩
    | false =>
      obtain ⟨vc0, vc1, vc2, vc3, vc4, vc5, vc6, vc7, vc8, vc9, vc10, vf0, vf1, vf2, vf3, vf4, vf5, vf6, vf7, vf8, vf9, vf10, vlt⟩ := HB.out
      clear vf0 vf1 vf2 vf3 vf4 vf5 vf6 vf7 vf8 vf9 vf10
      go_wp2_with fail
      go_ret
      exact ⟨rfl, HO.out⟩
set_option maxRecDepth 100000 in
set_option maxHeartbeats 1600000 in
theorem isNews_any (w : World) (V : Vw) (q : Lo) (x : Int) (h : Sn w V q) (hx : I64 x) :
    Calls Tryz.prog 190 #[.agg #[.int .i64 V.m, .int .i64 V.next, .slice q.aA V.act.length q.cA, .int .i64 V.own, .slice q.aR V.run.length q.cR, .int .i64 V.pg.lsn, .int .i64 V.pg.kind, .int .i64 V.pg.level, .int .i64 V.pg.right, .string V.pg.high, .slice q.aP V.pg.items.length q.cP], .int .i64 x] w fun e w' => e = .returned (.bool (vnews V x)) ∧ Only (fun _ => False) w w' := by
  have C0 := hide (fun W (h : Sn W V q) => isCom_any W V q x h hx)
  have C1 := hide (fun W (h : Sn W V q) => sees_any W V q x h hx)
  simp only [vnews]
  obtain ⟨b0, hb0⟩ : ∃ b, vcom V x = b := ⟨_, rfl⟩
  obtain ⟨b1, hb1⟩ : ∃ b, vsees V x = b := ⟨_, rfl⟩
  simp only [hb0, hb1] at C0 C1 ⊢
  clear hb0 hb1
  have HN := hide h
  clear h hx
  have HB := hide (VB.new w (.int .i64 V.m) (.int .i64 V.next) (.slice q.aA V.act.length q.cA) (.int .i64 V.own) (.slice q.aR V.run.length q.cR) (.int .i64 V.pg.lsn) (.int .i64 V.pg.kind) (.int .i64 V.pg.level) (.int .i64 V.pg.right) (.string V.pg.high) (.slice q.aP V.pg.items.length q.cP))
  have HO := hide (onlyA w (.cells #[.int .i64 V.m, .int .i64 V.next, .slice q.aA V.act.length q.cA, .int .i64 V.own, .slice q.aR V.run.length q.cR, .int .i64 V.pg.lsn, .int .i64 V.pg.kind, .int .i64 V.pg.level, .int .i64 V.pg.right, .string V.pg.high, .slice q.aP V.pg.items.length q.cP] 42))
  go_enter Tryz.func190, Tryz.ntmps190
  go_upto_region 1 with fail
  obtain ⟨W0, hW0⟩ : ∃ W, w.alloc (.cells #[.int .i64 V.m, .int .i64 V.next, .slice q.aA V.act.length q.cA, .int .i64 V.own, .slice q.aR V.run.length q.cR, .int .i64 V.pg.lsn, .int .i64 V.pg.kind, .int .i64 V.pg.level, .int .i64 V.pg.right, .string V.pg.high, .slice q.aP V.pg.items.length q.cP] 42) = W := ⟨_, rfl⟩
  rw [hW0] at HB HO ⊢
  clear hW0
  obtain ⟨vc0, vc1, vc2, vc3, vc4, vc5, vc6, vc7, vc8, vc9, vc10, vf0, vf1, vf2, vf3, vf4, vf5, vf6, vf7, vf8, vf9, vf10, vlt⟩ := HB.out
  clear vf0 vf1 vf2 vf3 vf4 vf5 vf6 vf7 vf8 vf9 vf10
  go_wp2_with fail
  refine (C0.out _ (HN.out.more HO.out)).mono ?_
  rintro e w1 ⟨rfl, ho⟩
  clear vc0 vc1 vc2 vc3 vc4 vc5 vc6 vc7 vc8 vc9 vc10 vlt
  have HB := hide (HB.out.more ho)
  have HO := hide (o2 HO.out ho)
  clear ho
  cases b0 with
  | true =>
    obtain ⟨vc0, vc1, vc2, vc3, vc4, vc5, vc6, vc7, vc8, vc9, vc10, vf0, vf1, vf2, vf3, vf4, vf5, vf6, vf7, vf8, vf9, vf10, vlt⟩ := HB.out
    clear vf0 vf1 vf2 vf3 vf4 vf5 vf6 vf7 vf8 vf9 vf10
    go_wp2_with fail
    refine (C1.out _ (HN.out.more HO.out)).mono ?_
    rintro e w2 ⟨rfl, ho⟩
    clear vc0 vc1 vc2 vc3 vc4 vc5 vc6 vc7 vc8 vc9 vc10 vlt
    have HB := hide (HB.out.more ho)
    have HO := hide (o2 HO.out ho)
    clear ho
    cases b1 with
    | true =>
      obtain ⟨vc0, vc1, vc2, vc3, vc4, vc5, vc6, vc7, vc8, vc9, vc10, vf0, vf1, vf2, vf3, vf4, vf5, vf6, vf7, vf8, vf9, vf10, vlt⟩ := HB.out
      clear vf0 vf1 vf2 vf3 vf4 vf5 vf6 vf7 vf8 vf9 vf10
      go_wp2_with fail
      go_ret
      exact ⟨rfl, HO.out⟩
    | false =>
      obtain ⟨vc0, vc1, vc2, vc3, vc4, vc5, vc6, vc7, vc8, vc9, vc10, vf0, vf1, vf2, vf3, vf4, vf5, vf6, vf7, vf8, vf9, vf10, vlt⟩ := HB.out
      clear vf0 vf1 vf2 vf3 vf4 vf5 vf6 vf7 vf8 vf9 vf10
      go_wp2_with fail
      go_ret
      exact ⟨rfl, HO.out⟩
  | false =>
    obtain ⟨vc0, vc1, vc2, vc3, vc4, vc5, vc6, vc7, vc8, vc9, vc10, vf0, vf1, vf2, vf3, vf4, vf5, vf6, vf7, vf8, vf9, vf10, vlt⟩ := HB.out
    clear vf0 vf1 vf2 vf3 vf4 vf5 vf6 vf7 vf8 vf9 vf10
    go_wp2_with fail
    go_ret
    exact ⟨rfl, HO.out⟩
set_option maxRecDepth 100000 in
set_option maxHeartbeats 1600000 in
theorem isEnded_any (w : World) (T : Tp) (_ : I64 T.xmin ∧ I64 T.xmax) :
    Calls Tryz.prog 191 #[.agg #[.int .i64 T.xmin, .int .i64 T.xmax, .bool T.fz, .string T.key, .string T.val]] w fun e w' => e = .returned (.bool (T.xmax != 0)) ∧ Only (fun _ => False) w w' := by
  have HT := hide (TB.new w (.int .i64 T.xmin) (.int .i64 T.xmax) (.bool T.fz) (.string T.key) (.string T.val))
  have HO := hide (onlyA w (.cells #[.int .i64 T.xmin, .int .i64 T.xmax, .bool T.fz, .string T.key, .string T.val] 78))
  by_cases h0 : T.xmax = 0
  ·
    have g1 : (T.xmax != 0) = false := by simp [h0]
    have g3 : (T.xmax == 0) = true := by simp [h0]
    clear h0
    rw [g1]
    go_enter Tryz.func191, Tryz.ntmps191
    go_upto_region 1 with fail
    obtain ⟨W0, hW0⟩ : ∃ W, w.alloc (.cells #[.int .i64 T.xmin, .int .i64 T.xmax, .bool T.fz, .string T.key, .string T.val] 78) = W := ⟨_, rfl⟩
    rw [hW0] at HT HO ⊢
    clear hW0
    obtain ⟨tc0, tc1, tc2, tc3, tc4, tf0, tf1, tf2, tf3, tf4, tlt⟩ := HT.out
    clear tf0 tf1 tf2 tf3 tf4
    go_wp2_with fail
    go_ret
    exact ⟨rfl, HO.out⟩
  ·
    have g1 : (T.xmax != 0) = true := by simp [h0]
    have g3 : (T.xmax == 0) = false := by simp [h0]
    clear h0
    rw [g1]
    go_enter Tryz.func191, Tryz.ntmps191
    go_upto_region 1 with fail
    obtain ⟨W0, hW0⟩ : ∃ W, w.alloc (.cells #[.int .i64 T.xmin, .int .i64 T.xmax, .bool T.fz, .string T.key, .string T.val] 78) = W := ⟨_, rfl⟩
    rw [hW0] at HT HO ⊢
    clear hW0
    obtain ⟨tc0, tc1, tc2, tc3, tc4, tf0, tf1, tf2, tf3, tf4, tlt⟩ := HT.out
    clear tf0 tf1 tf2 tf3 tf4
    go_wp2_with fail
    go_ret
    exact ⟨rfl, HO.out⟩
set_option maxRecDepth 100000 in
set_option maxHeartbeats 1600000 in
theorem seesBeg_any (w : World) (V : Vw) (q : Lo) (T : Tp) (h : Sn w V q) (ht : I64 T.xmin ∧ I64 T.xmax) :
    Calls Tryz.prog 192 #[.agg #[.int .i64 V.m, .int .i64 V.next, .slice q.aA V.act.length q.cA, .int .i64 V.own, .slice q.aR V.run.length q.cR, .int .i64 V.pg.lsn, .int .i64 V.pg.kind, .int .i64 V.pg.level, .int .i64 V.pg.right, .string V.pg.high, .slice q.aP V.pg.items.length q.cP], .agg #[.int .i64 T.xmin, .int .i64 T.xmax, .bool T.fz, .string T.key, .string T.val]] w fun e w' => e = .returned (.bool (vbeg V T)) ∧ Only (fun _ => False) w w' := by
  have C0 := hide (fun W (h : Sn W V q) => sees_any W V q T.xmin h ht.1)
  simp only [vbeg]
  obtain ⟨fz, hfz⟩ : ∃ b, T.fz = b := ⟨_, rfl⟩
  simp only [hfz] at C0 ⊢
  clear hfz
  obtain ⟨b0, hb0⟩ : ∃ b, vsees V T.xmin = b := ⟨_, rfl⟩
  simp only [hb0] at C0 ⊢
  clear hb0
  have HN := hide h
  clear h ht
  have HB := hide ((VB.new w (.int .i64 V.m) (.int .i64 V.next) (.slice q.aA V.act.length q.cA) (.int .i64 V.own) (.slice q.aR V.run.length q.cR) (.int .i64 V.pg.lsn) (.int .i64 V.pg.kind) (.int .i64 V.pg.level) (.int .i64 V.pg.right) (.string V.pg.high) (.slice q.aP V.pg.items.length q.cP)).more (onlyA _ (.cells #[.int .i64 T.xmin, .int .i64 T.xmax, .bool fz, .string T.key, .string T.val] 78)))
  have HT := hide (TB.new (w.alloc (.cells #[.int .i64 V.m, .int .i64 V.next, .slice q.aA V.act.length q.cA, .int .i64 V.own, .slice q.aR V.run.length q.cR, .int .i64 V.pg.lsn, .int .i64 V.pg.kind, .int .i64 V.pg.level, .int .i64 V.pg.right, .string V.pg.high, .slice q.aP V.pg.items.length q.cP] 42)) (.int .i64 T.xmin) (.int .i64 T.xmax) (.bool fz) (.string T.key) (.string T.val))
  have HO := hide (o2 (onlyA w (.cells #[.int .i64 V.m, .int .i64 V.next, .slice q.aA V.act.length q.cA, .int .i64 V.own, .slice q.aR V.run.length q.cR, .int .i64 V.pg.lsn, .int .i64 V.pg.kind, .int .i64 V.pg.level, .int .i64 V.pg.right, .string V.pg.high, .slice q.aP V.pg.items.length q.cP] 42)) (onlyA _ (.cells #[.int .i64 T.xmin, .int .i64 T.xmax, .bool fz, .string T.key, .string T.val] 78)))
  simp only [World.size_alloc] at HT
  cases fz with
  | true =>
    go_enter Tryz.func192, Tryz.ntmps192
    go_upto_region 1 with fail
    obtain ⟨W0, hW0⟩ : ∃ W, (w.alloc (.cells #[.int .i64 V.m, .int .i64 V.next, .slice q.aA V.act.length q.cA, .int .i64 V.own, .slice q.aR V.run.length q.cR, .int .i64 V.pg.lsn, .int .i64 V.pg.kind, .int .i64 V.pg.level, .int .i64 V.pg.right, .string V.pg.high, .slice q.aP V.pg.items.length q.cP] 42)).alloc (.cells #[.int .i64 T.xmin, .int .i64 T.xmax, .bool true, .string T.key, .string T.val] 78) = W := ⟨_, rfl⟩
    rw [hW0] at HB HT HO ⊢
    clear hW0
    obtain ⟨vc0, vc1, vc2, vc3, vc4, vc5, vc6, vc7, vc8, vc9, vc10, vf0, vf1, vf2, vf3, vf4, vf5, vf6, vf7, vf8, vf9, vf10, vlt⟩ := HB.out
    clear vf0 vf1 vf2 vf3 vf4 vf5 vf6 vf7 vf8 vf9 vf10
    obtain ⟨tc0, tc1, tc2, tc3, tc4, tf0, tf1, tf2, tf3, tf4, tlt⟩ := HT.out
    clear tf0 tf1 tf2 tf3 tf4
    go_wp2_with fail
    go_ret
    exact ⟨rfl, HO.out⟩
  | false =>
    go_enter Tryz.func192, Tryz.ntmps192
    go_upto_region 1 with fail
    obtain ⟨W0, hW0⟩ : ∃ W, (w.alloc (.cells #[.int .i64 V.m, .int .i64 V.next, .slice q.aA V.act.length q.cA, .int .i64 V.own, .slice q.aR V.run.length q.cR, .int .i64 V.pg.lsn, .int .i64 V.pg.kind, .int .i64 V.pg.level, .int .i64 V.pg.right, .string V.pg.high, .slice q.aP V.pg.items.length q.cP] 42)).alloc (.cells #[.int .i64 T.xmin, .int .i64 T.xmax, .bool false, .string T.key, .string T.val] 78) = W := ⟨_, rfl⟩
    rw [hW0] at HB HT HO ⊢
    clear hW0
    obtain ⟨vc0, vc1, vc2, vc3, vc4, vc5, vc6, vc7, vc8, vc9, vc10, vf0, vf1, vf2, vf3, vf4, vf5, vf6, vf7, vf8, vf9, vf10, vlt⟩ := HB.out
    clear vf0 vf1 vf2 vf3 vf4 vf5 vf6 vf7 vf8 vf9 vf10
    obtain ⟨tc0, tc1, tc2, tc3, tc4, tf0, tf1, tf2, tf3, tf4, tlt⟩ := HT.out
    clear tf0 tf1 tf2 tf3 tf4
    go_wp2_with fail
    refine (C0.out _ (HN.out.more HO.out)).mono ?_
    rintro e w1 ⟨rfl, ho⟩
    clear vc0 vc1 vc2 vc3 vc4 vc5 vc6 vc7 vc8 vc9 vc10 vlt tc0 tc1 tc2 tc3 tc4 tlt
    have HB := hide (HB.out.more ho)
    have HT := hide (HT.out.more ho)
    have HO := hide (o2 HO.out ho)
    clear ho
    cases b0 with
    | true =>
      obtain ⟨vc0, vc1, vc2, vc3, vc4, vc5, vc6, vc7, vc8, vc9, vc10, vf0, vf1, vf2, vf3, vf4, vf5, vf6, vf7, vf8, vf9, vf10, vlt⟩ := HB.out
      clear vf0 vf1 vf2 vf3 vf4 vf5 vf6 vf7 vf8 vf9 vf10
      obtain ⟨tc0, tc1, tc2, tc3, tc4, tf0, tf1, tf2, tf3, tf4, tlt⟩ := HT.out
      clear tf0 tf1 tf2 tf3 tf4
      go_wp2_with fail
      go_ret
      exact ⟨rfl, HO.out⟩
    | false =>
      obtain ⟨vc0, vc1, vc2, vc3, vc4, vc5, vc6, vc7, vc8, vc9, vc10, vf0, vf1, vf2, vf3, vf4, vf5, vf6, vf7, vf8, vf9, vf10, vlt⟩ := HB.out
      clear vf0 vf1 vf2 vf3 vf4 vf5 vf6 vf7 vf8 vf9 vf10
      obtain ⟨tc0, tc1, tc2, tc3, tc4, tf0, tf1, tf2, tf3, tf4, tlt⟩ := HT.out
      clear tf0 tf1 tf2 tf3 tf4
      go_wp2_with fail
      go_ret
      exact ⟨rfl, HO.out⟩
set_option maxRecDepth 100000 in
set_option maxHeartbeats 1600000 in
theorem seesEnd_any (w : World) (V : Vw) (q : Lo) (T : Tp) (h : Sn w V q) (ht : I64 T.xmin ∧ I64 T.xmax) :
    Calls Tryz.prog 193 #[.agg #[.int .i64 V.m, .int .i64 V.next, .slice q.aA V.act.length q.cA, .int .i64 V.own, .slice q.aR V.run.length q.cR, .int .i64 V.pg.lsn, .int .i64 V.pg.kind, .int .i64 V.pg.level, .int .i64 V.pg.right, .string V.pg.high, .slice q.aP V.pg.items.length q.cP], .agg #[.int .i64 T.xmin, .int .i64 T.xmax, .bool T.fz, .string T.key, .string T.val]] w fun e w' => e = .returned (.bool (vend V T)) ∧ Only (fun _ => False) w w' := by
  have C0 := hide (fun W (h : Sn W V q) => isEnded_any W T ht)
  have C1 := hide (fun W (h : Sn W V q) => sees_any W V q T.xmax h ht.2)
  simp only [vend]
  obtain ⟨b0, hb0⟩ : ∃ b, (T.xmax != 0) = b := ⟨_, rfl⟩
  obtain ⟨b1, hb1⟩ : ∃ b, vsees V T.xmax = b := ⟨_, rfl⟩
  simp only [hb0, hb1] at C0 C1 ⊢
  clear hb0 hb1
  have HN := hide h
  clear h ht
  have HB := hide ((VB.new w (.int .i64 V.m) (.int .i64 V.next) (.slice q.aA V.act.length q.cA) (.int .i64 V.own) (.slice q.aR V.run.length q.cR) (.int .i64 V.pg.lsn) (.int .i64 V.pg.kind) (.int .i64 V.pg.level) (.int .i64 V.pg.right) (.string V.pg.high) (.slice q.aP V.pg.items.length q.cP)).more (onlyA _ (.cells #[.int .i64 T.xmin, .int .i64 T.xmax, .bool T.fz, .string T.key, .string T.val] 78)))
  have HT := hide (TB.new (w.alloc (.cells #[.int .i64 V.m, .int .i64 V.next, .slice q.aA V.act.length q.cA, .int .i64 V.own, .slice q.aR V.run.length q.cR, .int .i64 V.pg.lsn, .int .i64 V.pg.kind, .int .i64 V.pg.level, .int .i64 V.pg.right, .string V.pg.high, .slice q.aP V.pg.items.length q.cP] 42)) (.int .i64 T.xmin) (.int .i64 T.xmax) (.bool T.fz) (.string T.key) (.string T.val))
  have HO := hide (o2 (onlyA w (.cells #[.int .i64 V.m, .int .i64 V.next, .slice q.aA V.act.length q.cA, .int .i64 V.own, .slice q.aR V.run.length q.cR, .int .i64 V.pg.lsn, .int .i64 V.pg.kind, .int .i64 V.pg.level, .int .i64 V.pg.right, .string V.pg.high, .slice q.aP V.pg.items.length q.cP] 42)) (onlyA _ (.cells #[.int .i64 T.xmin, .int .i64 T.xmax, .bool T.fz, .string T.key, .string T.val] 78)))
  simp only [World.size_alloc] at HT
  go_enter Tryz.func193, Tryz.ntmps193
  go_upto_region 1 with fail
  obtain ⟨W0, hW0⟩ : ∃ W, (w.alloc (.cells #[.int .i64 V.m, .int .i64 V.next, .slice q.aA V.act.length q.cA, .int .i64 V.own, .slice q.aR V.run.length q.cR, .int .i64 V.pg.lsn, .int .i64 V.pg.kind, .int .i64 V.pg.level, .int .i64 V.pg.right, .string V.pg.high, .slice q.aP V.pg.items.length q.cP] 42)).alloc (.cells #[.int .i64 T.xmin, .int .i64 T.xmax, .bool T.fz, .string T.key, .string T.val] 78) = W := ⟨_, rfl⟩
  rw [hW0] at HB HT HO ⊢
  clear hW0
  obtain ⟨vc0, vc1, vc2, vc3, vc4, vc5, vc6, vc7, vc8, vc9, vc10, vf0, vf1, vf2, vf3, vf4, vf5, vf6, vf7, vf8, vf9, vf10, vlt⟩ := HB.out
  clear vf0 vf1 vf2 vf3 vf4 vf5 vf6 vf7 vf8 vf9 vf10
  obtain ⟨tc0, tc1, tc2, tc3, tc4, tf0, tf1, tf2, tf3, tf4, tlt⟩ := HT.out
  clear tf0 tf1 tf2 tf3 tf4
  go_wp2_with fail
  refine (C0.out _ (HN.out.more HO.out)).mono ?_
  rintro e w1 ⟨rfl, ho⟩
  clear vc0 vc1 vc2 vc3 vc4 vc5 vc6 vc7 vc8 vc9 vc10 vlt tc0 tc1 tc2 tc3 tc4 tlt
  have HB := hide (HB.out.more ho)
  have HT := hide (HT.out.more ho)
  have HO := hide (o2 HO.out ho)
  clear ho
  cases b0 with
  | true =>
    obtain ⟨vc0, vc1, vc2, vc3, vc4, vc5, vc6, vc7, vc8, vc9, vc10, vf0, vf1, vf2, vf3, vf4, vf5, vf6, vf7, vf8, vf9, vf10, vlt⟩ := HB.out
    clear vf0 vf1 vf2 vf3 vf4 vf5 vf6 vf7 vf8 vf9 vf10
    obtain ⟨tc0, tc1, tc2, tc3, tc4, tf0, tf1, tf2, tf3, tf4, tlt⟩ := HT.out
    clear tf0 tf1 tf2 tf3 tf4
    go_wp2_with fail
    refine (C1.out _ (HN.out.more HO.out)).mono ?_
    rintro e w2 ⟨rfl, ho⟩
    clear vc0 vc1 vc2 vc3 vc4 vc5 vc6 vc7 vc8 vc9 vc10 vlt tc0 tc1 tc2 tc3 tc4 tlt
    have HB := hide (HB.out.more ho)
    have HT := hide (HT.out.more ho)
    have HO := hide (o2 HO.out ho)
    clear ho
    cases b1 with
    | true =>
      obtain ⟨vc0, vc1, vc2, vc3, vc4, vc5, vc6, vc7, vc8, vc9, vc10, vf0, vf1, vf2, vf3, vf4, vf5, vf6, vf7, vf8, vf9, vf10, vlt⟩ := HB.out
      clear vf0 vf1 vf2 vf3 vf4 vf5 vf6 vf7 vf8 vf9 vf10
      obtain ⟨tc0, tc1, tc2, tc3, tc4, tf0, tf1, tf2, tf3, tf4, tlt⟩ := HT.out
      clear tf0 tf1 tf2 tf3 tf4
      go_wp2_with fail
      go_ret
      exact ⟨rfl, HO.out⟩
    | false =>
      obtain ⟨vc0, vc1, vc2, vc3, vc4, vc5, vc6, vc7, vc8, vc9, vc10, vf0, vf1, vf2, vf3, vf4, vf5, vf6, vf7, vf8, vf9, vf10, vlt⟩ := HB.out
      clear vf0 vf1 vf2 vf3 vf4 vf5 vf6 vf7 vf8 vf9 vf10
      obtain ⟨tc0, tc1, tc2, tc3, tc4, tf0, tf1, tf2, tf3, tf4, tlt⟩ := HT.out
      clear tf0 tf1 tf2 tf3 tf4
      go_wp2_with fail
      go_ret
      exact ⟨rfl, HO.out⟩
  | false =>
    obtain ⟨vc0, vc1, vc2, vc3, vc4, vc5, vc6, vc7, vc8, vc9, vc10, vf0, vf1, vf2, vf3, vf4, vf5, vf6, vf7, vf8, vf9, vf10, vlt⟩ := HB.out
    clear vf0 vf1 vf2 vf3 vf4 vf5 vf6 vf7 vf8 vf9 vf10
    obtain ⟨tc0, tc1, tc2, tc3, tc4, tf0, tf1, tf2, tf3, tf4, tlt⟩ := HT.out
    clear tf0 tf1 tf2 tf3 tf4
    go_wp2_with fail
    go_ret
    exact ⟨rfl, HO.out⟩
set_option maxRecDepth 100000 in
set_option maxHeartbeats 1600000 in
theorem visible_any (w : World) (V : Vw) (q : Lo) (T : Tp) (h : Sn w V q) (ht : I64 T.xmin ∧ I64 T.xmax) :
    Calls Tryz.prog 181 #[.agg #[.int .i64 V.m, .int .i64 V.next, .slice q.aA V.act.length q.cA, .int .i64 V.own, .slice q.aR V.run.length q.cR, .int .i64 V.pg.lsn, .int .i64 V.pg.kind, .int .i64 V.pg.level, .int .i64 V.pg.right, .string V.pg.high, .slice q.aP V.pg.items.length q.cP], .agg #[.int .i64 T.xmin, .int .i64 T.xmax, .bool T.fz, .string T.key, .string T.val]] w fun e w' => e = .returned (.bool (vvis V T)) ∧ Only (fun _ => False) w w' := by
  have C0 := hide (fun W (h : Sn W V q) => seesBeg_any W V q T h ht)
  have C1 := hide (fun W (h : Sn W V q) => seesEnd_any W V q T h ht)
  simp only [vvis]
  obtain ⟨b0, hb0⟩ : ∃ b, vbeg V T = b := ⟨_, rfl⟩
  obtain ⟨b1, hb1⟩ : ∃ b, vend V T = b := ⟨_, rfl⟩
  simp only [hb0, hb1] at C0 C1 ⊢
  clear hb0 hb1
  have HN := hide h
  clear h ht
  have HB := hide ((VB.new w (.int .i64 V.m) (.int .i64 V.next) (.slice q.aA V.act.length q.cA) (.int .i64 V.own) (.slice q.aR V.run.length q.cR) (.int .i64 V.pg.lsn) (.int .i64 V.pg.kind) (.int .i64 V.pg.level) (.int .i64 V.pg.right) (.string V.pg.high) (.slice q.aP V.pg.items.length q.cP)).more (onlyA _ (.cells #[.int .i64 T.xmin, .int .i64 T.xmax, .bool T.fz, .string T.key, .string T.val] 78)))
  have HT := hide (TB.new (w.alloc (.cells #[.int .i64 V.m, .int .i64 V.next, .slice q.aA V.act.length q.cA, .int .i64 V.own, .slice q.aR V.run.length q.cR, .int .i64 V.pg.lsn, .int .i64 V.pg.kind, .int .i64 V.pg.level, .int .i64 V.pg.right, .string V.pg.high, .slice q.aP V.pg.items.length q.cP] 42)) (.int .i64 T.xmin) (.int .i64 T.xmax) (.bool T.fz) (.string T.key) (.string T.val))
  have HO := hide (o2 (onlyA w (.cells #[.int .i64 V.m, .int .i64 V.next, .slice q.aA V.act.length q.cA, .int .i64 V.own, .slice q.aR V.run.length q.cR, .int .i64 V.pg.lsn, .int .i64 V.pg.kind, .int .i64 V.pg.level, .int .i64 V.pg.right, .string V.pg.high, .slice q.aP V.pg.items.length q.cP] 42)) (onlyA _ (.cells #[.int .i64 T.xmin, .int .i64 T.xmax, .bool T.fz, .string T.key, .string T.val] 78)))
  simp only [World.size_alloc] at HT
  go_enter Tryz.func181, Tryz.ntmps181
  go_upto_region 1 with fail
  obtain ⟨W0, hW0⟩ : ∃ W, (w.alloc (.cells #[.int .i64 V.m, .int .i64 V.next, .slice q.aA V.act.length q.cA, .int .i64 V.own, .slice q.aR V.run.length q.cR, .int .i64 V.pg.lsn, .int .i64 V.pg.kind, .int .i64 V.pg.level, .int .i64 V.pg.right, .string V.pg.high, .slice q.aP V.pg.items.length q.cP] 42)).alloc (.cells #[.int .i64 T.xmin, .int .i64 T.xmax, .bool T.fz, .string T.key, .string T.val] 78) = W := ⟨_, rfl⟩
  rw [hW0] at HB HT HO ⊢
  clear hW0
  obtain ⟨vc0, vc1, vc2, vc3, vc4, vc5, vc6, vc7, vc8, vc9, vc10, vf0, vf1, vf2, vf3, vf4, vf5, vf6, vf7, vf8, vf9, vf10, vlt⟩ := HB.out
  clear vf0 vf1 vf2 vf3 vf4 vf5 vf6 vf7 vf8 vf9 vf10
  obtain ⟨tc0, tc1, tc2, tc3, tc4, tf0, tf1, tf2, tf3, tf4, tlt⟩ := HT.out
  clear tf0 tf1 tf2 tf3 tf4
  go_wp2_with fail
  refine (C0.out _ (HN.out.more HO.out)).mono ?_
  rintro e w1 ⟨rfl, ho⟩
  clear vc0 vc1 vc2 vc3 vc4 vc5 vc6 vc7 vc8 vc9 vc10 vlt tc0 tc1 tc2 tc3 tc4 tlt
  have HB := hide (HB.out.more ho)
  have HT := hide (HT.out.more ho)
  have HO := hide (o2 HO.out ho)
  clear ho
  cases b0 with
  | true =>
    obtain ⟨vc0, vc1, vc2, vc3, vc4, vc5, vc6, vc7, vc8, vc9, vc10, vf0, vf1, vf2, vf3, vf4, vf5, vf6, vf7, vf8, vf9, vf10, vlt⟩ := HB.out
    clear vf0 vf1 vf2 vf3 vf4 vf5 vf6 vf7 vf8 vf9 vf10
    obtain ⟨tc0, tc1, tc2, tc3, tc4, tf0, tf1, tf2, tf3, tf4, tlt⟩ := HT.out
    clear tf0 tf1 tf2 tf3 tf4
    go_wp2_with fail
    refine (C1.out _ (HN.out.more HO.out)).mono ?_
    rintro e w2 ⟨rfl, ho⟩
    clear vc0 vc1 vc2 vc3 vc4 vc5 vc6 vc7 vc8 vc9 vc10 vlt tc0 tc1 tc2 tc3 tc4 tlt
    have HB := hide (HB.out.more ho)
    have HT := hide (HT.out.more ho)
    have HO := hide (o2 HO.out ho)
    clear ho
    cases b1 with
    | true =>
      obtain ⟨vc0, vc1, vc2, vc3, vc4, vc5, vc6, vc7, vc8, vc9, vc10, vf0, vf1, vf2, vf3, vf4, vf5, vf6, vf7, vf8, vf9, vf10, vlt⟩ := HB.out
      clear vf0 vf1 vf2 vf3 vf4 vf5 vf6 vf7 vf8 vf9 vf10
      obtain ⟨tc0, tc1, tc2, tc3, tc4, tf0, tf1, tf2, tf3, tf4, tlt⟩ := HT.out
      clear tf0 tf1 tf2 tf3 tf4
      go_wp2_with fail
      go_ret
      exact ⟨rfl, HO.out⟩
    | false =>
      obtain ⟨vc0, vc1, vc2, vc3, vc4, vc5, vc6, vc7, vc8, vc9, vc10, vf0, vf1, vf2, vf3, vf4, vf5, vf6, vf7, vf8, vf9, vf10, vlt⟩ := HB.out
      clear vf0 vf1 vf2 vf3 vf4 vf5 vf6 vf7 vf8 vf9 vf10
      obtain ⟨tc0, tc1, tc2, tc3, tc4, tf0, tf1, tf2, tf3, tf4, tlt⟩ := HT.out
      clear tf0 tf1 tf2 tf3 tf4
      go_wp2_with fail
      go_ret
      exact ⟨rfl, HO.out⟩
  | false =>
    obtain ⟨vc0, vc1, vc2, vc3, vc4, vc5, vc6, vc7, vc8, vc9, vc10, vf0, vf1, vf2, vf3, vf4, vf5, vf6, vf7, vf8, vf9, vf10, vlt⟩ := HB.out
    clear vf0 vf1 vf2 vf3 vf4 vf5 vf6 vf7 vf8 vf9 vf10
    obtain ⟨tc0, tc1, tc2, tc3, tc4, tf0, tf1, tf2, tf3, tf4, tlt⟩ := HT.out
    clear tf0 tf1 tf2 tf3 tf4
    go_wp2_with fail
    go_ret
    exact ⟨rfl, HO.out⟩
set_option maxRecDepth 100000 in
set_option maxHeartbeats 1600000 in
theorem newer_any (w : World) (V : Vw) (q : Lo) (T : Tp) (h : Sn w V q) (ht : I64 T.xmin ∧ I64 T.xmax) :
    Calls Tryz.prog 180 #[.agg #[.int .i64 V.m, .int .i64 V.next, .slice q.aA V.act.length q.cA, .int .i64 V.own, .slice q.aR V.run.length q.cR, .int .i64 V.pg.lsn, .int .i64 V.pg.kind, .int .i64 V.pg.level, .int .i64 V.pg.right, .string V.pg.high, .slice q.aP V.pg.items.length q.cP], .agg #[.int .i64 T.xmin, .int .i64 T.xmax, .bool T.fz, .string T.key, .string T.val]] w fun e w' => e = .returned (.bool (vnewer V T)) ∧ Only (fun _ => False) w w' := by
  have C0 := hide (fun W (h : Sn W V q) => isNews_any W V q T.xmin h ht.1)
  have C1 := hide (fun W (h : Sn W V q) => isEnded_any W T ht)
  have C2 := hide (fun W (h : Sn W V q) => isNews_any W V q T.xmax h ht.2)
  simp only [vnewer]
  obtain ⟨fz, hfz⟩ : ∃ b, T.fz = b := ⟨_, rfl⟩
  simp only [hfz] at C0 C1 C2 ⊢
  clear hfz
  obtain ⟨b0, hb0⟩ : ∃ b, vnews V T.xmin = b := ⟨_, rfl⟩
  obtain ⟨b1, hb1⟩ : ∃ b, (T.xmax != 0) = b := ⟨_, rfl⟩
  obtain ⟨b2, hb2⟩ : ∃ b, vnews V T.xmax = b := ⟨_, rfl⟩
  simp only [hb0, hb1, hb2] at C0 C1 C2 ⊢
  clear hb0 hb1 hb2
  have HN := hide h
  clear h ht
  have HB := hide ((VB.new w (.int .i64 V.m) (.int .i64 V.next) (.slice q.aA V.act.length q.cA) (.int .i64 V.own) (.slice q.aR V.run.length q.cR) (.int .i64 V.pg.lsn) (.int .i64 V.pg.kind) (.int .i64 V.pg.level) (.int .i64 V.pg.right) (.string V.pg.high) (.slice q.aP V.pg.items.length q.cP)).more (onlyA _ (.cells #[.int .i64 T.xmin, .int .i64 T.xmax, .bool fz, .string T.key, .string T.val] 78)))
  have HT := hide (TB.new (w.alloc (.cells #[.int .i64 V.m, .int .i64 V.next, .slice q.aA V.act.length q.cA, .int .i64 V.own, .slice q.aR V.run.length q.cR, .int .i64 V.pg.lsn, .int .i64 V.pg.kind, .int .i64 V.pg.level, .int .i64 V.pg.right, .string V.pg.high, .slice q.aP V.pg.items.length q.cP] 42)) (.int .i64 T.xmin) (.int .i64 T.xmax) (.bool fz) (.string T.key) (.string T.val))
  have HO := hide (o2 (onlyA w (.cells #[.int .i64 V.m, .int .i64 V.next, .slice q.aA V.act.length q.cA, .int .i64 V.own, .slice q.aR V.run.length q.cR, .int .i64 V.pg.lsn, .int .i64 V.pg.kind, .int .i64 V.pg.level, .int .i64 V.pg.right, .string V.pg.high, .slice q.aP V.pg.items.length q.cP] 42)) (onlyA _ (.cells #[.int .i64 T.xmin, .int .i64 T.xmax, .bool fz, .string T.key, .string T.val] 78)))
  simp only [World.size_alloc] at HT
  cases fz with
  | true =>
    go_enter Tryz.func180, Tryz.ntmps180
    go_upto_region 1 with fail
    obtain ⟨W0, hW0⟩ : ∃ W, (w.alloc (.cells #[.int .i64 V.m, .int .i64 V.next, .slice q.aA V.act.length q.cA, .int .i64 V.own, .slice q.aR V.run.length q.cR, .int .i64 V.pg.lsn, .int .i64 V.pg.kind, .int .i64 V.pg.level, .int .i64 V.pg.right, .string V.pg.high, .slice q.aP V.pg.items.length q.cP] 42)).alloc (.cells #[.int .i64 T.xmin, .int .i64 T.xmax, .bool true, .string T.key, .string T.val] 78) = W := ⟨_, rfl⟩
    rw [hW0] at HB HT HO ⊢
    clear hW0
    obtain ⟨vc0, vc1, vc2, vc3, vc4, vc5, vc6, vc7, vc8, vc9, vc10, vf0, vf1, vf2, vf3, vf4, vf5, vf6, vf7, vf8, vf9, vf10, vlt⟩ := HB.out
    clear vf0 vf1 vf2 vf3 vf4 vf5 vf6 vf7 vf8 vf9 vf10
    obtain ⟨tc0, tc1, tc2, tc3, tc4, tf0, tf1, tf2, tf3, tf4, tlt⟩ := HT.out
    clear tf0 tf1 tf2 tf3 tf4
    go_wp2_with fail
    refine (C1.out _ (HN.out.more HO.out)).mono ?_
    rintro e w1 ⟨rfl, ho⟩
    clear vc0 vc1 vc2 vc3 vc4 vc5 vc6 vc7 vc8 vc9 vc10 vlt tc0 tc1 tc2 tc3 tc4 tlt
    have HB := hide (HB.out.more ho)
    have HT := hide (HT.out.more ho)
    have HO := hide (o2 HO.out ho)
    clear ho
    cases b1 with
    | true =>
      obtain ⟨vc0, vc1, vc2, vc3, vc4, vc5, vc6, vc7, vc8, vc9, vc10, vf0, vf1, vf2, vf3, vf4, vf5, vf6, vf7, vf8, vf9, vf10, vlt⟩ := HB.out
      clear vf0 vf1 vf2 vf3 vf4 vf5 vf6 vf7 vf8 vf9 vf10
      obtain ⟨tc0, tc1, tc2, tc3, tc4, tf0, tf1, tf2, tf3, tf4, tlt⟩ := HT.out
      clear tf0 tf1 tf2 tf3 tf4
      go_wp2_with fail
      refine (C2.out _ (HN.out.more HO.out)).mono ?_
      rintro e w2 ⟨rfl, ho⟩
      clear vc0 vc1 vc2 vc3 vc4 vc5 vc6 vc7 vc8 vc9 vc10 vlt tc0 tc1 tc2 tc3 tc4 tlt
      have HB := hide (HB.out.more ho)
      have HT := hide (HT.out.more ho)
      have HO := hide (o2 HO.out ho)
      clear ho
      cases b2 with
      | true =>
        obtain ⟨vc0, vc1, vc2, vc3, vc4, vc5, vc6, vc7, vc8, vc9, vc10, vf0, vf1, vf2, vf3, vf4, vf5, vf6, vf7, vf8, vf9, vf10, vlt⟩ := HB.out
        clear vf0 vf1 vf2 vf3 vf4 vf5 vf6 vf7 vf8 vf9 vf10
        obtain ⟨tc0, tc1, tc2, tc3, tc4, tf0, tf1, tf2, tf3, tf4, tlt⟩ := HT.out
        clear tf0 tf1 tf2 tf3 tf4
        go_wp2_with fail
        go_ret
        exact ⟨rfl, HO.out⟩
      | false =>
        obtain ⟨vc0, vc1, vc2, vc3, vc4, vc5, vc6, vc7, vc8, vc9, vc10, vf0, vf1, vf2, vf3, vf4, vf5, vf6, vf7, vf8, vf9, vf10, vlt⟩ := HB.out
        clear vf0 vf1 vf2 vf3 vf4 vf5 vf6 vf7 vf8 vf9 vf10
        obtain ⟨tc0, tc1, tc2, tc3, tc4, tf0, tf1, tf2, tf3, tf4, tlt⟩ := HT.out
        clear tf0 tf1 tf2 tf3 tf4
        go_wp2_with fail
        go_ret
        exact ⟨rfl, HO.out⟩
    | false =>
      obtain ⟨vc0, vc1, vc2, vc3, vc4, vc5, vc6, vc7, vc8, vc9, vc10, vf0, vf1, vf2, vf3, vf4, vf5, vf6, vf7, vf8, vf9, vf10, vlt⟩ := HB.out
      clear vf0 vf1 vf2 vf3 vf4 vf5 vf6 vf7 vf8 vf9 vf10
      obtain ⟨tc0, tc1, tc2, tc3, tc4, tf0, tf1, tf2, tf3, tf4, tlt⟩ := HT.out
      clear tf0 tf1 tf2 tf3 tf4
      go_wp2_with fail
      go_ret
      exact ⟨rfl, HO.out⟩
  | false =>
    go_enter Tryz.func180, Tryz.ntmps180
    go_upto_region 1 with fail
    obtain ⟨W0, hW0⟩ : ∃ W, (w.alloc (.cells #[.int .i64 V.m, .int .i64 V.next, .slice q.aA V.act.length q.cA, .int .i64 V.own, .slice q.aR V.run.length q.cR, .int .i64 V.pg.lsn, .int .i64 V.pg.kind, .int .i64 V.pg.level, .int .i64 V.pg.right, .string V.pg.high, .slice q.aP V.pg.items.length q.cP] 42)).alloc (.cells #[.int .i64 T.xmin, .int .i64 T.xmax, .bool false, .string T.key, .string T.val] 78) = W := ⟨_, rfl⟩
    rw [hW0] at HB HT HO ⊢
    clear hW0
    obtain ⟨vc0, vc1, vc2, vc3, vc4, vc5, vc6, vc7, vc8, vc9, vc10, vf0, vf1, vf2, vf3, vf4, vf5, vf6, vf7, vf8, vf9, vf10, vlt⟩ := HB.out
    clear vf0 vf1 vf2 vf3 vf4 vf5 vf6 vf7 vf8 vf9 vf10
    obtain ⟨tc0, tc1, tc2, tc3, tc4, tf0, tf1, tf2, tf3, tf4, tlt⟩ := HT.out
    clear tf0 tf1 tf2 tf3 tf4
    go_wp2_with fail
    refine (C0.out _ (HN.out.more HO.out)).mono ?_
    rintro e w3 ⟨rfl, ho⟩
    clear vc0 vc1 vc2 vc3 vc4 vc5 vc6 vc7 vc8 vc9 vc10 vlt tc0 tc1 tc2 tc3 tc4 tlt
    have HB := hide (HB.out.more ho)
    have HT := hide (HT.out.more ho)
    have HO := hide (o2 HO.out ho)
    clear ho
    cases b0 with
    | true =>
      obtain ⟨vc0, vc1, vc2, vc3, vc4, vc5, vc6, vc7, vc8, vc9, vc10, vf0, vf1, vf2, vf3, vf4, vf5, vf6, vf7, vf8, vf9, vf10, vlt⟩ := HB.out
      clear vf0 vf1 vf2 vf3 vf4 vf5 vf6 vf7 vf8 vf9 vf10
      obtain ⟨tc0, tc1, tc2, tc3, tc4, tf0, tf1, tf2, tf3, tf4, tlt⟩ := HT.out
      clear tf0 tf1 tf2 tf3 tf4
      go_wp2_with fail
      go_ret
      exact ⟨rfl, HO.out⟩
    | false =>
      obtain ⟨vc0, vc1, vc2, vc3, vc4, vc5, vc6, vc7, vc8, vc9, vc10, vf0, vf1, vf2, vf3, vf4, vf5, vf6, vf7, vf8, vf9, vf10, vlt⟩ := HB.out
      clear vf0 vf1 vf2 vf3 vf4 vf5 vf6 vf7 vf8 vf9 vf10
      obtain ⟨tc0, tc1, tc2, tc3, tc4, tf0, tf1, tf2, tf3, tf4, tlt⟩ := HT.out
      clear tf0 tf1 tf2 tf3 tf4
      go_wp2_with fail
      refine (C1.out _ (HN.out.more HO.out)).mono ?_
      rintro e w4 ⟨rfl, ho⟩
      clear vc0 vc1 vc2 vc3 vc4 vc5 vc6 vc7 vc8 vc9 vc10 vlt tc0 tc1 tc2 tc3 tc4 tlt
      have HB := hide (HB.out.more ho)
      have HT := hide (HT.out.more ho)
      have HO := hide (o2 HO.out ho)
      clear ho
      cases b1 with
      | true =>
        obtain ⟨vc0, vc1, vc2, vc3, vc4, vc5, vc6, vc7, vc8, vc9, vc10, vf0, vf1, vf2, vf3, vf4, vf5, vf6, vf7, vf8, vf9, vf10, vlt⟩ := HB.out
        clear vf0 vf1 vf2 vf3 vf4 vf5 vf6 vf7 vf8 vf9 vf10
        obtain ⟨tc0, tc1, tc2, tc3, tc4, tf0, tf1, tf2, tf3, tf4, tlt⟩ := HT.out
        clear tf0 tf1 tf2 tf3 tf4
        go_wp2_with fail
        refine (C2.out _ (HN.out.more HO.out)).mono ?_
        rintro e w5 ⟨rfl, ho⟩
        clear vc0 vc1 vc2 vc3 vc4 vc5 vc6 vc7 vc8 vc9 vc10 vlt tc0 tc1 tc2 tc3 tc4 tlt
        have HB := hide (HB.out.more ho)
        have HT := hide (HT.out.more ho)
        have HO := hide (o2 HO.out ho)
        clear ho
        cases b2 with
        | true =>
          obtain ⟨vc0, vc1, vc2, vc3, vc4, vc5, vc6, vc7, vc8, vc9, vc10, vf0, vf1, vf2, vf3, vf4, vf5, vf6, vf7, vf8, vf9, vf10, vlt⟩ := HB.out
          clear vf0 vf1 vf2 vf3 vf4 vf5 vf6 vf7 vf8 vf9 vf10
          obtain ⟨tc0, tc1, tc2, tc3, tc4, tf0, tf1, tf2, tf3, tf4, tlt⟩ := HT.out
          clear tf0 tf1 tf2 tf3 tf4
          go_wp2_with fail
          go_ret
          exact ⟨rfl, HO.out⟩
        | false =>
          obtain ⟨vc0, vc1, vc2, vc3, vc4, vc5, vc6, vc7, vc8, vc9, vc10, vf0, vf1, vf2, vf3, vf4, vf5, vf6, vf7, vf8, vf9, vf10, vlt⟩ := HB.out
          clear vf0 vf1 vf2 vf3 vf4 vf5 vf6 vf7 vf8 vf9 vf10
          obtain ⟨tc0, tc1, tc2, tc3, tc4, tf0, tf1, tf2, tf3, tf4, tlt⟩ := HT.out
          clear tf0 tf1 tf2 tf3 tf4
          go_wp2_with fail
          go_ret
          exact ⟨rfl, HO.out⟩
      | false =>
        obtain ⟨vc0, vc1, vc2, vc3, vc4, vc5, vc6, vc7, vc8, vc9, vc10, vf0, vf1, vf2, vf3, vf4, vf5, vf6, vf7, vf8, vf9, vf10, vlt⟩ := HB.out
        clear vf0 vf1 vf2 vf3 vf4 vf5 vf6 vf7 vf8 vf9 vf10
        obtain ⟨tc0, tc1, tc2, tc3, tc4, tf0, tf1, tf2, tf3, tf4, tlt⟩ := HT.out
        clear tf0 tf1 tf2 tf3 tf4
        go_wp2_with fail
        go_ret
        exact ⟨rfl, HO.out⟩
/-- The variables of Mark: the page, and what is answered. -/
structure Mst (w W : World) (a k v r : Int) (h : ByteArray) (ao : Option Addr) (n cp : Nat) : Prop where
  pg : Pag W w.heap.size (.int .i64 a) (.int .i64 k) (.int .i64 v) (.int .i64 r) (.string h) (.slice ao n cp)
  res : Hb W (w.heap.size + 1) Hr.none
  only : Only (fun _ => False) w W
theorem Mst.new (w : World) (a k v r : Int) (h : ByteArray) (ao : Option Addr) (n cp : Nat) : Mst w ((w.alloc (.cells #[.int .i64 a, .int .i64 k, .int .i64 v, .int .i64 r, .string h, .slice ao n cp] 37)).alloc (.cells Hr.none.cells 50)) a k v r h ao n cp := by
  refine ⟨(Pag.new w _ _ _ _ _ _).more (onlyA _ _), ?_, o2 (onlyA _ _) (onlyA _ _)⟩
  have := Hb.new (w.alloc (.cells #[.int .i64 a, .int .i64 k, .int .i64 v, .int .i64 r, .string h, .slice ao n cp] 37)) Hr.none
  rw [World.size_alloc] at this
  exact this
theorem Mst.more {w W W' : World} {a k v r : Int} {h : ByteArray} {ao : Option Addr} {n cp : Nat} (H : Mst w W a k v r h ao n cp) (ho : Only (fun _ => False) W W') : Mst w W' a k v r h ao n cp := ⟨H.pg.more ho, H.res.more ho, o2 H.only ho⟩
set_option maxRecDepth 100000 in
set_option maxHeartbeats 1600000 in
theorem mark_ok (w : World) (a v r : Int) (h : ByteArray) (B cp : Nat) (ao : Option Addr) (l : List ByteArray) (j : Nat) (t : Tu) (g own : Int) (hS : Strs w B ao l) (hF : Fit ao l.length cp) (hh : h.size ≤ 140737488355328) (hj : j < l.length) (hd : decT (bl l[j]) = some t) (h1 : 1 ≤ own) (h2 : own ≤ 1024) (h3 : ¬ own = t.xmax)
    (hf : fitL h (putL l j (str (Tu.enc ⟨t.xmin, own, t.frozen, t.key, t.value⟩))) = true) :
    Calls Tryz.prog 183 #[pv a 2 v r h ao l.length cp, .int .i64 g, .int .i64 (j : Int), .int .i64 own] w fun e w' => e = .returned (outI ⟨2, own, g, (j : Int), t.xmax, own, ⟨#[]⟩⟩ 0) ∧ Only (fun _ => False) w w' := by
  have hok := (enc_decT hd).1
  have hok' := Tu.ok_iff.1 hok
  have hokn : Tu.ok ⟨t.xmin, own, t.frozen, t.key, t.value⟩ = true := Tu.ok_iff.2 (by simp only; omega)
  have e1 : Tu.err ⟨t.xmin, own, t.frozen, t.key, t.value⟩ = 0 := by unfold Tu.err; rw [hokn]; rfl
  have e2 : Tu.out ⟨t.xmin, own, t.frozen, t.key, t.value⟩ = Tu.enc ⟨t.xmin, own, t.frozen, t.key, t.value⟩ := by unfold Tu.out; rw [hokn]; rfl
  have HM0 := hide (Mst.new w a 2 v r h ao l.length cp)
  have HVE : Hid (∀ W, Only (fun _ => False) w W → Calls Tryz.prog 179 #[.agg #[.int .i64 a, .int .i64 2, .int .i64 v, .int .i64 r, .string h, .slice ao l.length cp], .int .i64 (j : Int)] W fun e w' => e = .returned (.tuple #[.agg #[.int .i64 t.xmin, .int .i64 t.xmax, .bool t.frozen, .string t.key, .string t.value], .int .i64 0]) ∧ Only (fun _ => False) W w') := fun W ho => by
    have := version_any W a 2 v r h B cp ao l (j : Int) (hS.more ho)
    rw [verL_at hj, hd] at this
    exact this
  have HEN : Hid (∀ W, Calls Tryz.prog 194 #[.agg #[.int .i64 t.xmin, .int .i64 t.xmax, .bool t.frozen, .string t.key, .string t.value], .int .i64 own] W fun e w' => e = .returned (.tuple #[.string (str (Tu.enc ⟨t.xmin, own, t.frozen, t.key, t.value⟩)), .bool true]) ∧ Only (fun _ => False) W w') := fun W => by
    have := ended_ok W t own (by omega) h3 (by omega) (by omega)
    rw [e1, e2] at this
    exact this
  have HSW : Hid (∀ W, Only (fun _ => False) w W → Calls Tryz.prog 107 #[.agg #[.int .i64 a, .int .i64 2, .int .i64 v, .int .i64 r, .string h, .slice ao l.length cp], .int .i64 (j : Int), .string (str (Tu.enc ⟨t.xmin, own, t.frozen, t.key, t.value⟩))] W fun e w' => (∃ V, e = .returned (.tuple #[.int .i64 V, .int .i64 0])) ∧ Only (fun _ => False) W w') := fun W ho => by
    have := sizeWith_any W a 2 v r h B cp ao l j (str (Tu.enc ⟨t.xmin, own, t.frozen, t.key, t.value⟩)) (hS.more ho) hF hh (by rw [str_size, enc_lenT hokn]; simp only; omega) (by omega)
    rw [szE_fit hf] at this
    refine this.mono ?_
    rintro e w' ⟨rfl, ho⟩
    exact ⟨⟨_, rfl⟩, ho⟩
  obtain ⟨S, hSS⟩ : ∃ S, str (Tu.enc ⟨t.xmin, own, t.frozen, t.key, t.value⟩) = S := ⟨_, rfl⟩
  rw [hSS] at HEN HSW
  obtain ⟨xa, xb, xc, xd, xe⟩ := t
  simp only at HVE HEN ⊢
  clear hS hF hd hf hok hok' hokn e1 e2 hSS h3
  go_enter Tryz.func183, Tryz.ntmps183
  go_upto_region 1 with fail
  obtain ⟨W0, hW0⟩ : ∃ y, (w.alloc (.cells #[.int .i64 a, .int .i64 2, .int .i64 v, .int .i64 r, .string h, .slice ao l.length cp] 37)).alloc (.cells Hr.none.cells 50) = y := ⟨_, rfl⟩
  rw [hW0] at HM0 ⊢
  clear hW0
  obtain ⟨p0, p1, p2, p3, p4, p5, _⟩ := HM0.out.pg
  go_wp2_with fail
  refine (HVE.out _ HM0.out.only).mono ?_
  rintro e w1 ⟨rfl, ho1⟩
  have HM1 := hide ((HM0.out.more ho1).more (onlyA w1 (.cells #[.int .i64 xa, .int .i64 xb, .bool xc, .string xd, .string xe] 78)))
  have HT1 := hide (Tb.new w1 ⟨xa, xb, xc, xd, xe⟩)
  clear ho1 p0 p1 p2 p3 p4 p5
  go_upto_region 2 with fail
  obtain ⟨b, hb⟩ : ∃ b, w1.heap.size = b := ⟨_, rfl⟩
  obtain ⟨w2, hw2⟩ : ∃ y, w1.alloc (.cells #[.int .i64 xa, .int .i64 xb, .bool xc, .string xd, .string xe] 78) = y := ⟨_, rfl⟩
  rw [hw2] at HM1 ⊢
  have HT2 : Hid (Tb w2 b ⟨xa, xb, xc, xd, xe⟩) := by rw [← hw2, ← hb]; exact HT1.out
  rw [hb]
  clear hw2 hb HT1
  obtain ⟨t0, t1, t2, t3, t4, _⟩ := HT2.out
  simp only at t0 t1 t2 t3 t4
  go_wp2_with fail
  refine (HEN.out _).mono ?_
  rintro e w3 ⟨rfl, ho3⟩
  have HM3 := hide (HM1.out.more ho3)
  have HT3 := hide (HT2.out.more ho3)
  clear ho3 t0 t1 t2 t3 t4
  obtain ⟨p0, p1, p2, p3, p4, p5, _⟩ := HM3.out.pg
  go_wp2_with fail
  refine (HSW.out _ HM3.out.only).mono ?_
  rintro e w4 ⟨⟨V, rfl⟩, ho4⟩
  have HM4 := hide (HM3.out.more ho4)
  have t1 := (HT3.out.more ho4).c1
  simp only at t1
  clear ho4 p0 p1 p2 p3 p4 p5
  go_upto_region 10 with fail
  go_wp2_with (refine wpList_build_mark rfl (.tmp 46) (.tmp 47) (.tmp 48) (.tmp 50) (.tmp 51) rfl own g (j : Int) xb own rfl rfl rfl rfl rfl ?_; go_frame; refine wpList_put_hr rfl (.tmp 8) (.tmp 52) rfl (w.heap.size + 1) rfl Hr.none ⟨2, own, g, (j : Int), xb, own, ⟨#[]⟩⟩ rfl HM4.out.res ?_; intro W9 HW9; go_frame)
  refine bodyPost_ret (results_hr rfl rfl HW9.out.at_) rfl ?_
  exact ⟨rfl, HM4.out.only.trans HW9.out.only (fun i hi e => by omega)⟩
/-- Whether a page is a node. -/
def rdB (k v r : Int) (h : ByteArray) (l : List ByteArray) : Bool := if v = 0 then lfB k v r h l else inB k v r h l
theorem read_any2 (w : World) (a k v r : Int) (h : ByteArray) (B cp : Nat) (ao : Option Addr) (l : List ByteArray) (hS : Strs w B ao l) (hl : l.length ≤ 8796093021952) :
    Calls Tryz.prog 96 #[pgv a k v r h ao l.length cp] w fun e w' => CvR e (rdB k v r h l) ∧ Only (fun _ => False) w w' := by
  have HX := hide (lf_new w (.int .i64 a) (.int .i64 k) (.int .i64 v) (.int .i64 r) (.string h) (.slice ao l.length cp))
  have HRL := hide (readLeaf_any _ a k v r h B cp ao l (hS.more HX.out.2.2) hl)
  have HRI := hide (readInner_any _ a k v r h B cp ao l (hS.more HX.out.2.2) hl)
  obtain ⟨b, hb⟩ : ∃ b, rdB k v r h l = b := ⟨_, rfl⟩
  rw [hb]
  have HB := hide hb
  unfold rdB at HB
  clear hb hS hl
  unfold pgv at HRL HRI ⊢
  by_cases hv : v = 0
  · rw [if_pos hv] at HB
    rw [HB.out] at HRL
    have hv0 : (v == 0) = true := by simpa using hv
    clear hv HB HRI
    go_enter Tryz.func96, Tryz.ntmps96
    go_upto_region 1 with fail
    obtain ⟨W0, hW0⟩ : ∃ x, (w.alloc (.cells #[.int .i64 a, .int .i64 k, .int .i64 v, .int .i64 r, .string h, .slice ao l.length cp] 37)).alloc (.cells #[.slice none 0 0, .slice none 0 0, .string ⟨#[]⟩, .int .i64 0, .int .i64 0] 164) = x := ⟨_, rfl⟩
    rw [hW0] at HX HRL ⊢
    clear hW0
    obtain ⟨p0, p1, p2, p3, p4, p5, _⟩ := HX.out.1
    go_wp2_with fail
    refine HRL.out.mono ?_
    rintro x w1 ⟨⟨a1, n1, c1, a2, n2, c2, H, rfl⟩, ho⟩
    unfold cvv
    have HC := hide (HX.out.2.1.more ho)
    have HO1 := hide (o2 HX.out.2.2 ho)
    clear ho p0 p1 p2 p3 p4 p5 HRL
    obtain ⟨r0, r1, r2, r3, r4, f0, f1, f2, f3, f4, _⟩ := HC.out
    go_wp2_with fail
    refine bodyPost_ret (results_cv rfl rfl (HC.out.all _ _ H)) rfl ?_
    have hfive := Only.five w1 (w.heap.size + 1) (.slice a1 n1 c1) (.slice a2 n2 c2) (.string H.key) (.int .i64 H.page) (.int .i64 H.slot)
    exact ⟨⟨_, _, _, _, _, _, _, rfl⟩, HO1.out.trans hfive (fun i hi e => by omega)⟩
  · rw [if_neg hv] at HB
    rw [HB.out] at HRI
    have hv0 : (v == 0) = false := by simpa using hv
    clear hv HB HRL
    go_enter Tryz.func96, Tryz.ntmps96
    go_upto_region 1 with fail
    obtain ⟨W0, hW0⟩ : ∃ x, (w.alloc (.cells #[.int .i64 a, .int .i64 k, .int .i64 v, .int .i64 r, .string h, .slice ao l.length cp] 37)).alloc (.cells #[.slice none 0 0, .slice none 0 0, .string ⟨#[]⟩, .int .i64 0, .int .i64 0] 164) = x := ⟨_, rfl⟩
    rw [hW0] at HX HRI ⊢
    clear hW0
    obtain ⟨p0, p1, p2, p3, p4, p5, _⟩ := HX.out.1
    go_wp2_with fail
    refine HRI.out.mono ?_
    rintro x w1 ⟨⟨a1, n1, c1, a2, n2, c2, H, rfl⟩, ho⟩
    unfold cvv
    have HC := hide (HX.out.2.1.more ho)
    have HO1 := hide (o2 HX.out.2.2 ho)
    clear ho p0 p1 p2 p3 p4 p5 HRI
    obtain ⟨r0, r1, r2, r3, r4, f0, f1, f2, f3, f4, _⟩ := HC.out
    go_wp2_with fail
    refine bodyPost_ret (results_cv rfl rfl (HC.out.all _ _ H)) rfl ?_
    have hfive := Only.five w1 (w.heap.size + 1) (.slice a1 n1 c1) (.slice a2 n2 c2) (.string H.key) (.int .i64 H.page) (.int .i64 H.slot)
    exact ⟨⟨_, _, _, _, _, _, _, rfl⟩, HO1.out.trans hfive (fun i hi e => by omega)⟩
/-- Whether Check takes a page. -/
def ckB (a k v r : Int) (h : ByteArray) (l : List ByteArray) : Bool := rdB k v r h l && decide ((Pg.out ⟨a, k, v, r, h, l⟩).2 = 0)
def ckC (b : Bool) : Int := if b = true then 0 else 140
set_option maxHeartbeats 1600000 in
/-- Check of any page. -/
theorem check_any (w : World) (a k v r : Int) (h : ByteArray) (B cp : Nat) (ao : Option Addr) (l : List ByteArray) (hS : Strs w B ao l) (hl : l.length ≤ 8796093021952) (hh : h.size ≤ 140737488355328) (ha : a < 9223372036854775808) :
    Calls Tryz.prog 52 #[pgv a k v r h ao l.length cp] w fun x w' => x = .returned (.int .i64 (ckC (ckB a k v r h l))) ∧ Only (fun _ => False) w w' := by
  have HP := hide (Pag.new w (.int .i64 a) (.int .i64 k) (.int .i64 v) (.int .i64 r) (.string h) (.slice ao l.length cp))
  have HO := hide (onlyA w (.cells #[.int .i64 a, .int .i64 k, .int .i64 v, .int .i64 r, .string h, .slice ao l.length cp] 37))
  have HR : Hid (∀ W, Only (fun _ => False) w W → Calls Tryz.prog 96 #[.agg #[.int .i64 a, .int .i64 k, .int .i64 v, .int .i64 r, .string h, .slice ao l.length cp]] W fun x w' => CvR x (rdB k v r h l) ∧ Only (fun _ => False) W w') := fun W ho => read_any2 W a k v r h B cp ao l (hS.more ho) hl
  have HE : Hid (∀ W, Only (fun _ => False) w W → Calls Tryz.prog 97 #[.agg #[.int .i64 a, .int .i64 k, .int .i64 v, .int .i64 r, .string h, .slice ao l.length cp]] W fun x w' => (∃ s, x = .returned (.tuple #[.string s, .int .i64 (Pg.out ⟨a, k, v, r, h, l⟩).2])) ∧ Only (fun _ => False) W w') := fun W ho => by
    refine (pencode_any W a k v r h B cp ao l (hS.more ho) hh ha).mono ?_
    rintro x w' ⟨rfl, ho'⟩
    exact ⟨⟨_, rfl⟩, ho'⟩
  unfold ckB
  obtain ⟨b, hb⟩ : ∃ b, rdB k v r h l = b := ⟨_, rfl⟩
  obtain ⟨c, hc⟩ : ∃ c, (Pg.out ⟨a, k, v, r, h, l⟩).2 = c := ⟨_, rfl⟩
  rw [hb] at HR ⊢
  rw [hc] at HE ⊢
  obtain ⟨z, hz⟩ : ∃ z, ckC (b && decide (c = 0)) = z := ⟨_, rfl⟩
  rw [hz]
  have HZ := hide hz
  clear hb hc hS hl hh ha hz
  unfold pgv
  go_enter Tryz.func52, Tryz.ntmps52
  go_upto_region 1 with fail
  obtain ⟨n, hn⟩ : ∃ n, l.length = n := ⟨_, rfl⟩
  rw [hn] at HP HO HR HE ⊢
  clear hn
  obtain ⟨W0, hW0⟩ : ∃ x, w.alloc (.cells #[.int .i64 a, .int .i64 k, .int .i64 v, .int .i64 r, .string h, .slice ao n cp] 37) = x := ⟨_, rfl⟩
  rw [hW0] at HP HO ⊢
  clear hW0
  obtain ⟨p0, p1, p2, p3, p4, p5, _⟩ := HP.out
  go_wp2_with fail
  refine (HR.out _ HO.out).mono ?_
  rintro x w1 ⟨⟨a1, n1, c1, a2, n2, c2, H, rfl⟩, ho⟩
  unfold cvv
  have HP1 := hide (HP.out.more ho)
  have HO1 := hide (o2 HO.out ho)
  clear ho p0 p1 p2 p3 p4 p5 HP HO HR
  go_upto_region 2 with fail
  have HA := hide (onlyA w1 (.cells #[.slice a1 n1 c1, .slice a2 n2 c2, .string H.key, .int .i64 H.page, .int .i64 H.slot] 164))
  obtain ⟨w2, hw2⟩ : ∃ x, w1.alloc (.cells #[.slice a1 n1 c1, .slice a2 n2 c2, .string H.key, .int .i64 H.page, .int .i64 H.slot] 164) = x := ⟨_, rfl⟩
  rw [hw2] at HA ⊢
  clear hw2
  have HP2 := hide (HP1.out.more HA.out)
  have HO2 := hide (o2 HO1.out HA.out)
  clear HA HP1 HO1
  obtain ⟨p0, p1, p2, p3, p4, p5, _⟩ := HP2.out
  cases b with
  | false =>
    have HZ2 : Hid (140 = z) := HZ.out
    clear HZ
    go_wp2_with fail
    go_ret
    obtain rfl := HZ2.out
    exact ⟨rfl, HO2.out⟩
  | true =>
    go_wp2_with fail
    refine (HE.out _ HO2.out).mono ?_
    rintro x w3 ⟨⟨s, rfl⟩, ho⟩
    have HO3 := hide (o2 HO2.out ho)
    clear ho
    by_cases hc0 : c = 0
    · have HZ2 : Hid (0 = z) := by
        have q := HZ.out
        rw [decide_eq_true hc0] at q
        exact q
      subst hc0
      clear HZ
      go_wp2_with fail
      go_ret
      obtain rfl := HZ2.out
      exact ⟨rfl, HO3.out⟩
    · have HZ2 : Hid (140 = z) := by
        have q := HZ.out
        rw [decide_eq_false hc0] at q
        exact q
      have hc1 : (c != 0) = true := by simpa using hc0
      clear HZ
      go_wp2_with fail
      go_ret
      obtain rfl := HZ2.out
      exact ⟨rfl, HO3.out⟩
theorem rdI_tail {hi : En} : ∀ {l : List ByteArray} {x : En} {ks : List (En × Int)}, rdI hi (some x) l = some ks → (x = noE ∨ x.ok = true) → l = ks.map (fun k => k.1.encS k.2) ∧ Rise (ks.map Prod.fst) ∧ (∀ k ∈ ks, k.1.ok = true ∧ blw hi k.1 = true ∧ okC k.2 = true ∧ x.lt k.1)
  | [], x, ks, h, _ => by
    rw [rdI] at h
    cases h
    exact ⟨rfl, List.Pairwise.nil, fun _ h => by cases h⟩
  | s :: l, x, ks, h, hx => by
    rw [rdI] at h
    cases hd : decS (bl s) with
    | none => rw [hd] at h; cases h
    | some kk =>
      obtain ⟨e, c⟩ := kk
      rw [hd] at h
      simp only [] at h
      split at h
      · rename_i hc
        cases hr : rdI hi (some e) l with
        | none => rw [hr] at h; cases h
        | some fs =>
          rw [hr] at h
          cases h
          obtain ⟨o1, o2, o3⟩ := decS_some hd
          have hc' : x.lt e ∧ blw hi e = true := by
            unfold okI at hc
            simpa using hc
          have ho : e.ok = true := by
            rcases En.sp_iff.1 o1 with z | z
            · rw [z] at hc'
              exact absurd hc'.1 (not_lt_noE (En.sp_iff.2 hx))
            · exact z
          obtain ⟨k1, k2, k3⟩ := rdI_tail hr (.inr ho)
          refine ⟨?_, ?_, ?_⟩
          · rw [List.map_cons, ← k1, show s = e.encS c by unfold En.encS; rw [← o3, str_bl]]
          · rw [List.map_cons]
            refine List.pairwise_cons.2 ⟨fun y hy => ?_, k2⟩
            obtain ⟨k, hk, rfl⟩ := List.mem_map.1 hy
            exact (k3 k hk).2.2.2
          · intro k hk
            rcases List.mem_cons.1 hk with rfl | hk
            · exact ⟨ho, hc'.2, o2, hc'.1⟩
            · obtain ⟨q1, q2, q3, q4⟩ := k3 k hk
              exact ⟨q1, q2, q3, En.lt_trans hc'.1 q4⟩
      · cases h
theorem rdI_some {hi : En} {l : List ByteArray} {ks : List (En × Int)} (h : rdI hi none l = some ks) (hl : ¬ l = []) : InIs hi l ks ∧ ∀ k ∈ ks.tail, noE.lt k.1 := by
  cases l with
  | nil => exact absurd rfl hl
  | cons s l =>
    rw [rdI] at h
    cases hd : decS (bl s) with
    | none => rw [hd] at h; cases h
    | some kk =>
      obtain ⟨e, c⟩ := kk
      rw [hd] at h
      simp only [] at h
      split at h
      · rename_i hc
        cases hr : rdI hi (some e) l with
        | none => rw [hr] at h; cases h
        | some fs =>
          rw [hr] at h
          cases h
          obtain ⟨o1, o2, o3⟩ := decS_some hd
          have he : e = noE := by
            unfold okI at hc
            simpa using hc
          subst he
          obtain ⟨k1, k2, k3⟩ := rdI_tail hr (.inl rfl)
          refine ⟨⟨?_, ?_, ⟨c, fs, rfl⟩, fun k hk => ⟨(k3 k hk).1, (k3 k hk).2.1⟩, ?_⟩, fun k hk => (k3 k hk).2.2.2⟩
          · rw [List.map_cons, ← k1, show s = noE.encS c by unfold En.encS; rw [← o3, str_bl]]
          · rw [List.map_cons]
            refine List.pairwise_cons.2 ⟨fun y hy => ?_, k2⟩
            obtain ⟨k, hk, rfl⟩ := List.mem_map.1 hy
            exact (k3 k hk).2.2.2
          · intro k hk
            rcases List.mem_cons.1 hk with rfl | hk
            · exact o2
            · exact (k3 k hk).2.2.1
      · cases h
theorem hdO_hi {k v r : Int} {h : ByteArray} {hi : En} (q : hdO k v r h = some hi) : (hi = noE ∨ hi.ok = true) ∧ h = hiB hi := by
  have c := hdO_kind q
  unfold hdO at q
  rw [if_pos c] at q
  by_cases hx : h = ⟨#[]⟩
  · rw [if_pos hx] at q
    cases q
    exact ⟨.inl rfl, by unfold hiB; rw [if_pos rfl]; exact hx⟩
  · rw [if_neg hx] at q
    obtain ⟨o1, o2⟩ := decE_some q
    refine ⟨.inr o1, ?_⟩
    unfold hiB
    rw [if_neg (En.ok_ne o1)]
    unfold En.enc
    rw [← o2, str_bl]
theorem out_zero {p : Pg} (h : p.out.2 = 0) : p.inRange ∧ p.fits := by
  unfold Pg.out at h
  by_cases h1 : p.inRange
  · rw [if_pos h1] at h
    by_cases h2 : p.fits
    · exact ⟨h1, h2⟩
    · rw [if_neg h2] at h
      cases h
  · rw [if_neg h1] at h
    cases h
/-- A page that Check takes is a good node's. -/
theorem ckB_node {a k v r : Int} {h : ByteArray} {l : List ByteArray} (q : ckB a k v r h l = true) : 0 ≤ a ∧ ∃ X : Nd, Gd X ∧ k = 3 ∧ v = (X.lv : Int) ∧ r = (X.rt : Int) ∧ h = hiB X.hi ∧ l = X.items := by
  unfold ckB at q
  rw [Bool.and_eq_true, decide_eq_true_iff] at q
  obtain ⟨q1, q2⟩ := q
  obtain ⟨i1, i2⟩ := out_zero q2
  have hsz : 20 + h.size + isz l ≤ 512 := by
    have := i2.2.2
    unfold Pg.size at this
    simp only [] at this
    omega
  refine ⟨i1.1, ?_⟩
  unfold rdB at q1
  by_cases hv : v = 0
  · rw [if_pos hv] at q1
    unfold lfB at q1
    cases hH : hdO k v r h with
    | none => rw [hH] at q1; cases q1
    | some hi =>
      rw [hH] at q1
      simp only [Bool.and_eq_true] at q1
      obtain ⟨es, hes⟩ := Option.isSome_iff_exists.1 q1.2
      obtain ⟨k1, k2⟩ := rdL_some hes
      obtain ⟨c1, c2, c3, c4, c5⟩ := hdO_kind hH
      obtain ⟨d1, d2⟩ := hdO_hi hH
      have hes' : (Nd.mk 0 r.toNat hi (es.map fun e => (e, (0 : Int)))).es = es := by
        show (es.map fun e => (e, (0 : Int))).map Prod.fst = es
        rw [List.map_map]
        exact List.map_id es
      have hit : (Nd.mk 0 r.toNat hi (es.map fun e => (e, (0 : Int)))).items = l := by
        rw [Nd.items_leaf rfl, hes', k1.items]
      refine ⟨⟨0, r.toNat, hi, es.map fun e => (e, (0 : Int))⟩, ⟨by simp, by simp only []; omega, ⟨noE, ⟨?_, ?_, ?_, ?_, ?_, ?_⟩⟩, fun z => by cases z⟩, c1, by rw [hv]; rfl, by simp only []; omega, d2, hit.symm⟩
      · rw [hes']; exact k1.rise
      · rcases d1 with z | z
        · exact .inl z
        · exact .inr ⟨z, noE_lt z⟩
      · intro _ kk hk
        obtain ⟨e, he, rfl⟩ := List.mem_map.1 hk
        exact ⟨k1.ok e he, rfl, k2 e he, k1.in_ e he⟩
      · intro z; cases z
      · intro z; cases z
      · unfold Nd.size
        rw [hit]
        simp only []
        rw [← d2]
        exact hsz
  · rw [if_neg hv] at q1
    unfold inB at q1
    cases hH : hdO k v r h with
    | none => rw [hH] at q1; cases q1
    | some hi =>
      rw [hH] at q1
      simp only [Bool.and_eq_true] at q1
      obtain ⟨ks, hks⟩ := Option.isSome_iff_exists.1 q1.2.2
      have hl : ¬ l = [] := by
        intro z
        have := q1.2.1
        rw [decide_eq_true z] at this
        cases this
      obtain ⟨k1, k2⟩ := rdI_some hks hl
      obtain ⟨c1, c2, c3, c4, c5⟩ := hdO_kind hH
      obtain ⟨d1, d2⟩ := hdO_hi hH
      have hp : 0 < v.toNat := by omega
      have hit : (Nd.mk v.toNat r.toNat hi ks).items = l := by
        rw [Nd.items_inner hp, k1.items]
      refine ⟨⟨v.toNat, r.toNat, hi, ks⟩, ⟨by simp only []; omega, by simp only []; omega, ⟨noE, ⟨k1.rise, ?_, ?_, fun _ => k1.first, ?_, ?_⟩⟩, fun _ => k1.kid⟩, c1, by simp only []; omega, by simp only []; omega, d2, hit.symm⟩
      · rcases d1 with z | z
        · exact .inl z
        · exact .inr ⟨z, noE_lt z⟩
      · intro z
        have z' : v.toNat = 0 := z
        omega
      · intro _ kk hk
        exact ⟨(k1.ok kk hk).1, k2 kk hk, (k1.ok kk hk).2⟩
      · unfold Nd.size
        rw [hit]
        simp only []
        rw [← d2]
        exact hsz
end Go.Proofs.YtajjakljheafjaaGreat
