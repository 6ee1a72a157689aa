/- What a view sees, as the document says. -/
import Derived.Test.YtolfmodgkkjnbaaGreatSView
namespace Go.Proofs.YtolfmodgkkjnbaaGreat
open Go.RowKit

set_option maxRecDepth 100000 in
set_option maxHeartbeats 1600000 in
theorem nstatus_any (w : World) (V : Vw) (q : Lo) (x : Int) (h : Sn w V q) (hx : I64 x) :
    Calls Tryz.prog 10 #[.agg #[.int .i64 V.m, .int .i64 V.next, .slice q.aA V.act.length q.cA, .int .i64 V.own, .slice q.aR V.run.length q.cR, .int .i64 V.pg.lsn, .int .i64 V.pg.kind, .int .i64 V.pg.level, .int .i64 V.pg.right, .string V.pg.high, .slice q.aP V.pg.items.length q.cP], .int .i64 x] w fun e w' => e = .returned (.int .u8 (vsi V x)) ∧ Only (fun _ => False) w w' := by
  have C0 := hide (fun W (h : Sn W V q) => quiet_only (nin_any W q.bR q.cR q.aR V.run x h.run))
  have C1 := hide (fun W (h : Sn W V q) => kget_any W V.m V.pg.lsn V.pg.kind V.pg.level V.pg.right x V.pg.high q.cP q.bP q.aP V.pg.items h.m hx h.pg)
  have HN := hide h
  clear h hx
  have HB := hide (VB.new w (.int .i64 V.m) (.int .i64 V.next) (.slice q.aA V.act.length q.cA) (.int .i64 V.own) (.slice q.aR V.run.length q.cR) (.int .i64 V.pg.lsn) (.int .i64 V.pg.kind) (.int .i64 V.pg.level) (.int .i64 V.pg.right) (.string V.pg.high) (.slice q.aP V.pg.items.length q.cP))
  have HO := hide (onlyA w (.cells #[.int .i64 V.m, .int .i64 V.next, .slice q.aA V.act.length q.cA, .int .i64 V.own, .slice q.aR V.run.length q.cR, .int .i64 V.pg.lsn, .int .i64 V.pg.kind, .int .i64 V.pg.level, .int .i64 V.pg.right, .string V.pg.high, .slice q.aP V.pg.items.length q.cP] 32))
  by_cases hr : x ∈ V.run
  ·
    rw [decide_eq_true hr] at C0
    have hv : vsi V x = 1 := by unfold vsi; rw [if_pos hr]
    rw [hv]
    clear hr hv
    go_enter Tryz.func10, Tryz.ntmps10
    go_upto_region 1 with fail
    obtain ⟨W0, hW0⟩ : ∃ W, w.alloc (.cells #[.int .i64 V.m, .int .i64 V.next, .slice q.aA V.act.length q.cA, .int .i64 V.own, .slice q.aR V.run.length q.cR, .int .i64 V.pg.lsn, .int .i64 V.pg.kind, .int .i64 V.pg.level, .int .i64 V.pg.right, .string V.pg.high, .slice q.aP V.pg.items.length q.cP] 32) = W := ⟨_, rfl⟩
    rw [hW0] at HB HO ⊢
    clear hW0
    obtain ⟨vc0, vc1, vc2, vc3, vc4, vc5, vc6, vc7, vc8, vc9, vc10, vf0, vf1, vf2, vf3, vf4, vf5, vf6, vf7, vf8, vf9, vf10, vlt⟩ := HB.out
    clear vf0 vf1 vf2 vf3 vf4 vf5 vf6 vf7 vf8 vf9 vf10
    go_wp2_with fail
    refine (C0.out _ (HN.out.more HO.out)).mono ?_
    rintro e w1 ⟨rfl, ho⟩
    clear vc0 vc1 vc2 vc3 vc4 vc5 vc6 vc7 vc8 vc9 vc10 vlt
    have HB := hide (HB.out.more ho)
    have HO := hide (o2 HO.out ho)
    clear ho
    obtain ⟨vc0, vc1, vc2, vc3, vc4, vc5, vc6, vc7, vc8, vc9, vc10, vf0, vf1, vf2, vf3, vf4, vf5, vf6, vf7, vf8, vf9, vf10, vlt⟩ := HB.out
    clear vf0 vf1 vf2 vf3 vf4 vf5 vf6 vf7 vf8 vf9 vf10
    go_wp2_with fail
    go_ret
    exact ⟨rfl, HO.out⟩
  ·
    rw [decide_eq_false hr] at C0
    have hv : vsi V x = (gst V.m V.pg x : Int) := by unfold vsi; rw [if_neg hr]
    rw [hv]
    clear hr hv
    by_cases hc : cid V.m V.pg x = 0
    ·
      rw [hc] at C1
      clear hc
      go_enter Tryz.func10, Tryz.ntmps10
      go_upto_region 1 with fail
      obtain ⟨W0, hW0⟩ : ∃ W, w.alloc (.cells #[.int .i64 V.m, .int .i64 V.next, .slice q.aA V.act.length q.cA, .int .i64 V.own, .slice q.aR V.run.length q.cR, .int .i64 V.pg.lsn, .int .i64 V.pg.kind, .int .i64 V.pg.level, .int .i64 V.pg.right, .string V.pg.high, .slice q.aP V.pg.items.length q.cP] 32) = W := ⟨_, rfl⟩
      rw [hW0] at HB HO ⊢
      clear hW0
      obtain ⟨vc0, vc1, vc2, vc3, vc4, vc5, vc6, vc7, vc8, vc9, vc10, vf0, vf1, vf2, vf3, vf4, vf5, vf6, vf7, vf8, vf9, vf10, vlt⟩ := HB.out
      clear vf0 vf1 vf2 vf3 vf4 vf5 vf6 vf7 vf8 vf9 vf10
      go_wp2_with fail
      refine (C0.out _ (HN.out.more HO.out)).mono ?_
      rintro e w2 ⟨rfl, ho⟩
      clear vc0 vc1 vc2 vc3 vc4 vc5 vc6 vc7 vc8 vc9 vc10 vlt
      have HB := hide (HB.out.more ho)
      have HO := hide (o2 HO.out ho)
      clear ho
      obtain ⟨vc0, vc1, vc2, vc3, vc4, vc5, vc6, vc7, vc8, vc9, vc10, vf0, vf1, vf2, vf3, vf4, vf5, vf6, vf7, vf8, vf9, vf10, vlt⟩ := HB.out
      clear vf0 vf1 vf2 vf3 vf4 vf5 vf6 vf7 vf8 vf9 vf10
      go_wp2_with fail
      refine (C1.out _ (HN.out.more HO.out)).mono ?_
      rintro e w3 ⟨rfl, ho⟩
      clear vc0 vc1 vc2 vc3 vc4 vc5 vc6 vc7 vc8 vc9 vc10 vlt
      have HB := hide (HB.out.more ho)
      have HO := hide (o2 HO.out ho)
      clear ho
      obtain ⟨vc0, vc1, vc2, vc3, vc4, vc5, vc6, vc7, vc8, vc9, vc10, vf0, vf1, vf2, vf3, vf4, vf5, vf6, vf7, vf8, vf9, vf10, vlt⟩ := HB.out
      clear vf0 vf1 vf2 vf3 vf4 vf5 vf6 vf7 vf8 vf9 vf10
      go_wp2_with fail
      go_ret
      exact ⟨rfl, HO.out⟩
    ·
      have hg : gst V.m V.pg x = 0 := by unfold gst; rw [if_neg hc]
      rw [hg] at C1 ⊢
      obtain ⟨c, hcc⟩ : ∃ c, cid V.m V.pg x = c := ⟨_, rfl⟩
      rw [hcc] at C1 hc
      have g1 : (c != 0) = true := by simp [hc]
      clear hc hg hcc
      go_enter Tryz.func10, Tryz.ntmps10
      go_upto_region 1 with fail
      obtain ⟨W0, hW0⟩ : ∃ W, w.alloc (.cells #[.int .i64 V.m, .int .i64 V.next, .slice q.aA V.act.length q.cA, .int .i64 V.own, .slice q.aR V.run.length q.cR, .int .i64 V.pg.lsn, .int .i64 V.pg.kind, .int .i64 V.pg.level, .int .i64 V.pg.right, .string V.pg.high, .slice q.aP V.pg.items.length q.cP] 32) = W := ⟨_, rfl⟩
      rw [hW0] at HB HO ⊢
      clear hW0
      obtain ⟨vc0, vc1, vc2, vc3, vc4, vc5, vc6, vc7, vc8, vc9, vc10, vf0, vf1, vf2, vf3, vf4, vf5, vf6, vf7, vf8, vf9, vf10, vlt⟩ := HB.out
      clear vf0 vf1 vf2 vf3 vf4 vf5 vf6 vf7 vf8 vf9 vf10
      go_wp2_with fail
      refine (C0.out _ (HN.out.more HO.out)).mono ?_
      rintro e w4 ⟨rfl, ho⟩
      clear vc0 vc1 vc2 vc3 vc4 vc5 vc6 vc7 vc8 vc9 vc10 vlt
      have HB := hide (HB.out.more ho)
      have HO := hide (o2 HO.out ho)
      clear ho
      obtain ⟨vc0, vc1, vc2, vc3, vc4, vc5, vc6, vc7, vc8, vc9, vc10, vf0, vf1, vf2, vf3, vf4, vf5, vf6, vf7, vf8, vf9, vf10, vlt⟩ := HB.out
      clear vf0 vf1 vf2 vf3 vf4 vf5 vf6 vf7 vf8 vf9 vf10
      go_wp2_with fail
      refine (C1.out _ (HN.out.more HO.out)).mono ?_
      rintro e w5 ⟨rfl, ho⟩
      clear vc0 vc1 vc2 vc3 vc4 vc5 vc6 vc7 vc8 vc9 vc10 vlt
      have HB := hide (HB.out.more ho)
      have HO := hide (o2 HO.out ho)
      clear ho
      obtain ⟨vc0, vc1, vc2, vc3, vc4, vc5, vc6, vc7, vc8, vc9, vc10, vf0, vf1, vf2, vf3, vf4, vf5, vf6, vf7, vf8, vf9, vf10, vlt⟩ := HB.out
      clear vf0 vf1 vf2 vf3 vf4 vf5 vf6 vf7 vf8 vf9 vf10
      go_wp2_with fail
      go_ret
      exact ⟨rfl, HO.out⟩
set_option maxRecDepth 100000 in
set_option maxHeartbeats 1600000 in
theorem nsees_any (w : World) (V : Vw) (q : Lo) (x : Int) (h : Sn w V q) (hx : I64 x) :
    Calls Tryz.prog 12 #[.agg #[.int .i64 V.m, .int .i64 V.next, .slice q.aA V.act.length q.cA, .int .i64 V.own, .slice q.aR V.run.length q.cR, .int .i64 V.pg.lsn, .int .i64 V.pg.kind, .int .i64 V.pg.level, .int .i64 V.pg.right, .string V.pg.high, .slice q.aP V.pg.items.length q.cP], .int .i64 x] w fun e w' => e = .returned (.bool (vsees V x)) ∧ Only (fun _ => False) w w' := by
  have C0 := hide (fun W (h : Sn W V q) => nstatus_any W V q x h hx)
  have C1 := hide (fun W (h : Sn W V q) => quiet_only (xbefore_any V.m x V.next W h.m hx h.next))
  have C2 := hide (fun W (h : Sn W V q) => quiet_only (nin_any W q.bA q.cA q.aA V.act x h.act))
  simp only [vsees, vcom, vdone]
  obtain ⟨b0, hb0⟩ : ∃ b, vsi V x = b := ⟨_, rfl⟩
  have hs0 : 0 ≤ b0 ∧ b0 < 4 := by rw [← hb0]; exact vsi_bd _ _
  obtain ⟨b1, hb1⟩ : ∃ b, xbef V.m x V.next = b := ⟨_, rfl⟩
  obtain ⟨b2, hb2⟩ : ∃ b, decide (x ∈ V.act) = b := ⟨_, rfl⟩
  simp only [hb0, hb1, hb2] at C0 C1 C2 ⊢
  clear hb0 hb1 hb2
  have HN := hide h
  clear h hx
  have HB := hide (VB.new w (.int .i64 V.m) (.int .i64 V.next) (.slice q.aA V.act.length q.cA) (.int .i64 V.own) (.slice q.aR V.run.length q.cR) (.int .i64 V.pg.lsn) (.int .i64 V.pg.kind) (.int .i64 V.pg.level) (.int .i64 V.pg.right) (.string V.pg.high) (.slice q.aP V.pg.items.length q.cP))
  have HO := hide (onlyA w (.cells #[.int .i64 V.m, .int .i64 V.next, .slice q.aA V.act.length q.cA, .int .i64 V.own, .slice q.aR V.run.length q.cR, .int .i64 V.pg.lsn, .int .i64 V.pg.kind, .int .i64 V.pg.level, .int .i64 V.pg.right, .string V.pg.high, .slice q.aP V.pg.items.length q.cP] 32))
  by_cases h0 : x = 0
  ·
    have g1 : (x != 0) = false := by simp [h0]
    have hv : vown V x = false := by unfold vown; by_cases e : V.own = 0; simp [e]; simp [h0, Ne.symm e]
    rw [hv]
    clear h0 hv
    go_enter Tryz.func12, Tryz.ntmps12
    go_upto_region 1 with fail
    obtain ⟨W0, hW0⟩ : ∃ W, w.alloc (.cells #[.int .i64 V.m, .int .i64 V.next, .slice q.aA V.act.length q.cA, .int .i64 V.own, .slice q.aR V.run.length q.cR, .int .i64 V.pg.lsn, .int .i64 V.pg.kind, .int .i64 V.pg.level, .int .i64 V.pg.right, .string V.pg.high, .slice q.aP V.pg.items.length q.cP] 32) = W := ⟨_, rfl⟩
    rw [hW0] at HB HO ⊢
    clear hW0
    obtain ⟨vc0, vc1, vc2, vc3, vc4, vc5, vc6, vc7, vc8, vc9, vc10, vf0, vf1, vf2, vf3, vf4, vf5, vf6, vf7, vf8, vf9, vf10, vlt⟩ := HB.out
    clear vf0 vf1 vf2 vf3 vf4 vf5 vf6 vf7 vf8 vf9 vf10
    go_wp2_with fail
    refine (C0.out _ (HN.out.more HO.out)).mono ?_
    rintro e w1 ⟨rfl, ho⟩
    clear vc0 vc1 vc2 vc3 vc4 vc5 vc6 vc7 vc8 vc9 vc10 vlt
    have HB := hide (HB.out.more ho)
    have HO := hide (o2 HO.out ho)
    clear ho
    rcases four hs0.1 hs0.2 with rfl | rfl | rfl | rfl
    · clear hs0
      obtain ⟨vc0, vc1, vc2, vc3, vc4, vc5, vc6, vc7, vc8, vc9, vc10, vf0, vf1, vf2, vf3, vf4, vf5, vf6, vf7, vf8, vf9, vf10, vlt⟩ := HB.out
      clear vf0 vf1 vf2 vf3 vf4 vf5 vf6 vf7 vf8 vf9 vf10
      go_wp2_with fail
      go_ret
      exact ⟨rfl, HO.out⟩
    · clear hs0
      obtain ⟨vc0, vc1, vc2, vc3, vc4, vc5, vc6, vc7, vc8, vc9, vc10, vf0, vf1, vf2, vf3, vf4, vf5, vf6, vf7, vf8, vf9, vf10, vlt⟩ := HB.out
      clear vf0 vf1 vf2 vf3 vf4 vf5 vf6 vf7 vf8 vf9 vf10
      go_wp2_with fail
      go_ret
      exact ⟨rfl, HO.out⟩
    · clear hs0
      obtain ⟨vc0, vc1, vc2, vc3, vc4, vc5, vc6, vc7, vc8, vc9, vc10, vf0, vf1, vf2, vf3, vf4, vf5, vf6, vf7, vf8, vf9, vf10, vlt⟩ := HB.out
      clear vf0 vf1 vf2 vf3 vf4 vf5 vf6 vf7 vf8 vf9 vf10
      go_wp2_with fail
      refine (C1.out _ (HN.out.more HO.out)).mono ?_
      rintro e w2 ⟨rfl, ho⟩
      clear vc0 vc1 vc2 vc3 vc4 vc5 vc6 vc7 vc8 vc9 vc10 vlt
      have HB := hide (HB.out.more ho)
      have HO := hide (o2 HO.out ho)
      clear ho
      cases b1 with
      | true =>
        obtain ⟨vc0, vc1, vc2, vc3, vc4, vc5, vc6, vc7, vc8, vc9, vc10, vf0, vf1, vf2, vf3, vf4, vf5, vf6, vf7, vf8, vf9, vf10, vlt⟩ := HB.out
        clear vf0 vf1 vf2 vf3 vf4 vf5 vf6 vf7 vf8 vf9 vf10
        go_wp2_with fail
        refine (C2.out _ (HN.out.more HO.out)).mono ?_
        rintro e w3 ⟨rfl, ho⟩
        clear vc0 vc1 vc2 vc3 vc4 vc5 vc6 vc7 vc8 vc9 vc10 vlt
        have HB := hide (HB.out.more ho)
        have HO := hide (o2 HO.out ho)
        clear ho
        cases b2 with
        | true =>
          obtain ⟨vc0, vc1, vc2, vc3, vc4, vc5, vc6, vc7, vc8, vc9, vc10, vf0, vf1, vf2, vf3, vf4, vf5, vf6, vf7, vf8, vf9, vf10, vlt⟩ := HB.out
          clear vf0 vf1 vf2 vf3 vf4 vf5 vf6 vf7 vf8 vf9 vf10
          go_wp2_with fail
          go_ret
          exact ⟨rfl, HO.out⟩
        | false =>
          obtain ⟨vc0, vc1, vc2, vc3, vc4, vc5, vc6, vc7, vc8, vc9, vc10, vf0, vf1, vf2, vf3, vf4, vf5, vf6, vf7, vf8, vf9, vf10, vlt⟩ := HB.out
          clear vf0 vf1 vf2 vf3 vf4 vf5 vf6 vf7 vf8 vf9 vf10
          go_wp2_with fail
          go_ret
          exact ⟨rfl, HO.out⟩
      | false =>
        obtain ⟨vc0, vc1, vc2, vc3, vc4, vc5, vc6, vc7, vc8, vc9, vc10, vf0, vf1, vf2, vf3, vf4, vf5, vf6, vf7, vf8, vf9, vf10, vlt⟩ := HB.out
        clear vf0 vf1 vf2 vf3 vf4 vf5 vf6 vf7 vf8 vf9 vf10
        go_wp2_with fail
        go_ret
        exact ⟨rfl, HO.out⟩
    · clear hs0
      obtain ⟨vc0, vc1, vc2, vc3, vc4, vc5, vc6, vc7, vc8, vc9, vc10, vf0, vf1, vf2, vf3, vf4, vf5, vf6, vf7, vf8, vf9, vf10, vlt⟩ := HB.out
      clear vf0 vf1 vf2 vf3 vf4 vf5 vf6 vf7 vf8 vf9 vf10
      go_wp2_with fail
      go_ret
      exact ⟨rfl, HO.out⟩
  ·
    have g1 : (x != 0) = true := by simp [h0]
    by_cases h1 : x = V.own
    ·
      have g2 : (x == V.own) = true := by simp [h1]
      have hv : vown V x = true := by unfold vown; rw [g2, ← h1, g1]; rfl
      rw [hv]
      clear h0 h1 hv
      go_enter Tryz.func12, Tryz.ntmps12
      go_upto_region 1 with fail
      obtain ⟨W0, hW0⟩ : ∃ W, w.alloc (.cells #[.int .i64 V.m, .int .i64 V.next, .slice q.aA V.act.length q.cA, .int .i64 V.own, .slice q.aR V.run.length q.cR, .int .i64 V.pg.lsn, .int .i64 V.pg.kind, .int .i64 V.pg.level, .int .i64 V.pg.right, .string V.pg.high, .slice q.aP V.pg.items.length q.cP] 32) = W := ⟨_, rfl⟩
      rw [hW0] at HB HO ⊢
      clear hW0
      obtain ⟨vc0, vc1, vc2, vc3, vc4, vc5, vc6, vc7, vc8, vc9, vc10, vf0, vf1, vf2, vf3, vf4, vf5, vf6, vf7, vf8, vf9, vf10, vlt⟩ := HB.out
      clear vf0 vf1 vf2 vf3 vf4 vf5 vf6 vf7 vf8 vf9 vf10
      go_wp2_with fail
      go_ret
      exact ⟨rfl, HO.out⟩
    ·
      have g2 : (x == V.own) = false := by simp [h1]
      have hv : vown V x = false := by unfold vown; rw [g2, Bool.and_false]
      rw [hv]
      clear h0 h1 hv
      go_enter Tryz.func12, Tryz.ntmps12
      go_upto_region 1 with fail
      obtain ⟨W0, hW0⟩ : ∃ W, w.alloc (.cells #[.int .i64 V.m, .int .i64 V.next, .slice q.aA V.act.length q.cA, .int .i64 V.own, .slice q.aR V.run.length q.cR, .int .i64 V.pg.lsn, .int .i64 V.pg.kind, .int .i64 V.pg.level, .int .i64 V.pg.right, .string V.pg.high, .slice q.aP V.pg.items.length q.cP] 32) = W := ⟨_, rfl⟩
      rw [hW0] at HB HO ⊢
      clear hW0
      obtain ⟨vc0, vc1, vc2, vc3, vc4, vc5, vc6, vc7, vc8, vc9, vc10, vf0, vf1, vf2, vf3, vf4, vf5, vf6, vf7, vf8, vf9, vf10, vlt⟩ := HB.out
      clear vf0 vf1 vf2 vf3 vf4 vf5 vf6 vf7 vf8 vf9 vf10
      go_wp2_with fail
      refine (C0.out _ (HN.out.more HO.out)).mono ?_
      rintro e w4 ⟨rfl, ho⟩
      clear vc0 vc1 vc2 vc3 vc4 vc5 vc6 vc7 vc8 vc9 vc10 vlt
      have HB := hide (HB.out.more ho)
      have HO := hide (o2 HO.out ho)
      clear ho
      rcases four hs0.1 hs0.2 with rfl | rfl | rfl | rfl
      · clear hs0
        obtain ⟨vc0, vc1, vc2, vc3, vc4, vc5, vc6, vc7, vc8, vc9, vc10, vf0, vf1, vf2, vf3, vf4, vf5, vf6, vf7, vf8, vf9, vf10, vlt⟩ := HB.out
        clear vf0 vf1 vf2 vf3 vf4 vf5 vf6 vf7 vf8 vf9 vf10
        go_wp2_with fail
        go_ret
        exact ⟨rfl, HO.out⟩
      · clear hs0
        obtain ⟨vc0, vc1, vc2, vc3, vc4, vc5, vc6, vc7, vc8, vc9, vc10, vf0, vf1, vf2, vf3, vf4, vf5, vf6, vf7, vf8, vf9, vf10, vlt⟩ := HB.out
        clear vf0 vf1 vf2 vf3 vf4 vf5 vf6 vf7 vf8 vf9 vf10
        go_wp2_with fail
        go_ret
        exact ⟨rfl, HO.out⟩
      · clear hs0
        obtain ⟨vc0, vc1, vc2, vc3, vc4, vc5, vc6, vc7, vc8, vc9, vc10, vf0, vf1, vf2, vf3, vf4, vf5, vf6, vf7, vf8, vf9, vf10, vlt⟩ := HB.out
        clear vf0 vf1 vf2 vf3 vf4 vf5 vf6 vf7 vf8 vf9 vf10
        go_wp2_with fail
        refine (C1.out _ (HN.out.more HO.out)).mono ?_
        rintro e w5 ⟨rfl, ho⟩
        clear vc0 vc1 vc2 vc3 vc4 vc5 vc6 vc7 vc8 vc9 vc10 vlt
        have HB := hide (HB.out.more ho)
        have HO := hide (o2 HO.out ho)
        clear ho
        cases b1 with
        | true =>
          obtain ⟨vc0, vc1, vc2, vc3, vc4, vc5, vc6, vc7, vc8, vc9, vc10, vf0, vf1, vf2, vf3, vf4, vf5, vf6, vf7, vf8, vf9, vf10, vlt⟩ := HB.out
          clear vf0 vf1 vf2 vf3 vf4 vf5 vf6 vf7 vf8 vf9 vf10
          go_wp2_with fail
          refine (C2.out _ (HN.out.more HO.out)).mono ?_
          rintro e w6 ⟨rfl, ho⟩
          clear vc0 vc1 vc2 vc3 vc4 vc5 vc6 vc7 vc8 vc9 vc10 vlt
          have HB := hide (HB.out.more ho)
          have HO := hide (o2 HO.out ho)
          clear ho
          cases b2 with
          | true =>
            obtain ⟨vc0, vc1, vc2, vc3, vc4, vc5, vc6, vc7, vc8, vc9, vc10, vf0, vf1, vf2, vf3, vf4, vf5, vf6, vf7, vf8, vf9, vf10, vlt⟩ := HB.out
            clear vf0 vf1 vf2 vf3 vf4 vf5 vf6 vf7 vf8 vf9 vf10
            go_wp2_with fail
            go_ret
            exact ⟨rfl, HO.out⟩
          | false =>
            obtain ⟨vc0, vc1, vc2, vc3, vc4, vc5, vc6, vc7, vc8, vc9, vc10, vf0, vf1, vf2, vf3, vf4, vf5, vf6, vf7, vf8, vf9, vf10, vlt⟩ := HB.out
            clear vf0 vf1 vf2 vf3 vf4 vf5 vf6 vf7 vf8 vf9 vf10
            go_wp2_with fail
            go_ret
            exact ⟨rfl, HO.out⟩
        | false =>
          obtain ⟨vc0, vc1, vc2, vc3, vc4, vc5, vc6, vc7, vc8, vc9, vc10, vf0, vf1, vf2, vf3, vf4, vf5, vf6, vf7, vf8, vf9, vf10, vlt⟩ := HB.out
          clear vf0 vf1 vf2 vf3 vf4 vf5 vf6 vf7 vf8 vf9 vf10
          go_wp2_with fail
          go_ret
          exact ⟨rfl, HO.out⟩
      · clear hs0
        obtain ⟨vc0, vc1, vc2, vc3, vc4, vc5, vc6, vc7, vc8, vc9, vc10, vf0, vf1, vf2, vf3, vf4, vf5, vf6, vf7, vf8, vf9, vf10, vlt⟩ := HB.out
        clear vf0 vf1 vf2 vf3 vf4 vf5 vf6 vf7 vf8 vf9 vf10
        go_wp2_with fail
        go_ret
        exact ⟨rfl, HO.out⟩
set_option maxRecDepth 100000 in
set_option maxHeartbeats 1600000 in
theorem ndone_any (w : World) (V : Vw) (q : Lo) (x : Int) (h : Sn w V q) (hx : I64 x) :
    Calls Tryz.prog 41 #[.agg #[.int .i64 V.m, .int .i64 V.next, .slice q.aA V.act.length q.cA, .int .i64 V.own, .slice q.aR V.run.length q.cR, .int .i64 V.pg.lsn, .int .i64 V.pg.kind, .int .i64 V.pg.level, .int .i64 V.pg.right, .string V.pg.high, .slice q.aP V.pg.items.length q.cP], .int .i64 x] w fun e w' => e = .returned (.bool (vnews V x)) ∧ Only (fun _ => False) w w' := by
  have C0 := hide (fun W (h : Sn W V q) => nstatus_any W V q x h hx)
  have C1 := hide (fun W (h : Sn W V q) => nsees_any W V q x h hx)
  simp only [vnews, vcom]
  obtain ⟨b0, hb0⟩ : ∃ b, vsi V x = b := ⟨_, rfl⟩
  have hs0 : 0 ≤ b0 ∧ b0 < 4 := by rw [← hb0]; exact vsi_bd _ _
  obtain ⟨b1, hb1⟩ : ∃ b, vsees V x = b := ⟨_, rfl⟩
  simp only [hb0, hb1] at C0 C1 ⊢
  clear hb0 hb1
  have HN := hide h
  clear h hx
  have HB := hide (VB.new w (.int .i64 V.m) (.int .i64 V.next) (.slice q.aA V.act.length q.cA) (.int .i64 V.own) (.slice q.aR V.run.length q.cR) (.int .i64 V.pg.lsn) (.int .i64 V.pg.kind) (.int .i64 V.pg.level) (.int .i64 V.pg.right) (.string V.pg.high) (.slice q.aP V.pg.items.length q.cP))
  have HO := hide (onlyA w (.cells #[.int .i64 V.m, .int .i64 V.next, .slice q.aA V.act.length q.cA, .int .i64 V.own, .slice q.aR V.run.length q.cR, .int .i64 V.pg.lsn, .int .i64 V.pg.kind, .int .i64 V.pg.level, .int .i64 V.pg.right, .string V.pg.high, .slice q.aP V.pg.items.length q.cP] 32))
  go_enter Tryz.func41, Tryz.ntmps41
  go_upto_region 1 with fail
  obtain ⟨W0, hW0⟩ : ∃ W, w.alloc (.cells #[.int .i64 V.m, .int .i64 V.next, .slice q.aA V.act.length q.cA, .int .i64 V.own, .slice q.aR V.run.length q.cR, .int .i64 V.pg.lsn, .int .i64 V.pg.kind, .int .i64 V.pg.level, .int .i64 V.pg.right, .string V.pg.high, .slice q.aP V.pg.items.length q.cP] 32) = W := ⟨_, rfl⟩
  rw [hW0] at HB HO ⊢
  clear hW0
  obtain ⟨vc0, vc1, vc2, vc3, vc4, vc5, vc6, vc7, vc8, vc9, vc10, vf0, vf1, vf2, vf3, vf4, vf5, vf6, vf7, vf8, vf9, vf10, vlt⟩ := HB.out
  clear vf0 vf1 vf2 vf3 vf4 vf5 vf6 vf7 vf8 vf9 vf10
  go_wp2_with fail
  refine (C0.out _ (HN.out.more HO.out)).mono ?_
  rintro e w1 ⟨rfl, ho⟩
  clear vc0 vc1 vc2 vc3 vc4 vc5 vc6 vc7 vc8 vc9 vc10 vlt
  have HB := hide (HB.out.more ho)
  have HO := hide (o2 HO.out ho)
  clear ho
  rcases four hs0.1 hs0.2 with rfl | rfl | rfl | rfl
  · clear hs0
    obtain ⟨vc0, vc1, vc2, vc3, vc4, vc5, vc6, vc7, vc8, vc9, vc10, vf0, vf1, vf2, vf3, vf4, vf5, vf6, vf7, vf8, vf9, vf10, vlt⟩ := HB.out
    clear vf0 vf1 vf2 vf3 vf4 vf5 vf6 vf7 vf8 vf9 vf10
    go_wp2_with fail
    go_ret
    exact ⟨rfl, HO.out⟩
  · clear hs0
    obtain ⟨vc0, vc1, vc2, vc3, vc4, vc5, vc6, vc7, vc8, vc9, vc10, vf0, vf1, vf2, vf3, vf4, vf5, vf6, vf7, vf8, vf9, vf10, vlt⟩ := HB.out
    clear vf0 vf1 vf2 vf3 vf4 vf5 vf6 vf7 vf8 vf9 vf10
    go_wp2_with fail
    go_ret
    exact ⟨rfl, HO.out⟩
  · clear hs0
    obtain ⟨vc0, vc1, vc2, vc3, vc4, vc5, vc6, vc7, vc8, vc9, vc10, vf0, vf1, vf2, vf3, vf4, vf5, vf6, vf7, vf8, vf9, vf10, vlt⟩ := HB.out
    clear vf0 vf1 vf2 vf3 vf4 vf5 vf6 vf7 vf8 vf9 vf10
    go_wp2_with fail
    refine (C1.out _ (HN.out.more HO.out)).mono ?_
    rintro e w2 ⟨rfl, ho⟩
    clear vc0 vc1 vc2 vc3 vc4 vc5 vc6 vc7 vc8 vc9 vc10 vlt
    have HB := hide (HB.out.more ho)
    have HO := hide (o2 HO.out ho)
    clear ho
    cases b1 with
    | true =>
      obtain ⟨vc0, vc1, vc2, vc3, vc4, vc5, vc6, vc7, vc8, vc9, vc10, vf0, vf1, vf2, vf3, vf4, vf5, vf6, vf7, vf8, vf9, vf10, vlt⟩ := HB.out
      clear vf0 vf1 vf2 vf3 vf4 vf5 vf6 vf7 vf8 vf9 vf10
      go_wp2_with fail
      go_ret
      exact ⟨rfl, HO.out⟩
    | false =>
      obtain ⟨vc0, vc1, vc2, vc3, vc4, vc5, vc6, vc7, vc8, vc9, vc10, vf0, vf1, vf2, vf3, vf4, vf5, vf6, vf7, vf8, vf9, vf10, vlt⟩ := HB.out
      clear vf0 vf1 vf2 vf3 vf4 vf5 vf6 vf7 vf8 vf9 vf10
      go_wp2_with fail
      go_ret
      exact ⟨rfl, HO.out⟩
  · clear hs0
    obtain ⟨vc0, vc1, vc2, vc3, vc4, vc5, vc6, vc7, vc8, vc9, vc10, vf0, vf1, vf2, vf3, vf4, vf5, vf6, vf7, vf8, vf9, vf10, vlt⟩ := HB.out
    clear vf0 vf1 vf2 vf3 vf4 vf5 vf6 vf7 vf8 vf9 vf10
    go_wp2_with fail
    go_ret
    exact ⟨rfl, HO.out⟩
end Go.Proofs.YtolfmodgkkjnbaaGreat
