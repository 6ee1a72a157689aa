/- Parts. -/
import Derived.Test.YtpnbhddmdfcjdaaGreatK40
set_option maxRecDepth 100000
namespace Go.Proofs.YtpnbhddmdfcjdaaGreat
open Go.RowKit
set_option maxRecDepth 100000 in
set_option maxHeartbeats 1600000 in
theorem ngone_any (w : World) (V : Vw) (q : Lo) (T : Tp) (z : Int) (h : Sn w V q) (ht : I64 T.xmin ∧ I64 T.xmax) (hz : I64 z) :
    Calls Tryz.prog 32 #[.agg #[.int .i64 V.m, .int .i64 V.next, .slice q.aA V.act.length q.cA, .int .i64 V.own, .slice q.aR V.run.length q.cR, .int .i64 V.pg.lsn, .int .i64 V.pg.kind, .int .i64 V.pg.level, .int .i64 V.pg.right, .string V.pg.high, .slice q.aP V.pg.items.length q.cP], .agg #[.int .i64 T.xmin, .int .i64 T.xmax, .bool T.fz, .string T.key, .string T.val], .int .i64 z] w fun e w' => e = .returned (.bool (vgone V T z)) ∧ Only (fun _ => False) w w' := by
  have C0 := hide (fun W (h : Sn W V q) => nstatus_any W V q T.xmin h ht.1)
  have C1 := hide (fun W (h : Sn W V q) => nstatus_any W V q T.xmax h ht.2)
  have C2 := hide (fun W (h : Sn W V q) => quiet_only (xbefore_any V.m T.xmax z W h.m ht.2 hz))
  simp only [vgone, vnever, vabo, vpast, vcom]
  obtain ⟨fz, hfz⟩ : ∃ b, T.fz = b := ⟨_, rfl⟩
  simp only [hfz] at C0 C1 C2 ⊢
  clear hfz
  obtain ⟨b0, hb0⟩ : ∃ b, vsi V T.xmin = b := ⟨_, rfl⟩
  have hs0 : 0 ≤ b0 ∧ b0 < 4 := by rw [← hb0]; exact vsi_bd _ _
  obtain ⟨b1, hb1⟩ : ∃ b, vsi V T.xmax = b := ⟨_, rfl⟩
  have hs1 : 0 ≤ b1 ∧ b1 < 4 := by rw [← hb1]; exact vsi_bd _ _
  obtain ⟨b2, hb2⟩ : ∃ b, xbef V.m T.xmax z = b := ⟨_, rfl⟩
  simp only [hb0, hb1, hb2] at C0 C1 C2 ⊢
  clear hb0 hb1 hb2
  have HN := hide h
  clear h ht hz
  have HB := hide ((VB.new w (.int .i64 V.m) (.int .i64 V.next) (.slice q.aA V.act.length q.cA) (.int .i64 V.own) (.slice q.aR V.run.length q.cR) (.int .i64 V.pg.lsn) (.int .i64 V.pg.kind) (.int .i64 V.pg.level) (.int .i64 V.pg.right) (.string V.pg.high) (.slice q.aP V.pg.items.length q.cP)).more (onlyA _ (.cells #[.int .i64 T.xmin, .int .i64 T.xmax, .bool fz, .string T.key, .string T.val] 62)))
  have HT := hide (TB.new (w.alloc (.cells #[.int .i64 V.m, .int .i64 V.next, .slice q.aA V.act.length q.cA, .int .i64 V.own, .slice q.aR V.run.length q.cR, .int .i64 V.pg.lsn, .int .i64 V.pg.kind, .int .i64 V.pg.level, .int .i64 V.pg.right, .string V.pg.high, .slice q.aP V.pg.items.length q.cP] 32)) (.int .i64 T.xmin) (.int .i64 T.xmax) (.bool fz) (.string T.key) (.string T.val))
  have HO := hide (o2 (onlyA w (.cells #[.int .i64 V.m, .int .i64 V.next, .slice q.aA V.act.length q.cA, .int .i64 V.own, .slice q.aR V.run.length q.cR, .int .i64 V.pg.lsn, .int .i64 V.pg.kind, .int .i64 V.pg.level, .int .i64 V.pg.right, .string V.pg.high, .slice q.aP V.pg.items.length q.cP] 32)) (onlyA _ (.cells #[.int .i64 T.xmin, .int .i64 T.xmax, .bool fz, .string T.key, .string T.val] 62)))
  simp only [World.size_alloc] at HT
  by_cases h0 : T.xmax = 0
  ·
    have g1 : (T.xmax != 0) = false := by simp [h0]
    have g3 : (T.xmax == 0) = true := by simp [h0]
    clear h0
    rw [g1]
    cases fz with
    | true =>
      go_enter Tryz.func32, Tryz.ntmps32
      go_upto_region 1 with fail
      obtain ⟨W0, hW0⟩ : ∃ W, (w.alloc (.cells #[.int .i64 V.m, .int .i64 V.next, .slice q.aA V.act.length q.cA, .int .i64 V.own, .slice q.aR V.run.length q.cR, .int .i64 V.pg.lsn, .int .i64 V.pg.kind, .int .i64 V.pg.level, .int .i64 V.pg.right, .string V.pg.high, .slice q.aP V.pg.items.length q.cP] 32)).alloc (.cells #[.int .i64 T.xmin, .int .i64 T.xmax, .bool true, .string T.key, .string T.val] 62) = W := ⟨_, rfl⟩
      rw [hW0] at HB HT HO ⊢
      clear hW0
      obtain ⟨vc0, vc1, vc2, vc3, vc4, vc5, vc6, vc7, vc8, vc9, vc10, vf0, vf1, vf2, vf3, vf4, vf5, vf6, vf7, vf8, vf9, vf10, vlt⟩ := HB.out
      clear vf0 vf1 vf2 vf3 vf4 vf5 vf6 vf7 vf8 vf9 vf10
      obtain ⟨tc0, tc1, tc2, tc3, tc4, tf0, tf1, tf2, tf3, tf4, tlt⟩ := HT.out
      clear tf0 tf1 tf2 tf3 tf4
      go_wp2_with fail
      go_ret
      exact ⟨rfl, HO.out⟩
    | false =>
      go_enter Tryz.func32, Tryz.ntmps32
      go_upto_region 1 with fail
      obtain ⟨W0, hW0⟩ : ∃ W, (w.alloc (.cells #[.int .i64 V.m, .int .i64 V.next, .slice q.aA V.act.length q.cA, .int .i64 V.own, .slice q.aR V.run.length q.cR, .int .i64 V.pg.lsn, .int .i64 V.pg.kind, .int .i64 V.pg.level, .int .i64 V.pg.right, .string V.pg.high, .slice q.aP V.pg.items.length q.cP] 32)).alloc (.cells #[.int .i64 T.xmin, .int .i64 T.xmax, .bool false, .string T.key, .string T.val] 62) = W := ⟨_, rfl⟩
      rw [hW0] at HB HT HO ⊢
      clear hW0
      obtain ⟨vc0, vc1, vc2, vc3, vc4, vc5, vc6, vc7, vc8, vc9, vc10, vf0, vf1, vf2, vf3, vf4, vf5, vf6, vf7, vf8, vf9, vf10, vlt⟩ := HB.out
      clear vf0 vf1 vf2 vf3 vf4 vf5 vf6 vf7 vf8 vf9 vf10
      obtain ⟨tc0, tc1, tc2, tc3, tc4, tf0, tf1, tf2, tf3, tf4, tlt⟩ := HT.out
      clear tf0 tf1 tf2 tf3 tf4
      go_wp2_with fail
      refine (C0.out _ (HN.out.more HO.out)).mono ?_
      rintro e w1 ⟨rfl, ho⟩
      clear vc0 vc1 vc2 vc3 vc4 vc5 vc6 vc7 vc8 vc9 vc10 vlt tc0 tc1 tc2 tc3 tc4 tlt
      have HB := hide (HB.out.more ho)
      have HT := hide (HT.out.more ho)
      have HO := hide (o2 HO.out ho)
      clear ho
      rcases four hs0.1 hs0.2 with rfl | rfl | rfl | rfl
      · clear hs0
        obtain ⟨vc0, vc1, vc2, vc3, vc4, vc5, vc6, vc7, vc8, vc9, vc10, vf0, vf1, vf2, vf3, vf4, vf5, vf6, vf7, vf8, vf9, vf10, vlt⟩ := HB.out
        clear vf0 vf1 vf2 vf3 vf4 vf5 vf6 vf7 vf8 vf9 vf10
        obtain ⟨tc0, tc1, tc2, tc3, tc4, tf0, tf1, tf2, tf3, tf4, tlt⟩ := HT.out
        clear tf0 tf1 tf2 tf3 tf4
        go_wp2_with fail
        go_ret
        exact ⟨rfl, HO.out⟩
      · clear hs0
        obtain ⟨vc0, vc1, vc2, vc3, vc4, vc5, vc6, vc7, vc8, vc9, vc10, vf0, vf1, vf2, vf3, vf4, vf5, vf6, vf7, vf8, vf9, vf10, vlt⟩ := HB.out
        clear vf0 vf1 vf2 vf3 vf4 vf5 vf6 vf7 vf8 vf9 vf10
        obtain ⟨tc0, tc1, tc2, tc3, tc4, tf0, tf1, tf2, tf3, tf4, tlt⟩ := HT.out
        clear tf0 tf1 tf2 tf3 tf4
        go_wp2_with fail
        go_ret
        exact ⟨rfl, HO.out⟩
      · clear hs0
        obtain ⟨vc0, vc1, vc2, vc3, vc4, vc5, vc6, vc7, vc8, vc9, vc10, vf0, vf1, vf2, vf3, vf4, vf5, vf6, vf7, vf8, vf9, vf10, vlt⟩ := HB.out
        clear vf0 vf1 vf2 vf3 vf4 vf5 vf6 vf7 vf8 vf9 vf10
        obtain ⟨tc0, tc1, tc2, tc3, tc4, tf0, tf1, tf2, tf3, tf4, tlt⟩ := HT.out
        clear tf0 tf1 tf2 tf3 tf4
        go_wp2_with fail
        go_ret
        exact ⟨rfl, HO.out⟩
      · clear hs0
        obtain ⟨vc0, vc1, vc2, vc3, vc4, vc5, vc6, vc7, vc8, vc9, vc10, vf0, vf1, vf2, vf3, vf4, vf5, vf6, vf7, vf8, vf9, vf10, vlt⟩ := HB.out
        clear vf0 vf1 vf2 vf3 vf4 vf5 vf6 vf7 vf8 vf9 vf10
        obtain ⟨tc0, tc1, tc2, tc3, tc4, tf0, tf1, tf2, tf3, tf4, tlt⟩ := HT.out
        clear tf0 tf1 tf2 tf3 tf4
        go_wp2_with fail
        go_ret
        exact ⟨rfl, HO.out⟩
  ·
    have g1 : (T.xmax != 0) = true := by simp [h0]
    have g3 : (T.xmax == 0) = false := by simp [h0]
    clear h0
    rw [g1]
    cases fz with
    | true =>
      go_enter Tryz.func32, Tryz.ntmps32
      go_upto_region 1 with fail
      obtain ⟨W0, hW0⟩ : ∃ W, (w.alloc (.cells #[.int .i64 V.m, .int .i64 V.next, .slice q.aA V.act.length q.cA, .int .i64 V.own, .slice q.aR V.run.length q.cR, .int .i64 V.pg.lsn, .int .i64 V.pg.kind, .int .i64 V.pg.level, .int .i64 V.pg.right, .string V.pg.high, .slice q.aP V.pg.items.length q.cP] 32)).alloc (.cells #[.int .i64 T.xmin, .int .i64 T.xmax, .bool true, .string T.key, .string T.val] 62) = W := ⟨_, rfl⟩
      rw [hW0] at HB HT HO ⊢
      clear hW0
      obtain ⟨vc0, vc1, vc2, vc3, vc4, vc5, vc6, vc7, vc8, vc9, vc10, vf0, vf1, vf2, vf3, vf4, vf5, vf6, vf7, vf8, vf9, vf10, vlt⟩ := HB.out
      clear vf0 vf1 vf2 vf3 vf4 vf5 vf6 vf7 vf8 vf9 vf10
      obtain ⟨tc0, tc1, tc2, tc3, tc4, tf0, tf1, tf2, tf3, tf4, tlt⟩ := HT.out
      clear tf0 tf1 tf2 tf3 tf4
      go_wp2_with fail
      refine (C1.out _ (HN.out.more HO.out)).mono ?_
      rintro e w2 ⟨rfl, ho⟩
      clear vc0 vc1 vc2 vc3 vc4 vc5 vc6 vc7 vc8 vc9 vc10 vlt tc0 tc1 tc2 tc3 tc4 tlt
      have HB := hide (HB.out.more ho)
      have HT := hide (HT.out.more ho)
      have HO := hide (o2 HO.out ho)
      clear ho
      rcases four hs1.1 hs1.2 with rfl | rfl | rfl | rfl
      · clear hs1
        obtain ⟨vc0, vc1, vc2, vc3, vc4, vc5, vc6, vc7, vc8, vc9, vc10, vf0, vf1, vf2, vf3, vf4, vf5, vf6, vf7, vf8, vf9, vf10, vlt⟩ := HB.out
        clear vf0 vf1 vf2 vf3 vf4 vf5 vf6 vf7 vf8 vf9 vf10
        obtain ⟨tc0, tc1, tc2, tc3, tc4, tf0, tf1, tf2, tf3, tf4, tlt⟩ := HT.out
        clear tf0 tf1 tf2 tf3 tf4
        go_wp2_with fail
        go_ret
        exact ⟨rfl, HO.out⟩
      · clear hs1
        obtain ⟨vc0, vc1, vc2, vc3, vc4, vc5, vc6, vc7, vc8, vc9, vc10, vf0, vf1, vf2, vf3, vf4, vf5, vf6, vf7, vf8, vf9, vf10, vlt⟩ := HB.out
        clear vf0 vf1 vf2 vf3 vf4 vf5 vf6 vf7 vf8 vf9 vf10
        obtain ⟨tc0, tc1, tc2, tc3, tc4, tf0, tf1, tf2, tf3, tf4, tlt⟩ := HT.out
        clear tf0 tf1 tf2 tf3 tf4
        go_wp2_with fail
        go_ret
        exact ⟨rfl, HO.out⟩
      · clear hs1
        obtain ⟨vc0, vc1, vc2, vc3, vc4, vc5, vc6, vc7, vc8, vc9, vc10, vf0, vf1, vf2, vf3, vf4, vf5, vf6, vf7, vf8, vf9, vf10, vlt⟩ := HB.out
        clear vf0 vf1 vf2 vf3 vf4 vf5 vf6 vf7 vf8 vf9 vf10
        obtain ⟨tc0, tc1, tc2, tc3, tc4, tf0, tf1, tf2, tf3, tf4, tlt⟩ := HT.out
        clear tf0 tf1 tf2 tf3 tf4
        go_wp2_with fail
        refine (C2.out _ (HN.out.more HO.out)).mono ?_
        rintro e w3 ⟨rfl, ho⟩
        clear vc0 vc1 vc2 vc3 vc4 vc5 vc6 vc7 vc8 vc9 vc10 vlt tc0 tc1 tc2 tc3 tc4 tlt
        have HB := hide (HB.out.more ho)
        have HT := hide (HT.out.more ho)
        have HO := hide (o2 HO.out ho)
        clear ho
        cases b2 with
        | true =>
          obtain ⟨vc0, vc1, vc2, vc3, vc4, vc5, vc6, vc7, vc8, vc9, vc10, vf0, vf1, vf2, vf3, vf4, vf5, vf6, vf7, vf8, vf9, vf10, vlt⟩ := HB.out
          clear vf0 vf1 vf2 vf3 vf4 vf5 vf6 vf7 vf8 vf9 vf10
          obtain ⟨tc0, tc1, tc2, tc3, tc4, tf0, tf1, tf2, tf3, tf4, tlt⟩ := HT.out
          clear tf0 tf1 tf2 tf3 tf4
          go_wp2_with fail
          go_ret
          exact ⟨rfl, HO.out⟩
        | false =>
          obtain ⟨vc0, vc1, vc2, vc3, vc4, vc5, vc6, vc7, vc8, vc9, vc10, vf0, vf1, vf2, vf3, vf4, vf5, vf6, vf7, vf8, vf9, vf10, vlt⟩ := HB.out
          clear vf0 vf1 vf2 vf3 vf4 vf5 vf6 vf7 vf8 vf9 vf10
          obtain ⟨tc0, tc1, tc2, tc3, tc4, tf0, tf1, tf2, tf3, tf4, tlt⟩ := HT.out
          clear tf0 tf1 tf2 tf3 tf4
          go_wp2_with fail
          go_ret
          exact ⟨rfl, HO.out⟩
      · clear hs1
        obtain ⟨vc0, vc1, vc2, vc3, vc4, vc5, vc6, vc7, vc8, vc9, vc10, vf0, vf1, vf2, vf3, vf4, vf5, vf6, vf7, vf8, vf9, vf10, vlt⟩ := HB.out
        clear vf0 vf1 vf2 vf3 vf4 vf5 vf6 vf7 vf8 vf9 vf10
        obtain ⟨tc0, tc1, tc2, tc3, tc4, tf0, tf1, tf2, tf3, tf4, tlt⟩ := HT.out
        clear tf0 tf1 tf2 tf3 tf4
        go_wp2_with fail
        go_ret
        exact ⟨rfl, HO.out⟩
    | false =>
      go_enter Tryz.func32, Tryz.ntmps32
      go_upto_region 1 with fail
      obtain ⟨W0, hW0⟩ : ∃ W, (w.alloc (.cells #[.int .i64 V.m, .int .i64 V.next, .slice q.aA V.act.length q.cA, .int .i64 V.own, .slice q.aR V.run.length q.cR, .int .i64 V.pg.lsn, .int .i64 V.pg.kind, .int .i64 V.pg.level, .int .i64 V.pg.right, .string V.pg.high, .slice q.aP V.pg.items.length q.cP] 32)).alloc (.cells #[.int .i64 T.xmin, .int .i64 T.xmax, .bool false, .string T.key, .string T.val] 62) = W := ⟨_, rfl⟩
      rw [hW0] at HB HT HO ⊢
      clear hW0
      obtain ⟨vc0, vc1, vc2, vc3, vc4, vc5, vc6, vc7, vc8, vc9, vc10, vf0, vf1, vf2, vf3, vf4, vf5, vf6, vf7, vf8, vf9, vf10, vlt⟩ := HB.out
      clear vf0 vf1 vf2 vf3 vf4 vf5 vf6 vf7 vf8 vf9 vf10
      obtain ⟨tc0, tc1, tc2, tc3, tc4, tf0, tf1, tf2, tf3, tf4, tlt⟩ := HT.out
      clear tf0 tf1 tf2 tf3 tf4
      go_wp2_with fail
      refine (C0.out _ (HN.out.more HO.out)).mono ?_
      rintro e w4 ⟨rfl, ho⟩
      clear vc0 vc1 vc2 vc3 vc4 vc5 vc6 vc7 vc8 vc9 vc10 vlt tc0 tc1 tc2 tc3 tc4 tlt
      have HB := hide (HB.out.more ho)
      have HT := hide (HT.out.more ho)
      have HO := hide (o2 HO.out ho)
      clear ho
      rcases four hs0.1 hs0.2 with rfl | rfl | rfl | rfl
      · clear hs0
        obtain ⟨vc0, vc1, vc2, vc3, vc4, vc5, vc6, vc7, vc8, vc9, vc10, vf0, vf1, vf2, vf3, vf4, vf5, vf6, vf7, vf8, vf9, vf10, vlt⟩ := HB.out
        clear vf0 vf1 vf2 vf3 vf4 vf5 vf6 vf7 vf8 vf9 vf10
        obtain ⟨tc0, tc1, tc2, tc3, tc4, tf0, tf1, tf2, tf3, tf4, tlt⟩ := HT.out
        clear tf0 tf1 tf2 tf3 tf4
        go_wp2_with fail
        refine (C1.out _ (HN.out.more HO.out)).mono ?_
        rintro e w5 ⟨rfl, ho⟩
        clear vc0 vc1 vc2 vc3 vc4 vc5 vc6 vc7 vc8 vc9 vc10 vlt tc0 tc1 tc2 tc3 tc4 tlt
        have HB := hide (HB.out.more ho)
        have HT := hide (HT.out.more ho)
        have HO := hide (o2 HO.out ho)
        clear ho
        rcases four hs1.1 hs1.2 with rfl | rfl | rfl | rfl
        · clear hs1
          obtain ⟨vc0, vc1, vc2, vc3, vc4, vc5, vc6, vc7, vc8, vc9, vc10, vf0, vf1, vf2, vf3, vf4, vf5, vf6, vf7, vf8, vf9, vf10, vlt⟩ := HB.out
          clear vf0 vf1 vf2 vf3 vf4 vf5 vf6 vf7 vf8 vf9 vf10
          obtain ⟨tc0, tc1, tc2, tc3, tc4, tf0, tf1, tf2, tf3, tf4, tlt⟩ := HT.out
          clear tf0 tf1 tf2 tf3 tf4
          go_wp2_with fail
          go_ret
          exact ⟨rfl, HO.out⟩
        · clear hs1
          obtain ⟨vc0, vc1, vc2, vc3, vc4, vc5, vc6, vc7, vc8, vc9, vc10, vf0, vf1, vf2, vf3, vf4, vf5, vf6, vf7, vf8, vf9, vf10, vlt⟩ := HB.out
          clear vf0 vf1 vf2 vf3 vf4 vf5 vf6 vf7 vf8 vf9 vf10
          obtain ⟨tc0, tc1, tc2, tc3, tc4, tf0, tf1, tf2, tf3, tf4, tlt⟩ := HT.out
          clear tf0 tf1 tf2 tf3 tf4
          go_wp2_with fail
          go_ret
          exact ⟨rfl, HO.out⟩
        · clear hs1
          obtain ⟨vc0, vc1, vc2, vc3, vc4, vc5, vc6, vc7, vc8, vc9, vc10, vf0, vf1, vf2, vf3, vf4, vf5, vf6, vf7, vf8, vf9, vf10, vlt⟩ := HB.out
          clear vf0 vf1 vf2 vf3 vf4 vf5 vf6 vf7 vf8 vf9 vf10
          obtain ⟨tc0, tc1, tc2, tc3, tc4, tf0, tf1, tf2, tf3, tf4, tlt⟩ := HT.out
          clear tf0 tf1 tf2 tf3 tf4
          go_wp2_with fail
          refine (C2.out _ (HN.out.more HO.out)).mono ?_
          rintro e w6 ⟨rfl, ho⟩
          clear vc0 vc1 vc2 vc3 vc4 vc5 vc6 vc7 vc8 vc9 vc10 vlt tc0 tc1 tc2 tc3 tc4 tlt
          have HB := hide (HB.out.more ho)
          have HT := hide (HT.out.more ho)
          have HO := hide (o2 HO.out ho)
          clear ho
          cases b2 with
          | true =>
            obtain ⟨vc0, vc1, vc2, vc3, vc4, vc5, vc6, vc7, vc8, vc9, vc10, vf0, vf1, vf2, vf3, vf4, vf5, vf6, vf7, vf8, vf9, vf10, vlt⟩ := HB.out
            clear vf0 vf1 vf2 vf3 vf4 vf5 vf6 vf7 vf8 vf9 vf10
            obtain ⟨tc0, tc1, tc2, tc3, tc4, tf0, tf1, tf2, tf3, tf4, tlt⟩ := HT.out
            clear tf0 tf1 tf2 tf3 tf4
            go_wp2_with fail
            go_ret
            exact ⟨rfl, HO.out⟩
          | false =>
            obtain ⟨vc0, vc1, vc2, vc3, vc4, vc5, vc6, vc7, vc8, vc9, vc10, vf0, vf1, vf2, vf3, vf4, vf5, vf6, vf7, vf8, vf9, vf10, vlt⟩ := HB.out
            clear vf0 vf1 vf2 vf3 vf4 vf5 vf6 vf7 vf8 vf9 vf10
            obtain ⟨tc0, tc1, tc2, tc3, tc4, tf0, tf1, tf2, tf3, tf4, tlt⟩ := HT.out
            clear tf0 tf1 tf2 tf3 tf4
            go_wp2_with fail
            go_ret
            exact ⟨rfl, HO.out⟩
        · clear hs1
          obtain ⟨vc0, vc1, vc2, vc3, vc4, vc5, vc6, vc7, vc8, vc9, vc10, vf0, vf1, vf2, vf3, vf4, vf5, vf6, vf7, vf8, vf9, vf10, vlt⟩ := HB.out
          clear vf0 vf1 vf2 vf3 vf4 vf5 vf6 vf7 vf8 vf9 vf10
          obtain ⟨tc0, tc1, tc2, tc3, tc4, tf0, tf1, tf2, tf3, tf4, tlt⟩ := HT.out
          clear tf0 tf1 tf2 tf3 tf4
          go_wp2_with fail
          go_ret
          exact ⟨rfl, HO.out⟩
      · clear hs0
        obtain ⟨vc0, vc1, vc2, vc3, vc4, vc5, vc6, vc7, vc8, vc9, vc10, vf0, vf1, vf2, vf3, vf4, vf5, vf6, vf7, vf8, vf9, vf10, vlt⟩ := HB.out
        clear vf0 vf1 vf2 vf3 vf4 vf5 vf6 vf7 vf8 vf9 vf10
        obtain ⟨tc0, tc1, tc2, tc3, tc4, tf0, tf1, tf2, tf3, tf4, tlt⟩ := HT.out
        clear tf0 tf1 tf2 tf3 tf4
        go_wp2_with fail
        refine (C1.out _ (HN.out.more HO.out)).mono ?_
        rintro e w7 ⟨rfl, ho⟩
        clear vc0 vc1 vc2 vc3 vc4 vc5 vc6 vc7 vc8 vc9 vc10 vlt tc0 tc1 tc2 tc3 tc4 tlt
        have HB := hide (HB.out.more ho)
        have HT := hide (HT.out.more ho)
        have HO := hide (o2 HO.out ho)
        clear ho
        rcases four hs1.1 hs1.2 with rfl | rfl | rfl | rfl
        · clear hs1
          obtain ⟨vc0, vc1, vc2, vc3, vc4, vc5, vc6, vc7, vc8, vc9, vc10, vf0, vf1, vf2, vf3, vf4, vf5, vf6, vf7, vf8, vf9, vf10, vlt⟩ := HB.out
          clear vf0 vf1 vf2 vf3 vf4 vf5 vf6 vf7 vf8 vf9 vf10
          obtain ⟨tc0, tc1, tc2, tc3, tc4, tf0, tf1, tf2, tf3, tf4, tlt⟩ := HT.out
          clear tf0 tf1 tf2 tf3 tf4
          go_wp2_with fail
          go_ret
          exact ⟨rfl, HO.out⟩
        · clear hs1
          obtain ⟨vc0, vc1, vc2, vc3, vc4, vc5, vc6, vc7, vc8, vc9, vc10, vf0, vf1, vf2, vf3, vf4, vf5, vf6, vf7, vf8, vf9, vf10, vlt⟩ := HB.out
          clear vf0 vf1 vf2 vf3 vf4 vf5 vf6 vf7 vf8 vf9 vf10
          obtain ⟨tc0, tc1, tc2, tc3, tc4, tf0, tf1, tf2, tf3, tf4, tlt⟩ := HT.out
          clear tf0 tf1 tf2 tf3 tf4
          go_wp2_with fail
          go_ret
          exact ⟨rfl, HO.out⟩
        · clear hs1
          obtain ⟨vc0, vc1, vc2, vc3, vc4, vc5, vc6, vc7, vc8, vc9, vc10, vf0, vf1, vf2, vf3, vf4, vf5, vf6, vf7, vf8, vf9, vf10, vlt⟩ := HB.out
          clear vf0 vf1 vf2 vf3 vf4 vf5 vf6 vf7 vf8 vf9 vf10
          obtain ⟨tc0, tc1, tc2, tc3, tc4, tf0, tf1, tf2, tf3, tf4, tlt⟩ := HT.out
          clear tf0 tf1 tf2 tf3 tf4
          go_wp2_with fail
          refine (C2.out _ (HN.out.more HO.out)).mono ?_
          rintro e w8 ⟨rfl, ho⟩
          clear vc0 vc1 vc2 vc3 vc4 vc5 vc6 vc7 vc8 vc9 vc10 vlt tc0 tc1 tc2 tc3 tc4 tlt
          have HB := hide (HB.out.more ho)
          have HT := hide (HT.out.more ho)
          have HO := hide (o2 HO.out ho)
          clear ho
          cases b2 with
          | true =>
            obtain ⟨vc0, vc1, vc2, vc3, vc4, vc5, vc6, vc7, vc8, vc9, vc10, vf0, vf1, vf2, vf3, vf4, vf5, vf6, vf7, vf8, vf9, vf10, vlt⟩ := HB.out
            clear vf0 vf1 vf2 vf3 vf4 vf5 vf6 vf7 vf8 vf9 vf10
            obtain ⟨tc0, tc1, tc2, tc3, tc4, tf0, tf1, tf2, tf3, tf4, tlt⟩ := HT.out
            clear tf0 tf1 tf2 tf3 tf4
            go_wp2_with fail
            go_ret
            exact ⟨rfl, HO.out⟩
          | false =>
            obtain ⟨vc0, vc1, vc2, vc3, vc4, vc5, vc6, vc7, vc8, vc9, vc10, vf0, vf1, vf2, vf3, vf4, vf5, vf6, vf7, vf8, vf9, vf10, vlt⟩ := HB.out
            clear vf0 vf1 vf2 vf3 vf4 vf5 vf6 vf7 vf8 vf9 vf10
            obtain ⟨tc0, tc1, tc2, tc3, tc4, tf0, tf1, tf2, tf3, tf4, tlt⟩ := HT.out
            clear tf0 tf1 tf2 tf3 tf4
            go_wp2_with fail
            go_ret
            exact ⟨rfl, HO.out⟩
        · clear hs1
          obtain ⟨vc0, vc1, vc2, vc3, vc4, vc5, vc6, vc7, vc8, vc9, vc10, vf0, vf1, vf2, vf3, vf4, vf5, vf6, vf7, vf8, vf9, vf10, vlt⟩ := HB.out
          clear vf0 vf1 vf2 vf3 vf4 vf5 vf6 vf7 vf8 vf9 vf10
          obtain ⟨tc0, tc1, tc2, tc3, tc4, tf0, tf1, tf2, tf3, tf4, tlt⟩ := HT.out
          clear tf0 tf1 tf2 tf3 tf4
          go_wp2_with fail
          go_ret
          exact ⟨rfl, HO.out⟩
      · clear hs0
        obtain ⟨vc0, vc1, vc2, vc3, vc4, vc5, vc6, vc7, vc8, vc9, vc10, vf0, vf1, vf2, vf3, vf4, vf5, vf6, vf7, vf8, vf9, vf10, vlt⟩ := HB.out
        clear vf0 vf1 vf2 vf3 vf4 vf5 vf6 vf7 vf8 vf9 vf10
        obtain ⟨tc0, tc1, tc2, tc3, tc4, tf0, tf1, tf2, tf3, tf4, tlt⟩ := HT.out
        clear tf0 tf1 tf2 tf3 tf4
        go_wp2_with fail
        refine (C1.out _ (HN.out.more HO.out)).mono ?_
        rintro e w9 ⟨rfl, ho⟩
        clear vc0 vc1 vc2 vc3 vc4 vc5 vc6 vc7 vc8 vc9 vc10 vlt tc0 tc1 tc2 tc3 tc4 tlt
        have HB := hide (HB.out.more ho)
        have HT := hide (HT.out.more ho)
        have HO := hide (o2 HO.out ho)
        clear ho
        rcases four hs1.1 hs1.2 with rfl | rfl | rfl | rfl
        · clear hs1
          obtain ⟨vc0, vc1, vc2, vc3, vc4, vc5, vc6, vc7, vc8, vc9, vc10, vf0, vf1, vf2, vf3, vf4, vf5, vf6, vf7, vf8, vf9, vf10, vlt⟩ := HB.out
          clear vf0 vf1 vf2 vf3 vf4 vf5 vf6 vf7 vf8 vf9 vf10
          obtain ⟨tc0, tc1, tc2, tc3, tc4, tf0, tf1, tf2, tf3, tf4, tlt⟩ := HT.out
          clear tf0 tf1 tf2 tf3 tf4
          go_wp2_with fail
          go_ret
          exact ⟨rfl, HO.out⟩
        · clear hs1
          obtain ⟨vc0, vc1, vc2, vc3, vc4, vc5, vc6, vc7, vc8, vc9, vc10, vf0, vf1, vf2, vf3, vf4, vf5, vf6, vf7, vf8, vf9, vf10, vlt⟩ := HB.out
          clear vf0 vf1 vf2 vf3 vf4 vf5 vf6 vf7 vf8 vf9 vf10
          obtain ⟨tc0, tc1, tc2, tc3, tc4, tf0, tf1, tf2, tf3, tf4, tlt⟩ := HT.out
          clear tf0 tf1 tf2 tf3 tf4
          go_wp2_with fail
          go_ret
          exact ⟨rfl, HO.out⟩
        · clear hs1
          obtain ⟨vc0, vc1, vc2, vc3, vc4, vc5, vc6, vc7, vc8, vc9, vc10, vf0, vf1, vf2, vf3, vf4, vf5, vf6, vf7, vf8, vf9, vf10, vlt⟩ := HB.out
          clear vf0 vf1 vf2 vf3 vf4 vf5 vf6 vf7 vf8 vf9 vf10
          obtain ⟨tc0, tc1, tc2, tc3, tc4, tf0, tf1, tf2, tf3, tf4, tlt⟩ := HT.out
          clear tf0 tf1 tf2 tf3 tf4
          go_wp2_with fail
          refine (C2.out _ (HN.out.more HO.out)).mono ?_
          rintro e w10 ⟨rfl, ho⟩
          clear vc0 vc1 vc2 vc3 vc4 vc5 vc6 vc7 vc8 vc9 vc10 vlt tc0 tc1 tc2 tc3 tc4 tlt
          have HB := hide (HB.out.more ho)
          have HT := hide (HT.out.more ho)
          have HO := hide (o2 HO.out ho)
          clear ho
          cases b2 with
          | true =>
            obtain ⟨vc0, vc1, vc2, vc3, vc4, vc5, vc6, vc7, vc8, vc9, vc10, vf0, vf1, vf2, vf3, vf4, vf5, vf6, vf7, vf8, vf9, vf10, vlt⟩ := HB.out
            clear vf0 vf1 vf2 vf3 vf4 vf5 vf6 vf7 vf8 vf9 vf10
            obtain ⟨tc0, tc1, tc2, tc3, tc4, tf0, tf1, tf2, tf3, tf4, tlt⟩ := HT.out
            clear tf0 tf1 tf2 tf3 tf4
            go_wp2_with fail
            go_ret
            exact ⟨rfl, HO.out⟩
          | false =>
            obtain ⟨vc0, vc1, vc2, vc3, vc4, vc5, vc6, vc7, vc8, vc9, vc10, vf0, vf1, vf2, vf3, vf4, vf5, vf6, vf7, vf8, vf9, vf10, vlt⟩ := HB.out
            clear vf0 vf1 vf2 vf3 vf4 vf5 vf6 vf7 vf8 vf9 vf10
            obtain ⟨tc0, tc1, tc2, tc3, tc4, tf0, tf1, tf2, tf3, tf4, tlt⟩ := HT.out
            clear tf0 tf1 tf2 tf3 tf4
            go_wp2_with fail
            go_ret
            exact ⟨rfl, HO.out⟩
        · clear hs1
          obtain ⟨vc0, vc1, vc2, vc3, vc4, vc5, vc6, vc7, vc8, vc9, vc10, vf0, vf1, vf2, vf3, vf4, vf5, vf6, vf7, vf8, vf9, vf10, vlt⟩ := HB.out
          clear vf0 vf1 vf2 vf3 vf4 vf5 vf6 vf7 vf8 vf9 vf10
          obtain ⟨tc0, tc1, tc2, tc3, tc4, tf0, tf1, tf2, tf3, tf4, tlt⟩ := HT.out
          clear tf0 tf1 tf2 tf3 tf4
          go_wp2_with fail
          go_ret
          exact ⟨rfl, HO.out⟩
      · clear hs0
        obtain ⟨vc0, vc1, vc2, vc3, vc4, vc5, vc6, vc7, vc8, vc9, vc10, vf0, vf1, vf2, vf3, vf4, vf5, vf6, vf7, vf8, vf9, vf10, vlt⟩ := HB.out
        clear vf0 vf1 vf2 vf3 vf4 vf5 vf6 vf7 vf8 vf9 vf10
        obtain ⟨tc0, tc1, tc2, tc3, tc4, tf0, tf1, tf2, tf3, tf4, tlt⟩ := HT.out
        clear tf0 tf1 tf2 tf3 tf4
        go_wp2_with fail
        go_ret
        exact ⟨rfl, HO.out⟩
set_option maxRecDepth 100000 in
set_option maxHeartbeats 1600000 in
theorem nold_any (w : World) (V : Vw) (q : Lo) (T : Tp) (z : Int) (h : Sn w V q) (ht : I64 T.xmin ∧ I64 T.xmax) (hz : I64 z) :
    Calls Tryz.prog 33 #[.agg #[.int .i64 V.m, .int .i64 V.next, .slice q.aA V.act.length q.cA, .int .i64 V.own, .slice q.aR V.run.length q.cR, .int .i64 V.pg.lsn, .int .i64 V.pg.kind, .int .i64 V.pg.level, .int .i64 V.pg.right, .string V.pg.high, .slice q.aP V.pg.items.length q.cP], .agg #[.int .i64 T.xmin, .int .i64 T.xmax, .bool T.fz, .string T.key, .string T.val], .int .i64 z] w fun e w' => e = .returned (.bool (vold V T z)) ∧ Only (fun _ => False) w w' := by
  have C0 := hide (fun W (h : Sn W V q) => nstatus_any W V q T.xmin h ht.1)
  have C1 := hide (fun W (h : Sn W V q) => quiet_only (xbefore_any V.m T.xmin z W h.m ht.1 hz))
  simp only [vold, vpast, vcom]
  obtain ⟨fz, hfz⟩ : ∃ b, T.fz = b := ⟨_, rfl⟩
  simp only [hfz] at C0 C1 ⊢
  clear hfz
  obtain ⟨b0, hb0⟩ : ∃ b, vsi V T.xmin = b := ⟨_, rfl⟩
  have hs0 : 0 ≤ b0 ∧ b0 < 4 := by rw [← hb0]; exact vsi_bd _ _
  obtain ⟨b1, hb1⟩ : ∃ b, xbef V.m T.xmin z = b := ⟨_, rfl⟩
  simp only [hb0, hb1] at C0 C1 ⊢
  clear hb0 hb1
  have HN := hide h
  clear h ht hz
  have HB := hide ((VB.new w (.int .i64 V.m) (.int .i64 V.next) (.slice q.aA V.act.length q.cA) (.int .i64 V.own) (.slice q.aR V.run.length q.cR) (.int .i64 V.pg.lsn) (.int .i64 V.pg.kind) (.int .i64 V.pg.level) (.int .i64 V.pg.right) (.string V.pg.high) (.slice q.aP V.pg.items.length q.cP)).more (onlyA _ (.cells #[.int .i64 T.xmin, .int .i64 T.xmax, .bool fz, .string T.key, .string T.val] 62)))
  have HT := hide (TB.new (w.alloc (.cells #[.int .i64 V.m, .int .i64 V.next, .slice q.aA V.act.length q.cA, .int .i64 V.own, .slice q.aR V.run.length q.cR, .int .i64 V.pg.lsn, .int .i64 V.pg.kind, .int .i64 V.pg.level, .int .i64 V.pg.right, .string V.pg.high, .slice q.aP V.pg.items.length q.cP] 32)) (.int .i64 T.xmin) (.int .i64 T.xmax) (.bool fz) (.string T.key) (.string T.val))
  have HO := hide (o2 (onlyA w (.cells #[.int .i64 V.m, .int .i64 V.next, .slice q.aA V.act.length q.cA, .int .i64 V.own, .slice q.aR V.run.length q.cR, .int .i64 V.pg.lsn, .int .i64 V.pg.kind, .int .i64 V.pg.level, .int .i64 V.pg.right, .string V.pg.high, .slice q.aP V.pg.items.length q.cP] 32)) (onlyA _ (.cells #[.int .i64 T.xmin, .int .i64 T.xmax, .bool fz, .string T.key, .string T.val] 62)))
  simp only [World.size_alloc] at HT
  cases fz with
  | true =>
    go_enter Tryz.func33, Tryz.ntmps33
    go_upto_region 1 with fail
    obtain ⟨W0, hW0⟩ : ∃ W, (w.alloc (.cells #[.int .i64 V.m, .int .i64 V.next, .slice q.aA V.act.length q.cA, .int .i64 V.own, .slice q.aR V.run.length q.cR, .int .i64 V.pg.lsn, .int .i64 V.pg.kind, .int .i64 V.pg.level, .int .i64 V.pg.right, .string V.pg.high, .slice q.aP V.pg.items.length q.cP] 32)).alloc (.cells #[.int .i64 T.xmin, .int .i64 T.xmax, .bool true, .string T.key, .string T.val] 62) = W := ⟨_, rfl⟩
    rw [hW0] at HB HT HO ⊢
    clear hW0
    obtain ⟨vc0, vc1, vc2, vc3, vc4, vc5, vc6, vc7, vc8, vc9, vc10, vf0, vf1, vf2, vf3, vf4, vf5, vf6, vf7, vf8, vf9, vf10, vlt⟩ := HB.out
    clear vf0 vf1 vf2 vf3 vf4 vf5 vf6 vf7 vf8 vf9 vf10
    obtain ⟨tc0, tc1, tc2, tc3, tc4, tf0, tf1, tf2, tf3, tf4, tlt⟩ := HT.out
    clear tf0 tf1 tf2 tf3 tf4
    go_wp2_with fail
    go_ret
    exact ⟨rfl, HO.out⟩
  | false =>
    go_enter Tryz.func33, Tryz.ntmps33
    go_upto_region 1 with fail
    obtain ⟨W0, hW0⟩ : ∃ W, (w.alloc (.cells #[.int .i64 V.m, .int .i64 V.next, .slice q.aA V.act.length q.cA, .int .i64 V.own, .slice q.aR V.run.length q.cR, .int .i64 V.pg.lsn, .int .i64 V.pg.kind, .int .i64 V.pg.level, .int .i64 V.pg.right, .string V.pg.high, .slice q.aP V.pg.items.length q.cP] 32)).alloc (.cells #[.int .i64 T.xmin, .int .i64 T.xmax, .bool false, .string T.key, .string T.val] 62) = W := ⟨_, rfl⟩
    rw [hW0] at HB HT HO ⊢
    clear hW0
    obtain ⟨vc0, vc1, vc2, vc3, vc4, vc5, vc6, vc7, vc8, vc9, vc10, vf0, vf1, vf2, vf3, vf4, vf5, vf6, vf7, vf8, vf9, vf10, vlt⟩ := HB.out
    clear vf0 vf1 vf2 vf3 vf4 vf5 vf6 vf7 vf8 vf9 vf10
    obtain ⟨tc0, tc1, tc2, tc3, tc4, tf0, tf1, tf2, tf3, tf4, tlt⟩ := HT.out
    clear tf0 tf1 tf2 tf3 tf4
    go_wp2_with fail
    refine (C0.out _ (HN.out.more HO.out)).mono ?_
    rintro e w1 ⟨rfl, ho⟩
    clear vc0 vc1 vc2 vc3 vc4 vc5 vc6 vc7 vc8 vc9 vc10 vlt tc0 tc1 tc2 tc3 tc4 tlt
    have HB := hide (HB.out.more ho)
    have HT := hide (HT.out.more ho)
    have HO := hide (o2 HO.out ho)
    clear ho
    rcases four hs0.1 hs0.2 with rfl | rfl | rfl | rfl
    · clear hs0
      obtain ⟨vc0, vc1, vc2, vc3, vc4, vc5, vc6, vc7, vc8, vc9, vc10, vf0, vf1, vf2, vf3, vf4, vf5, vf6, vf7, vf8, vf9, vf10, vlt⟩ := HB.out
      clear vf0 vf1 vf2 vf3 vf4 vf5 vf6 vf7 vf8 vf9 vf10
      obtain ⟨tc0, tc1, tc2, tc3, tc4, tf0, tf1, tf2, tf3, tf4, tlt⟩ := HT.out
      clear tf0 tf1 tf2 tf3 tf4
      go_wp2_with fail
      go_ret
      exact ⟨rfl, HO.out⟩
    · clear hs0
      obtain ⟨vc0, vc1, vc2, vc3, vc4, vc5, vc6, vc7, vc8, vc9, vc10, vf0, vf1, vf2, vf3, vf4, vf5, vf6, vf7, vf8, vf9, vf10, vlt⟩ := HB.out
      clear vf0 vf1 vf2 vf3 vf4 vf5 vf6 vf7 vf8 vf9 vf10
      obtain ⟨tc0, tc1, tc2, tc3, tc4, tf0, tf1, tf2, tf3, tf4, tlt⟩ := HT.out
      clear tf0 tf1 tf2 tf3 tf4
      go_wp2_with fail
      go_ret
      exact ⟨rfl, HO.out⟩
    · clear hs0
      obtain ⟨vc0, vc1, vc2, vc3, vc4, vc5, vc6, vc7, vc8, vc9, vc10, vf0, vf1, vf2, vf3, vf4, vf5, vf6, vf7, vf8, vf9, vf10, vlt⟩ := HB.out
      clear vf0 vf1 vf2 vf3 vf4 vf5 vf6 vf7 vf8 vf9 vf10
      obtain ⟨tc0, tc1, tc2, tc3, tc4, tf0, tf1, tf2, tf3, tf4, tlt⟩ := HT.out
      clear tf0 tf1 tf2 tf3 tf4
      go_wp2_with fail
      refine (C1.out _ (HN.out.more HO.out)).mono ?_
      rintro e w2 ⟨rfl, ho⟩
      clear vc0 vc1 vc2 vc3 vc4 vc5 vc6 vc7 vc8 vc9 vc10 vlt tc0 tc1 tc2 tc3 tc4 tlt
      have HB := hide (HB.out.more ho)
      have HT := hide (HT.out.more ho)
      have HO := hide (o2 HO.out ho)
      clear ho
      cases b1 with
      | true =>
        obtain ⟨vc0, vc1, vc2, vc3, vc4, vc5, vc6, vc7, vc8, vc9, vc10, vf0, vf1, vf2, vf3, vf4, vf5, vf6, vf7, vf8, vf9, vf10, vlt⟩ := HB.out
        clear vf0 vf1 vf2 vf3 vf4 vf5 vf6 vf7 vf8 vf9 vf10
        obtain ⟨tc0, tc1, tc2, tc3, tc4, tf0, tf1, tf2, tf3, tf4, tlt⟩ := HT.out
        clear tf0 tf1 tf2 tf3 tf4
        go_wp2_with fail
        go_ret
        exact ⟨rfl, HO.out⟩
      | false =>
        obtain ⟨vc0, vc1, vc2, vc3, vc4, vc5, vc6, vc7, vc8, vc9, vc10, vf0, vf1, vf2, vf3, vf4, vf5, vf6, vf7, vf8, vf9, vf10, vlt⟩ := HB.out
        clear vf0 vf1 vf2 vf3 vf4 vf5 vf6 vf7 vf8 vf9 vf10
        obtain ⟨tc0, tc1, tc2, tc3, tc4, tf0, tf1, tf2, tf3, tf4, tlt⟩ := HT.out
        clear tf0 tf1 tf2 tf3 tf4
        go_wp2_with fail
        go_ret
        exact ⟨rfl, HO.out⟩
    · clear hs0
      obtain ⟨vc0, vc1, vc2, vc3, vc4, vc5, vc6, vc7, vc8, vc9, vc10, vf0, vf1, vf2, vf3, vf4, vf5, vf6, vf7, vf8, vf9, vf10, vlt⟩ := HB.out
      clear vf0 vf1 vf2 vf3 vf4 vf5 vf6 vf7 vf8 vf9 vf10
      obtain ⟨tc0, tc1, tc2, tc3, tc4, tf0, tf1, tf2, tf3, tf4, tlt⟩ := HT.out
      clear tf0 tf1 tf2 tf3 tf4
      go_wp2_with fail
      go_ret
      exact ⟨rfl, HO.out⟩
set_option maxRecDepth 100000 in
set_option maxHeartbeats 1600000 in
theorem noff_any (w : World) (V : Vw) (q : Lo) (T : Tp) (h : Sn w V q) (ht : I64 T.xmin ∧ I64 T.xmax) :
    Calls Tryz.prog 34 #[.agg #[.int .i64 V.m, .int .i64 V.next, .slice q.aA V.act.length q.cA, .int .i64 V.own, .slice q.aR V.run.length q.cR, .int .i64 V.pg.lsn, .int .i64 V.pg.kind, .int .i64 V.pg.level, .int .i64 V.pg.right, .string V.pg.high, .slice q.aP V.pg.items.length q.cP], .agg #[.int .i64 T.xmin, .int .i64 T.xmax, .bool T.fz, .string T.key, .string T.val]] w fun e w' => e = .returned (.bool (voff V T)) ∧ Only (fun _ => False) w w' := by
  have C0 := hide (fun W (h : Sn W V q) => nstatus_any W V q T.xmax h ht.2)
  simp only [voff, vabo]
  obtain ⟨b0, hb0⟩ : ∃ b, vsi V T.xmax = b := ⟨_, rfl⟩
  have hs0 : 0 ≤ b0 ∧ b0 < 4 := by rw [← hb0]; exact vsi_bd _ _
  simp only [hb0] at C0 ⊢
  clear hb0
  have HN := hide h
  clear h ht
  have HB := hide ((VB.new w (.int .i64 V.m) (.int .i64 V.next) (.slice q.aA V.act.length q.cA) (.int .i64 V.own) (.slice q.aR V.run.length q.cR) (.int .i64 V.pg.lsn) (.int .i64 V.pg.kind) (.int .i64 V.pg.level) (.int .i64 V.pg.right) (.string V.pg.high) (.slice q.aP V.pg.items.length q.cP)).more (onlyA _ (.cells #[.int .i64 T.xmin, .int .i64 T.xmax, .bool T.fz, .string T.key, .string T.val] 62)))
  have HT := hide (TB.new (w.alloc (.cells #[.int .i64 V.m, .int .i64 V.next, .slice q.aA V.act.length q.cA, .int .i64 V.own, .slice q.aR V.run.length q.cR, .int .i64 V.pg.lsn, .int .i64 V.pg.kind, .int .i64 V.pg.level, .int .i64 V.pg.right, .string V.pg.high, .slice q.aP V.pg.items.length q.cP] 32)) (.int .i64 T.xmin) (.int .i64 T.xmax) (.bool T.fz) (.string T.key) (.string T.val))
  have HO := hide (o2 (onlyA w (.cells #[.int .i64 V.m, .int .i64 V.next, .slice q.aA V.act.length q.cA, .int .i64 V.own, .slice q.aR V.run.length q.cR, .int .i64 V.pg.lsn, .int .i64 V.pg.kind, .int .i64 V.pg.level, .int .i64 V.pg.right, .string V.pg.high, .slice q.aP V.pg.items.length q.cP] 32)) (onlyA _ (.cells #[.int .i64 T.xmin, .int .i64 T.xmax, .bool T.fz, .string T.key, .string T.val] 62)))
  simp only [World.size_alloc] at HT
  by_cases h0 : T.xmax = 0
  ·
    have g1 : (T.xmax != 0) = false := by simp [h0]
    have g3 : (T.xmax == 0) = true := by simp [h0]
    clear h0
    rw [g1]
    go_enter Tryz.func34, Tryz.ntmps34
    go_upto_region 1 with fail
    obtain ⟨W0, hW0⟩ : ∃ W, (w.alloc (.cells #[.int .i64 V.m, .int .i64 V.next, .slice q.aA V.act.length q.cA, .int .i64 V.own, .slice q.aR V.run.length q.cR, .int .i64 V.pg.lsn, .int .i64 V.pg.kind, .int .i64 V.pg.level, .int .i64 V.pg.right, .string V.pg.high, .slice q.aP V.pg.items.length q.cP] 32)).alloc (.cells #[.int .i64 T.xmin, .int .i64 T.xmax, .bool T.fz, .string T.key, .string T.val] 62) = W := ⟨_, rfl⟩
    rw [hW0] at HB HT HO ⊢
    clear hW0
    obtain ⟨vc0, vc1, vc2, vc3, vc4, vc5, vc6, vc7, vc8, vc9, vc10, vf0, vf1, vf2, vf3, vf4, vf5, vf6, vf7, vf8, vf9, vf10, vlt⟩ := HB.out
    clear vf0 vf1 vf2 vf3 vf4 vf5 vf6 vf7 vf8 vf9 vf10
    obtain ⟨tc0, tc1, tc2, tc3, tc4, tf0, tf1, tf2, tf3, tf4, tlt⟩ := HT.out
    clear tf0 tf1 tf2 tf3 tf4
    go_wp2_with fail
    go_ret
    exact ⟨rfl, HO.out⟩
  ·
    have g1 : (T.xmax != 0) = true := by simp [h0]
    have g3 : (T.xmax == 0) = false := by simp [h0]
    clear h0
    rw [g1]
    go_enter Tryz.func34, Tryz.ntmps34
    go_upto_region 1 with fail
    obtain ⟨W0, hW0⟩ : ∃ W, (w.alloc (.cells #[.int .i64 V.m, .int .i64 V.next, .slice q.aA V.act.length q.cA, .int .i64 V.own, .slice q.aR V.run.length q.cR, .int .i64 V.pg.lsn, .int .i64 V.pg.kind, .int .i64 V.pg.level, .int .i64 V.pg.right, .string V.pg.high, .slice q.aP V.pg.items.length q.cP] 32)).alloc (.cells #[.int .i64 T.xmin, .int .i64 T.xmax, .bool T.fz, .string T.key, .string T.val] 62) = W := ⟨_, rfl⟩
    rw [hW0] at HB HT HO ⊢
    clear hW0
    obtain ⟨vc0, vc1, vc2, vc3, vc4, vc5, vc6, vc7, vc8, vc9, vc10, vf0, vf1, vf2, vf3, vf4, vf5, vf6, vf7, vf8, vf9, vf10, vlt⟩ := HB.out
    clear vf0 vf1 vf2 vf3 vf4 vf5 vf6 vf7 vf8 vf9 vf10
    obtain ⟨tc0, tc1, tc2, tc3, tc4, tf0, tf1, tf2, tf3, tf4, tlt⟩ := HT.out
    clear tf0 tf1 tf2 tf3 tf4
    go_wp2_with fail
    refine (C0.out _ (HN.out.more HO.out)).mono ?_
    rintro e w1 ⟨rfl, ho⟩
    clear vc0 vc1 vc2 vc3 vc4 vc5 vc6 vc7 vc8 vc9 vc10 vlt tc0 tc1 tc2 tc3 tc4 tlt
    have HB := hide (HB.out.more ho)
    have HT := hide (HT.out.more ho)
    have HO := hide (o2 HO.out ho)
    clear ho
    rcases four hs0.1 hs0.2 with rfl | rfl | rfl | rfl
    · clear hs0
      obtain ⟨vc0, vc1, vc2, vc3, vc4, vc5, vc6, vc7, vc8, vc9, vc10, vf0, vf1, vf2, vf3, vf4, vf5, vf6, vf7, vf8, vf9, vf10, vlt⟩ := HB.out
      clear vf0 vf1 vf2 vf3 vf4 vf5 vf6 vf7 vf8 vf9 vf10
      obtain ⟨tc0, tc1, tc2, tc3, tc4, tf0, tf1, tf2, tf3, tf4, tlt⟩ := HT.out
      clear tf0 tf1 tf2 tf3 tf4
      go_wp2_with fail
      go_ret
      exact ⟨rfl, HO.out⟩
    · clear hs0
      obtain ⟨vc0, vc1, vc2, vc3, vc4, vc5, vc6, vc7, vc8, vc9, vc10, vf0, vf1, vf2, vf3, vf4, vf5, vf6, vf7, vf8, vf9, vf10, vlt⟩ := HB.out
      clear vf0 vf1 vf2 vf3 vf4 vf5 vf6 vf7 vf8 vf9 vf10
      obtain ⟨tc0, tc1, tc2, tc3, tc4, tf0, tf1, tf2, tf3, tf4, tlt⟩ := HT.out
      clear tf0 tf1 tf2 tf3 tf4
      go_wp2_with fail
      go_ret
      exact ⟨rfl, HO.out⟩
    · clear hs0
      obtain ⟨vc0, vc1, vc2, vc3, vc4, vc5, vc6, vc7, vc8, vc9, vc10, vf0, vf1, vf2, vf3, vf4, vf5, vf6, vf7, vf8, vf9, vf10, vlt⟩ := HB.out
      clear vf0 vf1 vf2 vf3 vf4 vf5 vf6 vf7 vf8 vf9 vf10
      obtain ⟨tc0, tc1, tc2, tc3, tc4, tf0, tf1, tf2, tf3, tf4, tlt⟩ := HT.out
      clear tf0 tf1 tf2 tf3 tf4
      go_wp2_with fail
      go_ret
      exact ⟨rfl, HO.out⟩
    · clear hs0
      obtain ⟨vc0, vc1, vc2, vc3, vc4, vc5, vc6, vc7, vc8, vc9, vc10, vf0, vf1, vf2, vf3, vf4, vf5, vf6, vf7, vf8, vf9, vf10, vlt⟩ := HB.out
      clear vf0 vf1 vf2 vf3 vf4 vf5 vf6 vf7 vf8 vf9 vf10
      obtain ⟨tc0, tc1, tc2, tc3, tc4, tf0, tf1, tf2, tf3, tf4, tlt⟩ := HT.out
      clear tf0 tf1 tf2 tf3 tf4
      go_wp2_with fail
      go_ret
      exact ⟨rfl, HO.out⟩
end Go.Proofs.YtpnbhddmdfcjdaaGreat
