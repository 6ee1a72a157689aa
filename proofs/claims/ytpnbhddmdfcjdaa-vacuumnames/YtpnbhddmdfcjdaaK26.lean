/- Parts. -/
import Derived.Test.YtpnbhddmdfcjdaaK25
set_option maxRecDepth 100000
namespace Go.Proofs.Ytpnbhddmdfcjdaa
open Go.RowKit
set_option maxRecDepth 100000 in
set_option maxHeartbeats 1600000 in
theorem isEnded_any (w : World) (T : Tp) (_ : I64 T.xmin ∧ I64 T.xmax) :
    Calls Try.prog 38 #[.agg #[.int .i64 T.xmin, .int .i64 T.xmax, .bool T.fz, .string T.key, .string T.val]] w fun e w' => e = .returned (.bool (T.xmax != 0)) ∧ Only (fun _ => False) w w' := by
  have HT := hide (TB.new w (.int .i64 T.xmin) (.int .i64 T.xmax) (.bool T.fz) (.string T.key) (.string T.val))
  have HO := hide (onlyA w (.cells #[.int .i64 T.xmin, .int .i64 T.xmax, .bool T.fz, .string T.key, .string T.val] 57))
  by_cases h0 : T.xmax = 0
  ·
    have g1 : (T.xmax != 0) = false := by simp [h0]
    have g3 : (T.xmax == 0) = true := by simp [h0]
    clear h0
    rw [g1]
    go_enter Try.func38, Try.ntmps38
    go_upto_region 1 with fail
    obtain ⟨W0, hW0⟩ : ∃ W, w.alloc (.cells #[.int .i64 T.xmin, .int .i64 T.xmax, .bool T.fz, .string T.key, .string T.val] 57) = W := ⟨_, rfl⟩
    rw [hW0] at HT HO ⊢
    clear hW0
    obtain ⟨tc0, tc1, tc2, tc3, tc4, tf0, tf1, tf2, tf3, tf4, tlt⟩ := HT.out
    clear tf0 tf1 tf2 tf3 tf4
    go_wp2_with fail
    go_ret
    exact ⟨rfl, HO.out⟩
  ·
    have g1 : (T.xmax != 0) = true := by simp [h0]
    have g3 : (T.xmax == 0) = false := by simp [h0]
    clear h0
    rw [g1]
    go_enter Try.func38, Try.ntmps38
    go_upto_region 1 with fail
    obtain ⟨W0, hW0⟩ : ∃ W, w.alloc (.cells #[.int .i64 T.xmin, .int .i64 T.xmax, .bool T.fz, .string T.key, .string T.val] 57) = W := ⟨_, rfl⟩
    rw [hW0] at HT HO ⊢
    clear hW0
    obtain ⟨tc0, tc1, tc2, tc3, tc4, tf0, tf1, tf2, tf3, tf4, tlt⟩ := HT.out
    clear tf0 tf1 tf2 tf3 tf4
    go_wp2_with fail
    go_ret
    exact ⟨rfl, HO.out⟩
set_option maxRecDepth 100000 in
set_option maxHeartbeats 1600000 in
theorem never_any (w : World) (V : Vw) (q : Lo) (T : Tp) (h : Sn w V q) (ht : I64 T.xmin ∧ I64 T.xmax) :
    Calls Try.prog 37 #[.agg #[.int .i64 V.m, .int .i64 V.next, .slice q.aA V.act.length q.cA, .int .i64 V.own, .slice q.aR V.run.length q.cR, .int .i64 V.pg.lsn, .int .i64 V.pg.kind, .int .i64 V.pg.level, .int .i64 V.pg.right, .string V.pg.high, .slice q.aP V.pg.items.length q.cP], .agg #[.int .i64 T.xmin, .int .i64 T.xmax, .bool T.fz, .string T.key, .string T.val]] w fun e w' => e = .returned (.bool (vnever V T)) ∧ Only (fun _ => False) w w' := by
  have C0 := hide (fun W (h : Sn W V q) => isAbo_any W V q T.xmin h ht.1)
  simp only [vnever]
  obtain ⟨fz, hfz⟩ : ∃ b, T.fz = b := ⟨_, rfl⟩
  simp only [hfz] at C0 ⊢
  clear hfz
  obtain ⟨b0, hb0⟩ : ∃ b, vabo V T.xmin = b := ⟨_, rfl⟩
  simp only [hb0] at C0 ⊢
  clear hb0
  have HN := hide h
  clear h ht
  have HB := hide ((VB.new w (.int .i64 V.m) (.int .i64 V.next) (.slice q.aA V.act.length q.cA) (.int .i64 V.own) (.slice q.aR V.run.length q.cR) (.int .i64 V.pg.lsn) (.int .i64 V.pg.kind) (.int .i64 V.pg.level) (.int .i64 V.pg.right) (.string V.pg.high) (.slice q.aP V.pg.items.length q.cP)).more (onlyA _ (.cells #[.int .i64 T.xmin, .int .i64 T.xmax, .bool fz, .string T.key, .string T.val] 57)))
  have HT := hide (TB.new (w.alloc (.cells #[.int .i64 V.m, .int .i64 V.next, .slice q.aA V.act.length q.cA, .int .i64 V.own, .slice q.aR V.run.length q.cR, .int .i64 V.pg.lsn, .int .i64 V.pg.kind, .int .i64 V.pg.level, .int .i64 V.pg.right, .string V.pg.high, .slice q.aP V.pg.items.length q.cP] 32)) (.int .i64 T.xmin) (.int .i64 T.xmax) (.bool fz) (.string T.key) (.string T.val))
  have HO := hide (o2 (onlyA w (.cells #[.int .i64 V.m, .int .i64 V.next, .slice q.aA V.act.length q.cA, .int .i64 V.own, .slice q.aR V.run.length q.cR, .int .i64 V.pg.lsn, .int .i64 V.pg.kind, .int .i64 V.pg.level, .int .i64 V.pg.right, .string V.pg.high, .slice q.aP V.pg.items.length q.cP] 32)) (onlyA _ (.cells #[.int .i64 T.xmin, .int .i64 T.xmax, .bool fz, .string T.key, .string T.val] 57)))
  simp only [World.size_alloc] at HT
  cases fz with
  | true =>
    go_enter Try.func37, Try.ntmps37
    go_upto_region 1 with fail
    obtain ⟨W0, hW0⟩ : ∃ W, (w.alloc (.cells #[.int .i64 V.m, .int .i64 V.next, .slice q.aA V.act.length q.cA, .int .i64 V.own, .slice q.aR V.run.length q.cR, .int .i64 V.pg.lsn, .int .i64 V.pg.kind, .int .i64 V.pg.level, .int .i64 V.pg.right, .string V.pg.high, .slice q.aP V.pg.items.length q.cP] 32)).alloc (.cells #[.int .i64 T.xmin, .int .i64 T.xmax, .bool true, .string T.key, .string T.val] 57) = W := ⟨_, rfl⟩
    rw [hW0] at HB HT HO ⊢
    clear hW0
    obtain ⟨vc0, vc1, vc2, vc3, vc4, vc5, vc6, vc7, vc8, vc9, vc10, vf0, vf1, vf2, vf3, vf4, vf5, vf6, vf7, vf8, vf9, vf10, vlt⟩ := HB.out
    clear vf0 vf1 vf2 vf3 vf4 vf5 vf6 vf7 vf8 vf9 vf10
    obtain ⟨tc0, tc1, tc2, tc3, tc4, tf0, tf1, tf2, tf3, tf4, tlt⟩ := HT.out
    clear tf0 tf1 tf2 tf3 tf4
    go_wp2_with fail
    go_ret
    exact ⟨rfl, HO.out⟩
  | false =>
    go_enter Try.func37, Try.ntmps37
    go_upto_region 1 with fail
    obtain ⟨W0, hW0⟩ : ∃ W, (w.alloc (.cells #[.int .i64 V.m, .int .i64 V.next, .slice q.aA V.act.length q.cA, .int .i64 V.own, .slice q.aR V.run.length q.cR, .int .i64 V.pg.lsn, .int .i64 V.pg.kind, .int .i64 V.pg.level, .int .i64 V.pg.right, .string V.pg.high, .slice q.aP V.pg.items.length q.cP] 32)).alloc (.cells #[.int .i64 T.xmin, .int .i64 T.xmax, .bool false, .string T.key, .string T.val] 57) = W := ⟨_, rfl⟩
    rw [hW0] at HB HT HO ⊢
    clear hW0
    obtain ⟨vc0, vc1, vc2, vc3, vc4, vc5, vc6, vc7, vc8, vc9, vc10, vf0, vf1, vf2, vf3, vf4, vf5, vf6, vf7, vf8, vf9, vf10, vlt⟩ := HB.out
    clear vf0 vf1 vf2 vf3 vf4 vf5 vf6 vf7 vf8 vf9 vf10
    obtain ⟨tc0, tc1, tc2, tc3, tc4, tf0, tf1, tf2, tf3, tf4, tlt⟩ := HT.out
    clear tf0 tf1 tf2 tf3 tf4
    go_wp2_with fail
    refine (C0.out _ (HN.out.more HO.out)).mono ?_
    rintro e w1 ⟨rfl, ho⟩
    clear vc0 vc1 vc2 vc3 vc4 vc5 vc6 vc7 vc8 vc9 vc10 vlt tc0 tc1 tc2 tc3 tc4 tlt
    have HB := hide (HB.out.more ho)
    have HT := hide (HT.out.more ho)
    have HO := hide (o2 HO.out ho)
    clear ho
    cases b0 with
    | true =>
      obtain ⟨vc0, vc1, vc2, vc3, vc4, vc5, vc6, vc7, vc8, vc9, vc10, vf0, vf1, vf2, vf3, vf4, vf5, vf6, vf7, vf8, vf9, vf10, vlt⟩ := HB.out
      clear vf0 vf1 vf2 vf3 vf4 vf5 vf6 vf7 vf8 vf9 vf10
      obtain ⟨tc0, tc1, tc2, tc3, tc4, tf0, tf1, tf2, tf3, tf4, tlt⟩ := HT.out
      clear tf0 tf1 tf2 tf3 tf4
      go_wp2_with fail
      go_ret
      exact ⟨rfl, HO.out⟩
    | false =>
      obtain ⟨vc0, vc1, vc2, vc3, vc4, vc5, vc6, vc7, vc8, vc9, vc10, vf0, vf1, vf2, vf3, vf4, vf5, vf6, vf7, vf8, vf9, vf10, vlt⟩ := HB.out
      clear vf0 vf1 vf2 vf3 vf4 vf5 vf6 vf7 vf8 vf9 vf10
      obtain ⟨tc0, tc1, tc2, tc3, tc4, tf0, tf1, tf2, tf3, tf4, tlt⟩ := HT.out
      clear tf0 tf1 tf2 tf3 tf4
      go_wp2_with fail
      go_ret
      exact ⟨rfl, HO.out⟩
set_option maxRecDepth 100000 in
set_option maxHeartbeats 1600000 in
theorem gone_any (w : World) (V : Vw) (q : Lo) (T : Tp) (z : Int) (h : Sn w V q) (ht : I64 T.xmin ∧ I64 T.xmax) (hz : I64 z) :
    Calls Try.prog 17 #[.agg #[.int .i64 V.m, .int .i64 V.next, .slice q.aA V.act.length q.cA, .int .i64 V.own, .slice q.aR V.run.length q.cR, .int .i64 V.pg.lsn, .int .i64 V.pg.kind, .int .i64 V.pg.level, .int .i64 V.pg.right, .string V.pg.high, .slice q.aP V.pg.items.length q.cP], .agg #[.int .i64 T.xmin, .int .i64 T.xmax, .bool T.fz, .string T.key, .string T.val], .int .i64 z] w fun e w' => e = .returned (.bool (vgone V T z)) ∧ Only (fun _ => False) w w' := by
  have C0 := hide (fun W (h : Sn W V q) => never_any W V q T h ht)
  have C1 := hide (fun W (h : Sn W V q) => isEnded_any W T ht)
  have C2 := hide (fun W (h : Sn W V q) => isPast_any W V q T.xmax z h ht.2 hz)
  simp only [vgone]
  obtain ⟨b0, hb0⟩ : ∃ b, vnever V T = b := ⟨_, rfl⟩
  obtain ⟨b1, hb1⟩ : ∃ b, (T.xmax != 0) = b := ⟨_, rfl⟩
  obtain ⟨b2, hb2⟩ : ∃ b, vpast V T.xmax z = b := ⟨_, rfl⟩
  simp only [hb0, hb1, hb2] at C0 C1 C2 ⊢
  clear hb0 hb1 hb2
  have HN := hide h
  clear h ht hz
  have HB := hide ((VB.new w (.int .i64 V.m) (.int .i64 V.next) (.slice q.aA V.act.length q.cA) (.int .i64 V.own) (.slice q.aR V.run.length q.cR) (.int .i64 V.pg.lsn) (.int .i64 V.pg.kind) (.int .i64 V.pg.level) (.int .i64 V.pg.right) (.string V.pg.high) (.slice q.aP V.pg.items.length q.cP)).more (onlyA _ (.cells #[.int .i64 T.xmin, .int .i64 T.xmax, .bool T.fz, .string T.key, .string T.val] 57)))
  have HT := hide (TB.new (w.alloc (.cells #[.int .i64 V.m, .int .i64 V.next, .slice q.aA V.act.length q.cA, .int .i64 V.own, .slice q.aR V.run.length q.cR, .int .i64 V.pg.lsn, .int .i64 V.pg.kind, .int .i64 V.pg.level, .int .i64 V.pg.right, .string V.pg.high, .slice q.aP V.pg.items.length q.cP] 32)) (.int .i64 T.xmin) (.int .i64 T.xmax) (.bool T.fz) (.string T.key) (.string T.val))
  have HO := hide (o2 (onlyA w (.cells #[.int .i64 V.m, .int .i64 V.next, .slice q.aA V.act.length q.cA, .int .i64 V.own, .slice q.aR V.run.length q.cR, .int .i64 V.pg.lsn, .int .i64 V.pg.kind, .int .i64 V.pg.level, .int .i64 V.pg.right, .string V.pg.high, .slice q.aP V.pg.items.length q.cP] 32)) (onlyA _ (.cells #[.int .i64 T.xmin, .int .i64 T.xmax, .bool T.fz, .string T.key, .string T.val] 57)))
  simp only [World.size_alloc] at HT
  go_enter Try.func17, Try.ntmps17
  go_upto_region 1 with fail
  obtain ⟨W0, hW0⟩ : ∃ W, (w.alloc (.cells #[.int .i64 V.m, .int .i64 V.next, .slice q.aA V.act.length q.cA, .int .i64 V.own, .slice q.aR V.run.length q.cR, .int .i64 V.pg.lsn, .int .i64 V.pg.kind, .int .i64 V.pg.level, .int .i64 V.pg.right, .string V.pg.high, .slice q.aP V.pg.items.length q.cP] 32)).alloc (.cells #[.int .i64 T.xmin, .int .i64 T.xmax, .bool T.fz, .string T.key, .string T.val] 57) = W := ⟨_, rfl⟩
  rw [hW0] at HB HT HO ⊢
  clear hW0
  obtain ⟨vc0, vc1, vc2, vc3, vc4, vc5, vc6, vc7, vc8, vc9, vc10, vf0, vf1, vf2, vf3, vf4, vf5, vf6, vf7, vf8, vf9, vf10, vlt⟩ := HB.out
  clear vf0 vf1 vf2 vf3 vf4 vf5 vf6 vf7 vf8 vf9 vf10
  obtain ⟨tc0, tc1, tc2, tc3, tc4, tf0, tf1, tf2, tf3, tf4, tlt⟩ := HT.out
  clear tf0 tf1 tf2 tf3 tf4
  go_wp2_with fail
  refine (C0.out _ (HN.out.more HO.out)).mono ?_
  rintro e w1 ⟨rfl, ho⟩
  clear vc0 vc1 vc2 vc3 vc4 vc5 vc6 vc7 vc8 vc9 vc10 vlt tc0 tc1 tc2 tc3 tc4 tlt
  have HB := hide (HB.out.more ho)
  have HT := hide (HT.out.more ho)
  have HO := hide (o2 HO.out ho)
  clear ho
  cases b0 with
  | true =>
    obtain ⟨vc0, vc1, vc2, vc3, vc4, vc5, vc6, vc7, vc8, vc9, vc10, vf0, vf1, vf2, vf3, vf4, vf5, vf6, vf7, vf8, vf9, vf10, vlt⟩ := HB.out
    clear vf0 vf1 vf2 vf3 vf4 vf5 vf6 vf7 vf8 vf9 vf10
    obtain ⟨tc0, tc1, tc2, tc3, tc4, tf0, tf1, tf2, tf3, tf4, tlt⟩ := HT.out
    clear tf0 tf1 tf2 tf3 tf4
    go_wp2_with fail
    go_ret
    exact ⟨rfl, HO.out⟩
  | false =>
    obtain ⟨vc0, vc1, vc2, vc3, vc4, vc5, vc6, vc7, vc8, vc9, vc10, vf0, vf1, vf2, vf3, vf4, vf5, vf6, vf7, vf8, vf9, vf10, vlt⟩ := HB.out
    clear vf0 vf1 vf2 vf3 vf4 vf5 vf6 vf7 vf8 vf9 vf10
    obtain ⟨tc0, tc1, tc2, tc3, tc4, tf0, tf1, tf2, tf3, tf4, tlt⟩ := HT.out
    clear tf0 tf1 tf2 tf3 tf4
    go_wp2_with fail
    refine (C1.out _ (HN.out.more HO.out)).mono ?_
    rintro e w2 ⟨rfl, ho⟩
    clear vc0 vc1 vc2 vc3 vc4 vc5 vc6 vc7 vc8 vc9 vc10 vlt tc0 tc1 tc2 tc3 tc4 tlt
    have HB := hide (HB.out.more ho)
    have HT := hide (HT.out.more ho)
    have HO := hide (o2 HO.out ho)
    clear ho
    cases b1 with
    | true =>
      obtain ⟨vc0, vc1, vc2, vc3, vc4, vc5, vc6, vc7, vc8, vc9, vc10, vf0, vf1, vf2, vf3, vf4, vf5, vf6, vf7, vf8, vf9, vf10, vlt⟩ := HB.out
      clear vf0 vf1 vf2 vf3 vf4 vf5 vf6 vf7 vf8 vf9 vf10
      obtain ⟨tc0, tc1, tc2, tc3, tc4, tf0, tf1, tf2, tf3, tf4, tlt⟩ := HT.out
      clear tf0 tf1 tf2 tf3 tf4
      go_wp2_with fail
      refine (C2.out _ (HN.out.more HO.out)).mono ?_
      rintro e w3 ⟨rfl, ho⟩
      clear vc0 vc1 vc2 vc3 vc4 vc5 vc6 vc7 vc8 vc9 vc10 vlt tc0 tc1 tc2 tc3 tc4 tlt
      have HB := hide (HB.out.more ho)
      have HT := hide (HT.out.more ho)
      have HO := hide (o2 HO.out ho)
      clear ho
      cases b2 with
      | true =>
        obtain ⟨vc0, vc1, vc2, vc3, vc4, vc5, vc6, vc7, vc8, vc9, vc10, vf0, vf1, vf2, vf3, vf4, vf5, vf6, vf7, vf8, vf9, vf10, vlt⟩ := HB.out
        clear vf0 vf1 vf2 vf3 vf4 vf5 vf6 vf7 vf8 vf9 vf10
        obtain ⟨tc0, tc1, tc2, tc3, tc4, tf0, tf1, tf2, tf3, tf4, tlt⟩ := HT.out
        clear tf0 tf1 tf2 tf3 tf4
        go_wp2_with fail
        go_ret
        exact ⟨rfl, HO.out⟩
      | false =>
        obtain ⟨vc0, vc1, vc2, vc3, vc4, vc5, vc6, vc7, vc8, vc9, vc10, vf0, vf1, vf2, vf3, vf4, vf5, vf6, vf7, vf8, vf9, vf10, vlt⟩ := HB.out
        clear vf0 vf1 vf2 vf3 vf4 vf5 vf6 vf7 vf8 vf9 vf10
        obtain ⟨tc0, tc1, tc2, tc3, tc4, tf0, tf1, tf2, tf3, tf4, tlt⟩ := HT.out
        clear tf0 tf1 tf2 tf3 tf4
        go_wp2_with fail
        go_ret
        exact ⟨rfl, HO.out⟩
    | false =>
      obtain ⟨vc0, vc1, vc2, vc3, vc4, vc5, vc6, vc7, vc8, vc9, vc10, vf0, vf1, vf2, vf3, vf4, vf5, vf6, vf7, vf8, vf9, vf10, vlt⟩ := HB.out
      clear vf0 vf1 vf2 vf3 vf4 vf5 vf6 vf7 vf8 vf9 vf10
      obtain ⟨tc0, tc1, tc2, tc3, tc4, tf0, tf1, tf2, tf3, tf4, tlt⟩ := HT.out
      clear tf0 tf1 tf2 tf3 tf4
      go_wp2_with fail
      go_ret
      exact ⟨rfl, HO.out⟩
set_option maxRecDepth 100000 in
set_option maxHeartbeats 1600000 in
theorem old_any (w : World) (V : Vw) (q : Lo) (T : Tp) (z : Int) (h : Sn w V q) (ht : I64 T.xmin ∧ I64 T.xmax) (hz : I64 z) :
    Calls Try.prog 20 #[.agg #[.int .i64 V.m, .int .i64 V.next, .slice q.aA V.act.length q.cA, .int .i64 V.own, .slice q.aR V.run.length q.cR, .int .i64 V.pg.lsn, .int .i64 V.pg.kind, .int .i64 V.pg.level, .int .i64 V.pg.right, .string V.pg.high, .slice q.aP V.pg.items.length q.cP], .agg #[.int .i64 T.xmin, .int .i64 T.xmax, .bool T.fz, .string T.key, .string T.val], .int .i64 z] w fun e w' => e = .returned (.bool (vold V T z)) ∧ Only (fun _ => False) w w' := by
  have C0 := hide (fun W (h : Sn W V q) => isPast_any W V q T.xmin z h ht.1 hz)
  simp only [vold]
  obtain ⟨fz, hfz⟩ : ∃ b, T.fz = b := ⟨_, rfl⟩
  simp only [hfz] at C0 ⊢
  clear hfz
  obtain ⟨b0, hb0⟩ : ∃ b, vpast V T.xmin z = b := ⟨_, rfl⟩
  simp only [hb0] at C0 ⊢
  clear hb0
  have HN := hide h
  clear h ht hz
  have HB := hide ((VB.new w (.int .i64 V.m) (.int .i64 V.next) (.slice q.aA V.act.length q.cA) (.int .i64 V.own) (.slice q.aR V.run.length q.cR) (.int .i64 V.pg.lsn) (.int .i64 V.pg.kind) (.int .i64 V.pg.level) (.int .i64 V.pg.right) (.string V.pg.high) (.slice q.aP V.pg.items.length q.cP)).more (onlyA _ (.cells #[.int .i64 T.xmin, .int .i64 T.xmax, .bool fz, .string T.key, .string T.val] 57)))
  have HT := hide (TB.new (w.alloc (.cells #[.int .i64 V.m, .int .i64 V.next, .slice q.aA V.act.length q.cA, .int .i64 V.own, .slice q.aR V.run.length q.cR, .int .i64 V.pg.lsn, .int .i64 V.pg.kind, .int .i64 V.pg.level, .int .i64 V.pg.right, .string V.pg.high, .slice q.aP V.pg.items.length q.cP] 32)) (.int .i64 T.xmin) (.int .i64 T.xmax) (.bool fz) (.string T.key) (.string T.val))
  have HO := hide (o2 (onlyA w (.cells #[.int .i64 V.m, .int .i64 V.next, .slice q.aA V.act.length q.cA, .int .i64 V.own, .slice q.aR V.run.length q.cR, .int .i64 V.pg.lsn, .int .i64 V.pg.kind, .int .i64 V.pg.level, .int .i64 V.pg.right, .string V.pg.high, .slice q.aP V.pg.items.length q.cP] 32)) (onlyA _ (.cells #[.int .i64 T.xmin, .int .i64 T.xmax, .bool fz, .string T.key, .string T.val] 57)))
  simp only [World.size_alloc] at HT
  cases fz with
  | true =>
    go_enter Try.func20, Try.ntmps20
    go_upto_region 1 with fail
    obtain ⟨W0, hW0⟩ : ∃ W, (w.alloc (.cells #[.int .i64 V.m, .int .i64 V.next, .slice q.aA V.act.length q.cA, .int .i64 V.own, .slice q.aR V.run.length q.cR, .int .i64 V.pg.lsn, .int .i64 V.pg.kind, .int .i64 V.pg.level, .int .i64 V.pg.right, .string V.pg.high, .slice q.aP V.pg.items.length q.cP] 32)).alloc (.cells #[.int .i64 T.xmin, .int .i64 T.xmax, .bool true, .string T.key, .string T.val] 57) = W := ⟨_, rfl⟩
    rw [hW0] at HB HT HO ⊢
    clear hW0
    obtain ⟨vc0, vc1, vc2, vc3, vc4, vc5, vc6, vc7, vc8, vc9, vc10, vf0, vf1, vf2, vf3, vf4, vf5, vf6, vf7, vf8, vf9, vf10, vlt⟩ := HB.out
    clear vf0 vf1 vf2 vf3 vf4 vf5 vf6 vf7 vf8 vf9 vf10
    obtain ⟨tc0, tc1, tc2, tc3, tc4, tf0, tf1, tf2, tf3, tf4, tlt⟩ := HT.out
    clear tf0 tf1 tf2 tf3 tf4
    go_wp2_with fail
    go_ret
    exact ⟨rfl, HO.out⟩
  | false =>
    go_enter Try.func20, Try.ntmps20
    go_upto_region 1 with fail
    obtain ⟨W0, hW0⟩ : ∃ W, (w.alloc (.cells #[.int .i64 V.m, .int .i64 V.next, .slice q.aA V.act.length q.cA, .int .i64 V.own, .slice q.aR V.run.length q.cR, .int .i64 V.pg.lsn, .int .i64 V.pg.kind, .int .i64 V.pg.level, .int .i64 V.pg.right, .string V.pg.high, .slice q.aP V.pg.items.length q.cP] 32)).alloc (.cells #[.int .i64 T.xmin, .int .i64 T.xmax, .bool false, .string T.key, .string T.val] 57) = W := ⟨_, rfl⟩
    rw [hW0] at HB HT HO ⊢
    clear hW0
    obtain ⟨vc0, vc1, vc2, vc3, vc4, vc5, vc6, vc7, vc8, vc9, vc10, vf0, vf1, vf2, vf3, vf4, vf5, vf6, vf7, vf8, vf9, vf10, vlt⟩ := HB.out
    clear vf0 vf1 vf2 vf3 vf4 vf5 vf6 vf7 vf8 vf9 vf10
    obtain ⟨tc0, tc1, tc2, tc3, tc4, tf0, tf1, tf2, tf3, tf4, tlt⟩ := HT.out
    clear tf0 tf1 tf2 tf3 tf4
    go_wp2_with fail
    refine (C0.out _ (HN.out.more HO.out)).mono ?_
    rintro e w1 ⟨rfl, ho⟩
    clear vc0 vc1 vc2 vc3 vc4 vc5 vc6 vc7 vc8 vc9 vc10 vlt tc0 tc1 tc2 tc3 tc4 tlt
    have HB := hide (HB.out.more ho)
    have HT := hide (HT.out.more ho)
    have HO := hide (o2 HO.out ho)
    clear ho
    cases b0 with
    | true =>
      obtain ⟨vc0, vc1, vc2, vc3, vc4, vc5, vc6, vc7, vc8, vc9, vc10, vf0, vf1, vf2, vf3, vf4, vf5, vf6, vf7, vf8, vf9, vf10, vlt⟩ := HB.out
      clear vf0 vf1 vf2 vf3 vf4 vf5 vf6 vf7 vf8 vf9 vf10
      obtain ⟨tc0, tc1, tc2, tc3, tc4, tf0, tf1, tf2, tf3, tf4, tlt⟩ := HT.out
      clear tf0 tf1 tf2 tf3 tf4
      go_wp2_with fail
      go_ret
      exact ⟨rfl, HO.out⟩
    | false =>
      obtain ⟨vc0, vc1, vc2, vc3, vc4, vc5, vc6, vc7, vc8, vc9, vc10, vf0, vf1, vf2, vf3, vf4, vf5, vf6, vf7, vf8, vf9, vf10, vlt⟩ := HB.out
      clear vf0 vf1 vf2 vf3 vf4 vf5 vf6 vf7 vf8 vf9 vf10
      obtain ⟨tc0, tc1, tc2, tc3, tc4, tf0, tf1, tf2, tf3, tf4, tlt⟩ := HT.out
      clear tf0 tf1 tf2 tf3 tf4
      go_wp2_with fail
      go_ret
      exact ⟨rfl, HO.out⟩
set_option maxRecDepth 100000 in
set_option maxHeartbeats 1600000 in
theorem off_any (w : World) (V : Vw) (q : Lo) (T : Tp) (h : Sn w V q) (ht : I64 T.xmin ∧ I64 T.xmax) :
    Calls Try.prog 21 #[.agg #[.int .i64 V.m, .int .i64 V.next, .slice q.aA V.act.length q.cA, .int .i64 V.own, .slice q.aR V.run.length q.cR, .int .i64 V.pg.lsn, .int .i64 V.pg.kind, .int .i64 V.pg.level, .int .i64 V.pg.right, .string V.pg.high, .slice q.aP V.pg.items.length q.cP], .agg #[.int .i64 T.xmin, .int .i64 T.xmax, .bool T.fz, .string T.key, .string T.val]] w fun e w' => e = .returned (.bool (voff V T)) ∧ Only (fun _ => False) w w' := by
  have C0 := hide (fun W (h : Sn W V q) => isEnded_any W T ht)
  have C1 := hide (fun W (h : Sn W V q) => isAbo_any W V q T.xmax h ht.2)
  simp only [voff]
  obtain ⟨b0, hb0⟩ : ∃ b, (T.xmax != 0) = b := ⟨_, rfl⟩
  obtain ⟨b1, hb1⟩ : ∃ b, vabo V T.xmax = b := ⟨_, rfl⟩
  simp only [hb0, hb1] at C0 C1 ⊢
  clear hb0 hb1
  have HN := hide h
  clear h ht
  have HB := hide ((VB.new w (.int .i64 V.m) (.int .i64 V.next) (.slice q.aA V.act.length q.cA) (.int .i64 V.own) (.slice q.aR V.run.length q.cR) (.int .i64 V.pg.lsn) (.int .i64 V.pg.kind) (.int .i64 V.pg.level) (.int .i64 V.pg.right) (.string V.pg.high) (.slice q.aP V.pg.items.length q.cP)).more (onlyA _ (.cells #[.int .i64 T.xmin, .int .i64 T.xmax, .bool T.fz, .string T.key, .string T.val] 57)))
  have HT := hide (TB.new (w.alloc (.cells #[.int .i64 V.m, .int .i64 V.next, .slice q.aA V.act.length q.cA, .int .i64 V.own, .slice q.aR V.run.length q.cR, .int .i64 V.pg.lsn, .int .i64 V.pg.kind, .int .i64 V.pg.level, .int .i64 V.pg.right, .string V.pg.high, .slice q.aP V.pg.items.length q.cP] 32)) (.int .i64 T.xmin) (.int .i64 T.xmax) (.bool T.fz) (.string T.key) (.string T.val))
  have HO := hide (o2 (onlyA w (.cells #[.int .i64 V.m, .int .i64 V.next, .slice q.aA V.act.length q.cA, .int .i64 V.own, .slice q.aR V.run.length q.cR, .int .i64 V.pg.lsn, .int .i64 V.pg.kind, .int .i64 V.pg.level, .int .i64 V.pg.right, .string V.pg.high, .slice q.aP V.pg.items.length q.cP] 32)) (onlyA _ (.cells #[.int .i64 T.xmin, .int .i64 T.xmax, .bool T.fz, .string T.key, .string T.val] 57)))
  simp only [World.size_alloc] at HT
  go_enter Try.func21, Try.ntmps21
  go_upto_region 1 with fail
  obtain ⟨W0, hW0⟩ : ∃ W, (w.alloc (.cells #[.int .i64 V.m, .int .i64 V.next, .slice q.aA V.act.length q.cA, .int .i64 V.own, .slice q.aR V.run.length q.cR, .int .i64 V.pg.lsn, .int .i64 V.pg.kind, .int .i64 V.pg.level, .int .i64 V.pg.right, .string V.pg.high, .slice q.aP V.pg.items.length q.cP] 32)).alloc (.cells #[.int .i64 T.xmin, .int .i64 T.xmax, .bool T.fz, .string T.key, .string T.val] 57) = W := ⟨_, rfl⟩
  rw [hW0] at HB HT HO ⊢
  clear hW0
  obtain ⟨vc0, vc1, vc2, vc3, vc4, vc5, vc6, vc7, vc8, vc9, vc10, vf0, vf1, vf2, vf3, vf4, vf5, vf6, vf7, vf8, vf9, vf10, vlt⟩ := HB.out
  clear vf0 vf1 vf2 vf3 vf4 vf5 vf6 vf7 vf8 vf9 vf10
  obtain ⟨tc0, tc1, tc2, tc3, tc4, tf0, tf1, tf2, tf3, tf4, tlt⟩ := HT.out
  clear tf0 tf1 tf2 tf3 tf4
  go_wp2_with fail
  refine (C0.out _ (HN.out.more HO.out)).mono ?_
  rintro e w1 ⟨rfl, ho⟩
  clear vc0 vc1 vc2 vc3 vc4 vc5 vc6 vc7 vc8 vc9 vc10 vlt tc0 tc1 tc2 tc3 tc4 tlt
  have HB := hide (HB.out.more ho)
  have HT := hide (HT.out.more ho)
  have HO := hide (o2 HO.out ho)
  clear ho
  cases b0 with
  | true =>
    obtain ⟨vc0, vc1, vc2, vc3, vc4, vc5, vc6, vc7, vc8, vc9, vc10, vf0, vf1, vf2, vf3, vf4, vf5, vf6, vf7, vf8, vf9, vf10, vlt⟩ := HB.out
    clear vf0 vf1 vf2 vf3 vf4 vf5 vf6 vf7 vf8 vf9 vf10
    obtain ⟨tc0, tc1, tc2, tc3, tc4, tf0, tf1, tf2, tf3, tf4, tlt⟩ := HT.out
    clear tf0 tf1 tf2 tf3 tf4
    go_wp2_with fail
    refine (C1.out _ (HN.out.more HO.out)).mono ?_
    rintro e w2 ⟨rfl, ho⟩
    clear vc0 vc1 vc2 vc3 vc4 vc5 vc6 vc7 vc8 vc9 vc10 vlt tc0 tc1 tc2 tc3 tc4 tlt
    have HB := hide (HB.out.more ho)
    have HT := hide (HT.out.more ho)
    have HO := hide (o2 HO.out ho)
    clear ho
    cases b1 with
    | true =>
      obtain ⟨vc0, vc1, vc2, vc3, vc4, vc5, vc6, vc7, vc8, vc9, vc10, vf0, vf1, vf2, vf3, vf4, vf5, vf6, vf7, vf8, vf9, vf10, vlt⟩ := HB.out
      clear vf0 vf1 vf2 vf3 vf4 vf5 vf6 vf7 vf8 vf9 vf10
      obtain ⟨tc0, tc1, tc2, tc3, tc4, tf0, tf1, tf2, tf3, tf4, tlt⟩ := HT.out
      clear tf0 tf1 tf2 tf3 tf4
      go_wp2_with fail
      go_ret
      exact ⟨rfl, HO.out⟩
    | false =>
      obtain ⟨vc0, vc1, vc2, vc3, vc4, vc5, vc6, vc7, vc8, vc9, vc10, vf0, vf1, vf2, vf3, vf4, vf5, vf6, vf7, vf8, vf9, vf10, vlt⟩ := HB.out
      clear vf0 vf1 vf2 vf3 vf4 vf5 vf6 vf7 vf8 vf9 vf10
      obtain ⟨tc0, tc1, tc2, tc3, tc4, tf0, tf1, tf2, tf3, tf4, tlt⟩ := HT.out
      clear tf0 tf1 tf2 tf3 tf4
      go_wp2_with fail
      go_ret
      exact ⟨rfl, HO.out⟩
  | false =>
    obtain ⟨vc0, vc1, vc2, vc3, vc4, vc5, vc6, vc7, vc8, vc9, vc10, vf0, vf1, vf2, vf3, vf4, vf5, vf6, vf7, vf8, vf9, vf10, vlt⟩ := HB.out
    clear vf0 vf1 vf2 vf3 vf4 vf5 vf6 vf7 vf8 vf9 vf10
    obtain ⟨tc0, tc1, tc2, tc3, tc4, tf0, tf1, tf2, tf3, tf4, tlt⟩ := HT.out
    clear tf0 tf1 tf2 tf3 tf4
    go_wp2_with fail
    go_ret
    exact ⟨rfl, HO.out⟩
end Go.Proofs.Ytpnbhddmdfcjdaa
