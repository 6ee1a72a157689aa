/- Parts. -/
import Derived.Test.YtpnbhddmdfcjdaaGreatK21
import Derived.Test.YtpnbhddmdfcjdaaGreatK24
set_option maxRecDepth 100000
namespace Go.Proofs.YtpnbhddmdfcjdaaGreat
open Go.RowKit
set_option maxRecDepth 100000 in
set_option maxHeartbeats 1600000 in
theorem isEnded_any (w : World) (T : Tp) (_ : I64 T.xmin ∧ I64 T.xmax) :
    Calls Tryz.prog 56 #[.agg #[.int .i64 T.xmin, .int .i64 T.xmax, .bool T.fz, .string T.key, .string T.val]] w fun e w' => e = .returned (.bool (T.xmax != 0)) ∧ Only (fun _ => False) w w' := by
  have HT := hide (TB.new w (.int .i64 T.xmin) (.int .i64 T.xmax) (.bool T.fz) (.string T.key) (.string T.val))
  have HO := hide (onlyA w (.cells #[.int .i64 T.xmin, .int .i64 T.xmax, .bool T.fz, .string T.key, .string T.val] 62))
  by_cases h0 : T.xmax = 0
  ·
    have g1 : (T.xmax != 0) = false := by simp [h0]
    have g3 : (T.xmax == 0) = true := by simp [h0]
    clear h0
    rw [g1]
    go_enter Tryz.func56, Tryz.ntmps56
    go_upto_region 1 with fail
    obtain ⟨W0, hW0⟩ : ∃ W, w.alloc (.cells #[.int .i64 T.xmin, .int .i64 T.xmax, .bool T.fz, .string T.key, .string T.val] 62) = W := ⟨_, rfl⟩
    rw [hW0] at HT HO ⊢
    clear hW0
    obtain ⟨tc0, tc1, tc2, tc3, tc4, tf0, tf1, tf2, tf3, tf4, tlt⟩ := HT.out
    clear tf0 tf1 tf2 tf3 tf4
    go_wp2_with fail
    go_ret
    exact ⟨rfl, HO.out⟩
  ·
    have g1 : (T.xmax != 0) = true := by simp [h0]
    have g3 : (T.xmax == 0) = false := by simp [h0]
    clear h0
    rw [g1]
    go_enter Tryz.func56, Tryz.ntmps56
    go_upto_region 1 with fail
    obtain ⟨W0, hW0⟩ : ∃ W, w.alloc (.cells #[.int .i64 T.xmin, .int .i64 T.xmax, .bool T.fz, .string T.key, .string T.val] 62) = W := ⟨_, rfl⟩
    rw [hW0] at HT HO ⊢
    clear hW0
    obtain ⟨tc0, tc1, tc2, tc3, tc4, tf0, tf1, tf2, tf3, tf4, tlt⟩ := HT.out
    clear tf0 tf1 tf2 tf3 tf4
    go_wp2_with fail
    go_ret
    exact ⟨rfl, HO.out⟩
set_option maxRecDepth 100000 in
set_option maxHeartbeats 1600000 in
theorem never_any (w : World) (V : Vw) (q : Lo) (T : Tp) (h : Sn w V q) (ht : I64 T.xmin ∧ I64 T.xmax) :
    Calls Tryz.prog 55 #[.agg #[.int .i64 V.m, .int .i64 V.next, .slice q.aA V.act.length q.cA, .int .i64 V.own, .slice q.aR V.run.length q.cR, .int .i64 V.pg.lsn, .int .i64 V.pg.kind, .int .i64 V.pg.level, .int .i64 V.pg.right, .string V.pg.high, .slice q.aP V.pg.items.length q.cP], .agg #[.int .i64 T.xmin, .int .i64 T.xmax, .bool T.fz, .string T.key, .string T.val]] w fun e w' => e = .returned (.bool (vnever V T)) ∧ Only (fun _ => False) w w' := by
  have C0 := hide (fun W (h : Sn W V q) => isAbo_any W V q T.xmin h ht.1)
  simp only [vnever]
  obtain ⟨fz, hfz⟩ : ∃ b, T.fz = b := ⟨_, rfl⟩
  simp only [hfz] at C0 ⊢
  clear hfz
  obtain ⟨b0, hb0⟩ : ∃ b, vabo V T.xmin = b := ⟨_, rfl⟩
  simp only [hb0] at C0 ⊢
  clear hb0
  have HN := hide h
  clear h ht
  have HB := hide ((VB.new w (.int .i64 V.m) (.int .i64 V.next) (.slice q.aA V.act.length q.cA) (.int .i64 V.own) (.slice q.aR V.run.length q.cR) (.int .i64 V.pg.lsn) (.int .i64 V.pg.kind) (.int .i64 V.pg.level) (.int .i64 V.pg.right) (.string V.pg.high) (.slice q.aP V.pg.items.length q.cP)).more (onlyA _ (.cells #[.int .i64 T.xmin, .int .i64 T.xmax, .bool fz, .string T.key, .string T.val] 62)))
  have HT := hide (TB.new (w.alloc (.cells #[.int .i64 V.m, .int .i64 V.next, .slice q.aA V.act.length q.cA, .int .i64 V.own, .slice q.aR V.run.length q.cR, .int .i64 V.pg.lsn, .int .i64 V.pg.kind, .int .i64 V.pg.level, .int .i64 V.pg.right, .string V.pg.high, .slice q.aP V.pg.items.length q.cP] 32)) (.int .i64 T.xmin) (.int .i64 T.xmax) (.bool fz) (.string T.key) (.string T.val))
  have HO := hide (o2 (onlyA w (.cells #[.int .i64 V.m, .int .i64 V.next, .slice q.aA V.act.length q.cA, .int .i64 V.own, .slice q.aR V.run.length q.cR, .int .i64 V.pg.lsn, .int .i64 V.pg.kind, .int .i64 V.pg.level, .int .i64 V.pg.right, .string V.pg.high, .slice q.aP V.pg.items.length q.cP] 32)) (onlyA _ (.cells #[.int .i64 T.xmin, .int .i64 T.xmax, .bool fz, .string T.key, .string T.val] 62)))
  simp only [World.size_alloc] at HT
  cases fz with
  | true =>
    go_enter Tryz.func55, Tryz.ntmps55
    go_upto_region 1 with fail
    obtain ⟨W0, hW0⟩ : ∃ W, (w.alloc (.cells #[.int .i64 V.m, .int .i64 V.next, .slice q.aA V.act.length q.cA, .int .i64 V.own, .slice q.aR V.run.length q.cR, .int .i64 V.pg.lsn, .int .i64 V.pg.kind, .int .i64 V.pg.level, .int .i64 V.pg.right, .string V.pg.high, .slice q.aP V.pg.items.length q.cP] 32)).alloc (.cells #[.int .i64 T.xmin, .int .i64 T.xmax, .bool true, .string T.key, .string T.val] 62) = W := ⟨_, rfl⟩
    rw [hW0] at HB HT HO ⊢
    clear hW0
    obtain ⟨vc0, vc1, vc2, vc3, vc4, vc5, vc6, vc7, vc8, vc9, vc10, vf0, vf1, vf2, vf3, vf4, vf5, vf6, vf7, vf8, vf9, vf10, vlt⟩ := HB.out
    clear vf0 vf1 vf2 vf3 vf4 vf5 vf6 vf7 vf8 vf9 vf10
    obtain ⟨tc0, tc1, tc2, tc3, tc4, tf0, tf1, tf2, tf3, tf4, tlt⟩ := HT.out
    clear tf0 tf1 tf2 tf3 tf4
    go_wp2_with fail
    go_ret
    exact ⟨rfl, HO.out⟩
  | false =>
    go_enter Tryz.func55, Tryz.ntmps55
    go_upto_region 1 with fail
    obtain ⟨W0, hW0⟩ : ∃ W, (w.alloc (.cells #[.int .i64 V.m, .int .i64 V.next, .slice q.aA V.act.length q.cA, .int .i64 V.own, .slice q.aR V.run.length q.cR, .int .i64 V.pg.lsn, .int .i64 V.pg.kind, .int .i64 V.pg.level, .int .i64 V.pg.right, .string V.pg.high, .slice q.aP V.pg.items.length q.cP] 32)).alloc (.cells #[.int .i64 T.xmin, .int .i64 T.xmax, .bool false, .string T.key, .string T.val] 62) = W := ⟨_, rfl⟩
    rw [hW0] at HB HT HO ⊢
    clear hW0
    obtain ⟨vc0, vc1, vc2, vc3, vc4, vc5, vc6, vc7, vc8, vc9, vc10, vf0, vf1, vf2, vf3, vf4, vf5, vf6, vf7, vf8, vf9, vf10, vlt⟩ := HB.out
    clear vf0 vf1 vf2 vf3 vf4 vf5 vf6 vf7 vf8 vf9 vf10
    obtain ⟨tc0, tc1, tc2, tc3, tc4, tf0, tf1, tf2, tf3, tf4, tlt⟩ := HT.out
    clear tf0 tf1 tf2 tf3 tf4
    go_wp2_with fail
    refine (C0.out _ (HN.out.more HO.out)).mono ?_
    rintro e w1 ⟨rfl, ho⟩
    clear vc0 vc1 vc2 vc3 vc4 vc5 vc6 vc7 vc8 vc9 vc10 vlt tc0 tc1 tc2 tc3 tc4 tlt
    have HB := hide (HB.out.more ho)
    have HT := hide (HT.out.more ho)
    have HO := hide (o2 HO.out ho)
    clear ho
    cases b0 with
    | true =>
      obtain ⟨vc0, vc1, vc2, vc3, vc4, vc5, vc6, vc7, vc8, vc9, vc10, vf0, vf1, vf2, vf3, vf4, vf5, vf6, vf7, vf8, vf9, vf10, vlt⟩ := HB.out
      clear vf0 vf1 vf2 vf3 vf4 vf5 vf6 vf7 vf8 vf9 vf10
      obtain ⟨tc0, tc1, tc2, tc3, tc4, tf0, tf1, tf2, tf3, tf4, tlt⟩ := HT.out
      clear tf0 tf1 tf2 tf3 tf4
      go_wp2_with fail
      go_ret
      exact ⟨rfl, HO.out⟩
    | false =>
      obtain ⟨vc0, vc1, vc2, vc3, vc4, vc5, vc6, vc7, vc8, vc9, vc10, vf0, vf1, vf2, vf3, vf4, vf5, vf6, vf7, vf8, vf9, vf10, vlt⟩ := HB.out
      clear vf0 vf1 vf2 vf3 vf4 vf5 vf6 vf7 vf8 vf9 vf10
      obtain ⟨tc0, tc1, tc2, tc3, tc4, tf0, tf1, tf2, tf3, tf4, tlt⟩ := HT.out
      clear tf0 tf1 tf2 tf3 tf4
      go_wp2_with fail
      go_ret
      exact ⟨rfl, HO.out⟩
set_option maxRecDepth 100000 in
set_option maxHeartbeats 1600000 in
theorem gone_any (w : World) (V : Vw) (q : Lo) (T : Tp) (z : Int) (h : Sn w V q) (ht : I64 T.xmin ∧ I64 T.xmax) (hz : I64 z) :
    Calls Tryz.prog 24 #[.agg #[.int .i64 V.m, .int .i64 V.next, .slice q.aA V.act.length q.cA, .int .i64 V.own, .slice q.aR V.run.length q.cR, .int .i64 V.pg.lsn, .int .i64 V.pg.kind, .int .i64 V.pg.level, .int .i64 V.pg.right, .string V.pg.high, .slice q.aP V.pg.items.length q.cP], .agg #[.int .i64 T.xmin, .int .i64 T.xmax, .bool T.fz, .string T.key, .string T.val], .int .i64 z] w fun e w' => e = .returned (.bool (vgone V T z)) ∧ Only (fun _ => False) w w' := by
  have C0 := hide (fun W (h : Sn W V q) => never_any W V q T h ht)
  have C1 := hide (fun W (h : Sn W V q) => isEnded_any W T ht)
  have C2 := hide (fun W (h : Sn W V q) => isPast_any W V q T.xmax z h ht.2 hz)
  simp only [vgone]
  obtain ⟨b0, hb0⟩ : ∃ b, vnever V T = b := ⟨_, rfl⟩
  obtain ⟨b1, hb1⟩ : ∃ b, (T.xmax != 0) = b := ⟨_, rfl⟩
  obtain ⟨b2, hb2⟩ : ∃ b, vpast V T.xmax z = b := ⟨_, rfl⟩
  simp only [hb0, hb1, hb2] at C0 C1 C2 ⊢
  clear hb0 hb1 hb2
  have HN := hide h
  clear h ht hz
  have HB := hide ((VB.new w (.int .i64 V.m) (.int .i64 V.next) (.slice q.aA V.act.length q.cA) (.int .i64 V.own) (.slice q.aR V.run.length q.cR) (.int .i64 V.pg.lsn) (.int .i64 V.pg.kind) (.int .i64 V.pg.level) (.int .i64 V.pg.right) (.string V.pg.high) (.slice q.aP V.pg.items.length q.cP)).more (onlyA _ (.cells #[.int .i64 T.xmin, .int .i64 T.xmax, .bool T.fz, .string T.key, .string T.val] 62)))
  have HT := hide (TB.new (w.alloc (.cells #[.int .i64 V.m, .int .i64 V.next, .slice q.aA V.act.length q.cA, .int .i64 V.own, .slice q.aR V.run.length q.cR, .int .i64 V.pg.lsn, .int .i64 V.pg.kind, .int .i64 V.pg.level, .int .i64 V.pg.right, .string V.pg.high, .slice q.aP V.pg.items.length q.cP] 32)) (.int .i64 T.xmin) (.int .i64 T.xmax) (.bool T.fz) (.string T.key) (.string T.val))
  have HO := hide (o2 (onlyA w (.cells #[.int .i64 V.m, .int .i64 V.next, .slice q.aA V.act.length q.cA, .int .i64 V.own, .slice q.aR V.run.length q.cR, .int .i64 V.pg.lsn, .int .i64 V.pg.kind, .int .i64 V.pg.level, .int .i64 V.pg.right, .string V.pg.high, .slice q.aP V.pg.items.length q.cP] 32)) (onlyA _ (.cells #[.int .i64 T.xmin, .int .i64 T.xmax, .bool T.fz, .string T.key, .string T.val] 62)))
  simp only [World.size_alloc] at HT
  go_enter Tryz.func24, Tryz.ntmps24
  go_upto_region 1 with fail
  obtain ⟨W0, hW0⟩ : ∃ W, (w.alloc (.cells #[.int .i64 V.m, .int .i64 V.next, .slice q.aA V.act.length q.cA, .int .i64 V.own, .slice q.aR V.run.length q.cR, .int .i64 V.pg.lsn, .int .i64 V.pg.kind, .int .i64 V.pg.level, .int .i64 V.pg.right, .string V.pg.high, .slice q.aP V.pg.items.length q.cP] 32)).alloc (.cells #[.int .i64 T.xmin, .int .i64 T.xmax, .bool T.fz, .string T.key, .string T.val] 62) = W := ⟨_, rfl⟩
  rw [hW0] at HB HT HO ⊢
  clear hW0
  obtain ⟨vc0, vc1, vc2, vc3, vc4, vc5, vc6, vc7, vc8, vc9, vc10, vf0, vf1, vf2, vf3, vf4, vf5, vf6, vf7, vf8, vf9, vf10, vlt⟩ := HB.out
  clear vf0 vf1 vf2 vf3 vf4 vf5 vf6 vf7 vf8 vf9 vf10
  obtain ⟨tc0, tc1, tc2, tc3, tc4, tf0, tf1, tf2, tf3, tf4, tlt⟩ := HT.out
  clear tf0 tf1 tf2 tf3 tf4
  go_wp2_with fail
  refine (C0.out _ (HN.out.more HO.out)).mono ?_
  rintro e w1 ⟨rfl, ho⟩
  clear vc0 vc1 vc2 vc3 vc4 vc5 vc6 vc7 vc8 vc9 vc10 vlt tc0 tc1 tc2 tc3 tc4 tlt
  have HB := hide (HB.out.more ho)
  have HT := hide (HT.out.more ho)
  have HO := hide (o2 HO.out ho)
  clear ho
  cases b0 with
  | true =>
    obtain ⟨vc0, vc1, vc2, vc3, vc4, vc5, vc6, vc7, vc8, vc9, vc10, vf0, vf1, vf2, vf3, vf4, vf5, vf6, vf7, vf8, vf9, vf10, vlt⟩ := HB.out
    clear vf0 vf1 vf2 vf3 vf4 vf5 vf6 vf7 vf8 vf9 vf10
    obtain ⟨tc0, tc1, tc2, tc3, tc4, tf0, tf1, tf2, tf3, tf4, tlt⟩ := HT.out
    clear tf0 tf1 tf2 tf3 tf4
    go_wp2_with fail
    go_ret
    exact ⟨rfl, HO.out⟩
  | false =>
    obtain ⟨vc0, vc1, vc2, vc3, vc4, vc5, vc6, vc7, vc8, vc9, vc10, vf0, vf1, vf2, vf3, vf4, vf5, vf6, vf7, vf8, vf9, vf10, vlt⟩ := HB.out
    clear vf0 vf1 vf2 vf3 vf4 vf5 vf6 vf7 vf8 vf9 vf10
    obtain ⟨tc0, tc1, tc2, tc3, tc4, tf0, tf1, tf2, tf3, tf4, tlt⟩ := HT.out
    clear tf0 tf1 tf2 tf3 tf4
    go_wp2_with fail
    refine (C1.out _ (HN.out.more HO.out)).mono ?_
    rintro e w2 ⟨rfl, ho⟩
    clear vc0 vc1 vc2 vc3 vc4 vc5 vc6 vc7 vc8 vc9 vc10 vlt tc0 tc1 tc2 tc3 tc4 tlt
    have HB := hide (HB.out.more ho)
    have HT := hide (HT.out.more ho)
    have HO := hide (o2 HO.out ho)
    clear ho
    cases b1 with
    | true =>
      obtain ⟨vc0, vc1, vc2, vc3, vc4, vc5, vc6, vc7, vc8, vc9, vc10, vf0, vf1, vf2, vf3, vf4, vf5, vf6, vf7, vf8, vf9, vf10, vlt⟩ := HB.out
      clear vf0 vf1 vf2 vf3 vf4 vf5 vf6 vf7 vf8 vf9 vf10
      obtain ⟨tc0, tc1, tc2, tc3, tc4, tf0, tf1, tf2, tf3, tf4, tlt⟩ := HT.out
      clear tf0 tf1 tf2 tf3 tf4
      go_wp2_with fail
      refine (C2.out _ (HN.out.more HO.out)).mono ?_
      rintro e w3 ⟨rfl, ho⟩
      clear vc0 vc1 vc2 vc3 vc4 vc5 vc6 vc7 vc8 vc9 vc10 vlt tc0 tc1 tc2 tc3 tc4 tlt
      have HB := hide (HB.out.more ho)
      have HT := hide (HT.out.more ho)
      have HO := hide (o2 HO.out ho)
      clear ho
      cases b2 with
      | true =>
        obtain ⟨vc0, vc1, vc2, vc3, vc4, vc5, vc6, vc7, vc8, vc9, vc10, vf0, vf1, vf2, vf3, vf4, vf5, vf6, vf7, vf8, vf9, vf10, vlt⟩ := HB.out
        clear vf0 vf1 vf2 vf3 vf4 vf5 vf6 vf7 vf8 vf9 vf10
        obtain ⟨tc0, tc1, tc2, tc3, tc4, tf0, tf1, tf2, tf3, tf4, tlt⟩ := HT.out
        clear tf0 tf1 tf2 tf3 tf4
        go_wp2_with fail
        go_ret
        exact ⟨rfl, HO.out⟩
      | false =>
        obtain ⟨vc0, vc1, vc2, vc3, vc4, vc5, vc6, vc7, vc8, vc9, vc10, vf0, vf1, vf2, vf3, vf4, vf5, vf6, vf7, vf8, vf9, vf10, vlt⟩ := HB.out
        clear vf0 vf1 vf2 vf3 vf4 vf5 vf6 vf7 vf8 vf9 vf10
        obtain ⟨tc0, tc1, tc2, tc3, tc4, tf0, tf1, tf2, tf3, tf4, tlt⟩ := HT.out
        clear tf0 tf1 tf2 tf3 tf4
        go_wp2_with fail
        go_ret
        exact ⟨rfl, HO.out⟩
    | false =>
      obtain ⟨vc0, vc1, vc2, vc3, vc4, vc5, vc6, vc7, vc8, vc9, vc10, vf0, vf1, vf2, vf3, vf4, vf5, vf6, vf7, vf8, vf9, vf10, vlt⟩ := HB.out
      clear vf0 vf1 vf2 vf3 vf4 vf5 vf6 vf7 vf8 vf9 vf10
      obtain ⟨tc0, tc1, tc2, tc3, tc4, tf0, tf1, tf2, tf3, tf4, tlt⟩ := HT.out
      clear tf0 tf1 tf2 tf3 tf4
      go_wp2_with fail
      go_ret
      exact ⟨rfl, HO.out⟩
set_option maxRecDepth 100000 in
set_option maxHeartbeats 1600000 in
theorem old_any (w : World) (V : Vw) (q : Lo) (T : Tp) (z : Int) (h : Sn w V q) (ht : I64 T.xmin ∧ I64 T.xmax) (hz : I64 z) :
    Calls Tryz.prog 27 #[.agg #[.int .i64 V.m, .int .i64 V.next, .slice q.aA V.act.length q.cA, .int .i64 V.own, .slice q.aR V.run.length q.cR, .int .i64 V.pg.lsn, .int .i64 V.pg.kind, .int .i64 V.pg.level, .int .i64 V.pg.right, .string V.pg.high, .slice q.aP V.pg.items.length q.cP], .agg #[.int .i64 T.xmin, .int .i64 T.xmax, .bool T.fz, .string T.key, .string T.val], .int .i64 z] w fun e w' => e = .returned (.bool (vold V T z)) ∧ Only (fun _ => False) w w' := by
  have C0 := hide (fun W (h : Sn W V q) => isPast_any W V q T.xmin z h ht.1 hz)
  simp only [vold]
  obtain ⟨fz, hfz⟩ : ∃ b, T.fz = b := ⟨_, rfl⟩
  simp only [hfz] at C0 ⊢
  clear hfz
  obtain ⟨b0, hb0⟩ : ∃ b, vpast V T.xmin z = b := ⟨_, rfl⟩
  simp only [hb0] at C0 ⊢
  clear hb0
  have HN := hide h
  clear h ht hz
  have HB := hide ((VB.new w (.int .i64 V.m) (.int .i64 V.next) (.slice q.aA V.act.length q.cA) (.int .i64 V.own) (.slice q.aR V.run.length q.cR) (.int .i64 V.pg.lsn) (.int .i64 V.pg.kind) (.int .i64 V.pg.level) (.int .i64 V.pg.right) (.string V.pg.high) (.slice q.aP V.pg.items.length q.cP)).more (onlyA _ (.cells #[.int .i64 T.xmin, .int .i64 T.xmax, .bool fz, .string T.key, .string T.val] 62)))
  have HT := hide (TB.new (w.alloc (.cells #[.int .i64 V.m, .int .i64 V.next, .slice q.aA V.act.length q.cA, .int .i64 V.own, .slice q.aR V.run.length q.cR, .int .i64 V.pg.lsn, .int .i64 V.pg.kind, .int .i64 V.pg.level, .int .i64 V.pg.right, .string V.pg.high, .slice q.aP V.pg.items.length q.cP] 32)) (.int .i64 T.xmin) (.int .i64 T.xmax) (.bool fz) (.string T.key) (.string T.val))
  have HO := hide (o2 (onlyA w (.cells #[.int .i64 V.m, .int .i64 V.next, .slice q.aA V.act.length q.cA, .int .i64 V.own, .slice q.aR V.run.length q.cR, .int .i64 V.pg.lsn, .int .i64 V.pg.kind, .int .i64 V.pg.level, .int .i64 V.pg.right, .string V.pg.high, .slice q.aP V.pg.items.length q.cP] 32)) (onlyA _ (.cells #[.int .i64 T.xmin, .int .i64 T.xmax, .bool fz, .string T.key, .string T.val] 62)))
  simp only [World.size_alloc] at HT
  cases fz with
  | true =>
    go_enter Tryz.func27, Tryz.ntmps27
    go_upto_region 1 with fail
    obtain ⟨W0, hW0⟩ : ∃ W, (w.alloc (.cells #[.int .i64 V.m, .int .i64 V.next, .slice q.aA V.act.length q.cA, .int .i64 V.own, .slice q.aR V.run.length q.cR, .int .i64 V.pg.lsn, .int .i64 V.pg.kind, .int .i64 V.pg.level, .int .i64 V.pg.right, .string V.pg.high, .slice q.aP V.pg.items.length q.cP] 32)).alloc (.cells #[.int .i64 T.xmin, .int .i64 T.xmax, .bool true, .string T.key, .string T.val] 62) = W := ⟨_, rfl⟩
    rw [hW0] at HB HT HO ⊢
    clear hW0
    obtain ⟨vc0, vc1, vc2, vc3, vc4, vc5, vc6, vc7, vc8, vc9, vc10, vf0, vf1, vf2, vf3, vf4, vf5, vf6, vf7, vf8, vf9, vf10, vlt⟩ := HB.out
    clear vf0 vf1 vf2 vf3 vf4 vf5 vf6 vf7 vf8 vf9 vf10
    obtain ⟨tc0, tc1, tc2, tc3, tc4, tf0, tf1, tf2, tf3, tf4, tlt⟩ := HT.out
    clear tf0 tf1 tf2 tf3 tf4
    go_wp2_with fail
    go_ret
    exact ⟨rfl, HO.out⟩
  | false =>
    go_enter Tryz.func27, Tryz.ntmps27
    go_upto_region 1 with fail
    obtain ⟨W0, hW0⟩ : ∃ W, (w.alloc (.cells #[.int .i64 V.m, .int .i64 V.next, .slice q.aA V.act.length q.cA, .int .i64 V.own, .slice q.aR V.run.length q.cR, .int .i64 V.pg.lsn, .int .i64 V.pg.kind, .int .i64 V.pg.level, .int .i64 V.pg.right, .string V.pg.high, .slice q.aP V.pg.items.length q.cP] 32)).alloc (.cells #[.int .i64 T.xmin, .int .i64 T.xmax, .bool false, .string T.key, .string T.val] 62) = W := ⟨_, rfl⟩
    rw [hW0] at HB HT HO ⊢
    clear hW0
    obtain ⟨vc0, vc1, vc2, vc3, vc4, vc5, vc6, vc7, vc8, vc9, vc10, vf0, vf1, vf2, vf3, vf4, vf5, vf6, vf7, vf8, vf9, vf10, vlt⟩ := HB.out
    clear vf0 vf1 vf2 vf3 vf4 vf5 vf6 vf7 vf8 vf9 vf10
    obtain ⟨tc0, tc1, tc2, tc3, tc4, tf0, tf1, tf2, tf3, tf4, tlt⟩ := HT.out
    clear tf0 tf1 tf2 tf3 tf4
    go_wp2_with fail
    refine (C0.out _ (HN.out.more HO.out)).mono ?_
    rintro e w1 ⟨rfl, ho⟩
    clear vc0 vc1 vc2 vc3 vc4 vc5 vc6 vc7 vc8 vc9 vc10 vlt tc0 tc1 tc2 tc3 tc4 tlt
    have HB := hide (HB.out.more ho)
    have HT := hide (HT.out.more ho)
    have HO := hide (o2 HO.out ho)
    clear ho
    cases b0 with
    | true =>
      obtain ⟨vc0, vc1, vc2, vc3, vc4, vc5, vc6, vc7, vc8, vc9, vc10, vf0, vf1, vf2, vf3, vf4, vf5, vf6, vf7, vf8, vf9, vf10, vlt⟩ := HB.out
      clear vf0 vf1 vf2 vf3 vf4 vf5 vf6 vf7 vf8 vf9 vf10
      obtain ⟨tc0, tc1, tc2, tc3, tc4, tf0, tf1, tf2, tf3, tf4, tlt⟩ := HT.out
      clear tf0 tf1 tf2 tf3 tf4
      go_wp2_with fail
      go_ret
      exact ⟨rfl, HO.out⟩
    | false =>
      obtain ⟨vc0, vc1, vc2, vc3, vc4, vc5, vc6, vc7, vc8, vc9, vc10, vf0, vf1, vf2, vf3, vf4, vf5, vf6, vf7, vf8, vf9, vf10, vlt⟩ := HB.out
      clear vf0 vf1 vf2 vf3 vf4 vf5 vf6 vf7 vf8 vf9 vf10
      obtain ⟨tc0, tc1, tc2, tc3, tc4, tf0, tf1, tf2, tf3, tf4, tlt⟩ := HT.out
      clear tf0 tf1 tf2 tf3 tf4
      go_wp2_with fail
      go_ret
      exact ⟨rfl, HO.out⟩
set_option maxRecDepth 100000 in
set_option maxHeartbeats 1600000 in
theorem off_any (w : World) (V : Vw) (q : Lo) (T : Tp) (h : Sn w V q) (ht : I64 T.xmin ∧ I64 T.xmax) :
    Calls Tryz.prog 28 #[.agg #[.int .i64 V.m, .int .i64 V.next, .slice q.aA V.act.length q.cA, .int .i64 V.own, .slice q.aR V.run.length q.cR, .int .i64 V.pg.lsn, .int .i64 V.pg.kind, .int .i64 V.pg.level, .int .i64 V.pg.right, .string V.pg.high, .slice q.aP V.pg.items.length q.cP], .agg #[.int .i64 T.xmin, .int .i64 T.xmax, .bool T.fz, .string T.key, .string T.val]] w fun e w' => e = .returned (.bool (voff V T)) ∧ Only (fun _ => False) w w' := by
  have C0 := hide (fun W (h : Sn W V q) => isEnded_any W T ht)
  have C1 := hide (fun W (h : Sn W V q) => isAbo_any W V q T.xmax h ht.2)
  simp only [voff]
  obtain ⟨b0, hb0⟩ : ∃ b, (T.xmax != 0) = b := ⟨_, rfl⟩
  obtain ⟨b1, hb1⟩ : ∃ b, vabo V T.xmax = b := ⟨_, rfl⟩
  simp only [hb0, hb1] at C0 C1 ⊢
  clear hb0 hb1
  have HN := hide h
  clear h ht
  have HB := hide ((VB.new w (.int .i64 V.m) (.int .i64 V.next) (.slice q.aA V.act.length q.cA) (.int .i64 V.own) (.slice q.aR V.run.length q.cR) (.int .i64 V.pg.lsn) (.int .i64 V.pg.kind) (.int .i64 V.pg.level) (.int .i64 V.pg.right) (.string V.pg.high) (.slice q.aP V.pg.items.length q.cP)).more (onlyA _ (.cells #[.int .i64 T.xmin, .int .i64 T.xmax, .bool T.fz, .string T.key, .string T.val] 62)))
  have HT := hide (TB.new (w.alloc (.cells #[.int .i64 V.m, .int .i64 V.next, .slice q.aA V.act.length q.cA, .int .i64 V.own, .slice q.aR V.run.length q.cR, .int .i64 V.pg.lsn, .int .i64 V.pg.kind, .int .i64 V.pg.level, .int .i64 V.pg.right, .string V.pg.high, .slice q.aP V.pg.items.length q.cP] 32)) (.int .i64 T.xmin) (.int .i64 T.xmax) (.bool T.fz) (.string T.key) (.string T.val))
  have HO := hide (o2 (onlyA w (.cells #[.int .i64 V.m, .int .i64 V.next, .slice q.aA V.act.length q.cA, .int .i64 V.own, .slice q.aR V.run.length q.cR, .int .i64 V.pg.lsn, .int .i64 V.pg.kind, .int .i64 V.pg.level, .int .i64 V.pg.right, .string V.pg.high, .slice q.aP V.pg.items.length q.cP] 32)) (onlyA _ (.cells #[.int .i64 T.xmin, .int .i64 T.xmax, .bool T.fz, .string T.key, .string T.val] 62)))
  simp only [World.size_alloc] at HT
  go_enter Tryz.func28, Tryz.ntmps28
  go_upto_region 1 with fail
  obtain ⟨W0, hW0⟩ : ∃ W, (w.alloc (.cells #[.int .i64 V.m, .int .i64 V.next, .slice q.aA V.act.length q.cA, .int .i64 V.own, .slice q.aR V.run.length q.cR, .int .i64 V.pg.lsn, .int .i64 V.pg.kind, .int .i64 V.pg.level, .int .i64 V.pg.right, .string V.pg.high, .slice q.aP V.pg.items.length q.cP] 32)).alloc (.cells #[.int .i64 T.xmin, .int .i64 T.xmax, .bool T.fz, .string T.key, .string T.val] 62) = W := ⟨_, rfl⟩
  rw [hW0] at HB HT HO ⊢
  clear hW0
  obtain ⟨vc0, vc1, vc2, vc3, vc4, vc5, vc6, vc7, vc8, vc9, vc10, vf0, vf1, vf2, vf3, vf4, vf5, vf6, vf7, vf8, vf9, vf10, vlt⟩ := HB.out
  clear vf0 vf1 vf2 vf3 vf4 vf5 vf6 vf7 vf8 vf9 vf10
  obtain ⟨tc0, tc1, tc2, tc3, tc4, tf0, tf1, tf2, tf3, tf4, tlt⟩ := HT.out
  clear tf0 tf1 tf2 tf3 tf4
  go_wp2_with fail
  refine (C0.out _ (HN.out.more HO.out)).mono ?_
  rintro e w1 ⟨rfl, ho⟩
  clear vc0 vc1 vc2 vc3 vc4 vc5 vc6 vc7 vc8 vc9 vc10 vlt tc0 tc1 tc2 tc3 tc4 tlt
  have HB := hide (HB.out.more ho)
  have HT := hide (HT.out.more ho)
  have HO := hide (o2 HO.out ho)
  clear ho
  cases b0 with
  | true =>
    obtain ⟨vc0, vc1, vc2, vc3, vc4, vc5, vc6, vc7, vc8, vc9, vc10, vf0, vf1, vf2, vf3, vf4, vf5, vf6, vf7, vf8, vf9, vf10, vlt⟩ := HB.out
    clear vf0 vf1 vf2 vf3 vf4 vf5 vf6 vf7 vf8 vf9 vf10
    obtain ⟨tc0, tc1, tc2, tc3, tc4, tf0, tf1, tf2, tf3, tf4, tlt⟩ := HT.out
    clear tf0 tf1 tf2 tf3 tf4
    go_wp2_with fail
    refine (C1.out _ (HN.out.more HO.out)).mono ?_
    rintro e w2 ⟨rfl, ho⟩
    clear vc0 vc1 vc2 vc3 vc4 vc5 vc6 vc7 vc8 vc9 vc10 vlt tc0 tc1 tc2 tc3 tc4 tlt
    have HB := hide (HB.out.more ho)
    have HT := hide (HT.out.more ho)
    have HO := hide (o2 HO.out ho)
    clear ho
    cases b1 with
    | true =>
      obtain ⟨vc0, vc1, vc2, vc3, vc4, vc5, vc6, vc7, vc8, vc9, vc10, vf0, vf1, vf2, vf3, vf4, vf5, vf6, vf7, vf8, vf9, vf10, vlt⟩ := HB.out
      clear vf0 vf1 vf2 vf3 vf4 vf5 vf6 vf7 vf8 vf9 vf10
      obtain ⟨tc0, tc1, tc2, tc3, tc4, tf0, tf1, tf2, tf3, tf4, tlt⟩ := HT.out
      clear tf0 tf1 tf2 tf3 tf4
      go_wp2_with fail
      go_ret
      exact ⟨rfl, HO.out⟩
    | false =>
      obtain ⟨vc0, vc1, vc2, vc3, vc4, vc5, vc6, vc7, vc8, vc9, vc10, vf0, vf1, vf2, vf3, vf4, vf5, vf6, vf7, vf8, vf9, vf10, vlt⟩ := HB.out
      clear vf0 vf1 vf2 vf3 vf4 vf5 vf6 vf7 vf8 vf9 vf10
      obtain ⟨tc0, tc1, tc2, tc3, tc4, tf0, tf1, tf2, tf3, tf4, tlt⟩ := HT.out
      clear tf0 tf1 tf2 tf3 tf4
      go_wp2_with fail
      go_ret
      exact ⟨rfl, HO.out⟩
  | false =>
    obtain ⟨vc0, vc1, vc2, vc3, vc4, vc5, vc6, vc7, vc8, vc9, vc10, vf0, vf1, vf2, vf3, vf4, vf5, vf6, vf7, vf8, vf9, vf10, vlt⟩ := HB.out
    clear vf0 vf1 vf2 vf3 vf4 vf5 vf6 vf7 vf8 vf9 vf10
    obtain ⟨tc0, tc1, tc2, tc3, tc4, tf0, tf1, tf2, tf3, tf4, tlt⟩ := HT.out
    clear tf0 tf1 tf2 tf3 tf4
    go_wp2_with fail
    go_ret
    exact ⟨rfl, HO.out⟩
theorem Or3.any {w w' : World} {e : Ending} {c : Prop} {P : Pg} (h : Or3 w w' e c P) : ∃ p k, Res w w' e p k ∧ ((c ∧ p = .none ∧ k = 3) ∨ (¬ c ∧ p = P ∧ k = 0)) := by
  by_cases hc : c
  · exact ⟨_, _, h.1 hc, .inl ⟨hc, rfl, rfl⟩⟩
  · exact ⟨_, _, h.2 hc, .inr ⟨hc, rfl, rfl⟩⟩
/-- The variables of Insert: the page, the entry, the page that is answered. -/
theorem ins_new (w : World) (v0 v1 v2 v3 v4 v5 : Value) (e : En) : Pag (((w.alloc (.cells #[v0, v1, v2, v3, v4, v5] 30)).alloc (.cells #[.string e.key, .int .i64 e.page, .int .i64 e.slot] 74)).alloc (.cells #[.int .i64 0, .int .i64 0, .int .i64 0, .int .i64 0, .string ⟨#[]⟩, .slice none 0 0] 30)) w.heap.size v0 v1 v2 v3 v4 v5 ∧ Ev (((w.alloc (.cells #[v0, v1, v2, v3, v4, v5] 30)).alloc (.cells #[.string e.key, .int .i64 e.page, .int .i64 e.slot] 74)).alloc (.cells #[.int .i64 0, .int .i64 0, .int .i64 0, .int .i64 0, .string ⟨#[]⟩, .slice none 0 0] 30)) (w.heap.size + 1) e ∧ Pag (((w.alloc (.cells #[v0, v1, v2, v3, v4, v5] 30)).alloc (.cells #[.string e.key, .int .i64 e.page, .int .i64 e.slot] 74)).alloc (.cells #[.int .i64 0, .int .i64 0, .int .i64 0, .int .i64 0, .string ⟨#[]⟩, .slice none 0 0] 30)) (w.heap.size + 1 + 1) (.int .i64 0) (.int .i64 0) (.int .i64 0) (.int .i64 0) (.string ⟨#[]⟩) (.slice none 0 0) ∧ Only (fun _ => False) w (((w.alloc (.cells #[v0, v1, v2, v3, v4, v5] 30)).alloc (.cells #[.string e.key, .int .i64 e.page, .int .i64 e.slot] 74)).alloc (.cells #[.int .i64 0, .int .i64 0, .int .i64 0, .int .i64 0, .string ⟨#[]⟩, .slice none 0 0] 30)) := by
  obtain ⟨h1, h2, h3⟩ := pe_new w v0 v1 v2 v3 v4 v5 e
  refine ⟨h1.more (onlyA _ _), h2.more (onlyA _ _), ?_, o2 h3 (onlyA _ _)⟩
  have e1 := Pag.new ((w.alloc (.cells #[v0, v1, v2, v3, v4, v5] 30)).alloc (.cells #[.string e.key, .int .i64 e.page, .int .i64 e.slot] 74)) (.int .i64 0) (.int .i64 0) (.int .i64 0) (.int .i64 0) (.string ⟨#[]⟩) (.slice none 0 0)
  rw [World.size_alloc, World.size_alloc] at e1
  exact e1
/-- A page that a call answered, laid in the variable rb that is answered. -/
theorem resSix {w W5 W6 : World} {p : Pg} {k : Int} {B cp : Nat} {ao : Option Addr} (hS : Strs W6 B ao p.items) (hF : Fit ao p.items.length cp) (ho : Only (fun _ => False) W5 W6) (hB : 0 < p.items.length → W5.heap.size ≤ B) (hw : Only (fun _ => False) w W5) (rb : Nat) (h1 : w.heap.size ≤ rb) (h2 : rb < W5.heap.size) (v0 v1 v2 v3 v4 v5 : Value) :
    Res w ((((((W6.setCell ⟨rb, 0, none⟩ v0).setCell ⟨rb, 1, none⟩ v1).setCell ⟨rb, 2, none⟩ v2).setCell ⟨rb, 3, none⟩ v3).setCell ⟨rb, 4, none⟩ v4).setCell ⟨rb, 5, none⟩ v5) (.returned (.tuple #[.agg #[.int .i64 p.lsn, .int .i64 p.kind, .int .i64 p.level, .int .i64 p.right, .string p.high, .slice ao p.items.length cp], .int .i64 k])) p k := by
  have h6 := Only.six W6 rb v0 v1 v2 v3 v4 v5
  exact ⟨B, ao, cp, rfl, hS.kept h6 (fun h => by have := hB h; omega), hF, (o2 hw ho).trans h6 (fun i hi e => by omega), fun h => by have := hB h; have := hw.size; omega⟩
theorem resErr {w W : World} {c : Int} (rb : Nat) (hw : Only (fun _ => False) w W) (h1 : w.heap.size ≤ rb) : Res w ((((((W.setCell ⟨rb, 0, none⟩ (.int .i64 0)).setCell ⟨rb, 1, none⟩ (.int .i64 0)).setCell ⟨rb, 2, none⟩ (.int .i64 0)).setCell ⟨rb, 3, none⟩ (.int .i64 0)).setCell ⟨rb, 4, none⟩ (.string ⟨#[]⟩)).setCell ⟨rb, 5, none⟩ (.slice none 0 0)) (.returned (.tuple #[.agg #[.int .i64 0, .int .i64 0, .int .i64 0, .int .i64 0, .string ⟨#[]⟩, .slice none 0 0], .int .i64 c])) .none c :=
  Res.none c (hw.trans (Only.six W rb _ _ _ _ _ _) (fun i hi e => by omega))
/-- The items of a leaf with an entry more. -/
def insI (l : List ByteArray) (es : List En) (e : En) : List ByteArray := l.take (plE es e) ++ e.enc :: l.drop (plE es e)
/-- What Insert answers of a leaf. -/
structure InsQ (w w' : World) (x : Ending) (a r : Int) (h : ByteArray) (hi e : En) (l : List ByteArray) (es : List En) : Prop where
  bad : (e.ok = false ∨ byd hi e = true ∨ e ∈ es) → Res w w' x .none 140
  good : e.ok = true → byd hi e = false → e ∉ es → Or3 w w' x (255 < (insI l es e).length ∨ 512 < 20 + h.size + isz (insI l es e)) ⟨a, 3, 0, r, h, insI l es e⟩
theorem HiIs.size {h : ByteArray} {hi : En} (x : HiIs h hi) : h.size ≤ 45 := by
  rcases x with ⟨rfl, _⟩ | ⟨rfl, ho⟩
  · decide
  · have := lay_len (En.few_ok ho).1
    rw [← bl_len, bl_enc]
    exact this
theorem enc_size {e : En} (h : e.ok = true) : e.enc.size ≤ 45 := by
  rw [← bl_len, bl_enc]
  exact lay_len (En.few_ok h).1
end Go.Proofs.YtpnbhddmdfcjdaaGreat
