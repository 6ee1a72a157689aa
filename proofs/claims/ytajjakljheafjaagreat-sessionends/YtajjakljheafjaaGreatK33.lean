/- Parts. -/
import Derived.Test.YtajjakljheafjaaGreatK30
set_option maxRecDepth 100000
namespace Go.Proofs.YtajjakljheafjaaGreat
open Go.RowKit
set_option maxHeartbeats 1600000 in
theorem isOwn_any (w:World) (V:Vw) (q:Lo) (x:Int) (h:Sn w V q) (_:I64 x) :
    Calls Tryz.prog 201 #[.agg #[.int .i64 V.m,.int .i64 V.next,.slice q.aA V.act.length q.cA,.int .i64 V.own,.slice q.aR V.run.length q.cR,.int .i64 V.pg.lsn,.int .i64 V.pg.kind,.int .i64 V.pg.level,.int .i64 V.pg.right,.string V.pg.high,.slice q.aP V.pg.items.length q.cP],.int .i64 x] w fun e w'=>e=.returned (.bool (vown V x))∧Only (fun _=>False) w w':=by
  simp only [vown]
  have HN:=hide h
  clear h
  have HB:=hide (VB.new w (.int .i64 V.m) (.int .i64 V.next) (.slice q.aA V.act.length q.cA) (.int .i64 V.own) (.slice q.aR V.run.length q.cR) (.int .i64 V.pg.lsn) (.int .i64 V.pg.kind) (.int .i64 V.pg.level) (.int .i64 V.pg.right) (.string V.pg.high) (.slice q.aP V.pg.items.length q.cP))
  have HO:=hide (onlyA w (.cells #[.int .i64 V.m,.int .i64 V.next,.slice q.aA V.act.length q.cA,.int .i64 V.own,.slice q.aR V.run.length q.cR,.int .i64 V.pg.lsn,.int .i64 V.pg.kind,.int .i64 V.pg.level,.int .i64 V.pg.right,.string V.pg.high,.slice q.aP V.pg.items.length q.cP] 42))
  by_cases h0:V.own=0
  ·
    have g1:(V.own != 0)=false:=by simp [h0]
    clear h0
    rw [g1]
    go_enter Tryz.func201,Tryz.ntmps201
    go_upto_region 1 with fail
    obtain ⟨W0,hW0⟩:=exq (w.alloc (.cells #[.int .i64 V.m,.int .i64 V.next,.slice q.aA V.act.length q.cA,.int .i64 V.own,.slice q.aR V.run.length q.cR,.int .i64 V.pg.lsn,.int .i64 V.pg.kind,.int .i64 V.pg.level,.int .i64 V.pg.right,.string V.pg.high,.slice q.aP V.pg.items.length q.cP] 42))
    rw [hW0] at HB HO ⊢
    clear hW0
    obtain ⟨vc0,vc1,vc2,vc3,vc4,vc5,vc6,vc7,vc8,vc9,vc10,vf0,vf1,vf2,vf3,vf4,vf5,vf6,vf7,vf8,vf9,vf10,vlt⟩:=HB.out
    clear vf0 vf1 vf2 vf3 vf4 vf5 vf6 vf7 vf8 vf9 vf10
    go_wp2_with fail
    go_ret
    exact ⟨rfl,HO.out⟩
  ·
    have g1:(V.own != 0)=true:=by simp [h0]
    clear h0
    rw [g1]
    by_cases h1:x=V.own
    ·
      have g2:(x == V.own)=true:=by simp [h1]
      clear h1
      rw [g2]
      go_enter Tryz.func201,Tryz.ntmps201
      go_upto_region 1 with fail
      obtain ⟨W0,hW0⟩:=exq (w.alloc (.cells #[.int .i64 V.m,.int .i64 V.next,.slice q.aA V.act.length q.cA,.int .i64 V.own,.slice q.aR V.run.length q.cR,.int .i64 V.pg.lsn,.int .i64 V.pg.kind,.int .i64 V.pg.level,.int .i64 V.pg.right,.string V.pg.high,.slice q.aP V.pg.items.length q.cP] 42))
      rw [hW0] at HB HO ⊢
      clear hW0
      obtain ⟨vc0,vc1,vc2,vc3,vc4,vc5,vc6,vc7,vc8,vc9,vc10,vf0,vf1,vf2,vf3,vf4,vf5,vf6,vf7,vf8,vf9,vf10,vlt⟩:=HB.out
      clear vf0 vf1 vf2 vf3 vf4 vf5 vf6 vf7 vf8 vf9 vf10
      go_wp2_with fail
      go_ret
      exact ⟨rfl,HO.out⟩
    ·
      have g2:(x == V.own)=false:=by simp [h1]
      clear h1
      rw [g2]
      go_enter Tryz.func201,Tryz.ntmps201
      go_upto_region 1 with fail
      obtain ⟨W0,hW0⟩:=exq (w.alloc (.cells #[.int .i64 V.m,.int .i64 V.next,.slice q.aA V.act.length q.cA,.int .i64 V.own,.slice q.aR V.run.length q.cR,.int .i64 V.pg.lsn,.int .i64 V.pg.kind,.int .i64 V.pg.level,.int .i64 V.pg.right,.string V.pg.high,.slice q.aP V.pg.items.length q.cP] 42))
      rw [hW0] at HB HO ⊢
      clear hW0
      obtain ⟨vc0,vc1,vc2,vc3,vc4,vc5,vc6,vc7,vc8,vc9,vc10,vf0,vf1,vf2,vf3,vf4,vf5,vf6,vf7,vf8,vf9,vf10,vlt⟩:=HB.out
      clear vf0 vf1 vf2 vf3 vf4 vf5 vf6 vf7 vf8 vf9 vf10
      go_wp2_with fail
      go_ret
      exact ⟨rfl,HO.out⟩
set_option maxHeartbeats 1600000 in
theorem status_any (w:World) (V:Vw) (q:Lo) (x:Int) (h:Sn w V q) (hx:I64 x) :
    Calls Tryz.prog 200 #[.agg #[.int .i64 V.m,.int .i64 V.next,.slice q.aA V.act.length q.cA,.int .i64 V.own,.slice q.aR V.run.length q.cR,.int .i64 V.pg.lsn,.int .i64 V.pg.kind,.int .i64 V.pg.level,.int .i64 V.pg.right,.string V.pg.high,.slice q.aP V.pg.items.length q.cP],.int .i64 x] w fun e w'=>e=.returned (.int .u8 (vsi V x))∧Only (fun _=>False) w w':=by
  have C0:=hide (fun W (h:Sn W V q)=>quiet_only (scontains_any W q.bR q.cR q.aR V.run x h.run))
  have C1:=hide (fun W (h:Sn W V q)=>cget_any W V.m V.pg.lsn V.pg.kind V.pg.level V.pg.right x V.pg.high q.cP q.bP q.aP V.pg.items h.m hx h.pg)
  have HN:=hide h
  clear h hx
  have HB:=hide (VB.new w (.int .i64 V.m) (.int .i64 V.next) (.slice q.aA V.act.length q.cA) (.int .i64 V.own) (.slice q.aR V.run.length q.cR) (.int .i64 V.pg.lsn) (.int .i64 V.pg.kind) (.int .i64 V.pg.level) (.int .i64 V.pg.right) (.string V.pg.high) (.slice q.aP V.pg.items.length q.cP))
  have HO:=hide (onlyA w (.cells #[.int .i64 V.m,.int .i64 V.next,.slice q.aA V.act.length q.cA,.int .i64 V.own,.slice q.aR V.run.length q.cR,.int .i64 V.pg.lsn,.int .i64 V.pg.kind,.int .i64 V.pg.level,.int .i64 V.pg.right,.string V.pg.high,.slice q.aP V.pg.items.length q.cP] 42))
  by_cases hr:x ∈ V.run
  ·
    rw [decide_eq_true hr] at C0
    have hv:vsi V x=1:=by unfold vsi; rw [if_pos hr]
    rw [hv]
    clear hr hv
    go_enter Tryz.func200,Tryz.ntmps200
    go_upto_region 1 with fail
    obtain ⟨W0,hW0⟩:=exq (w.alloc (.cells #[.int .i64 V.m,.int .i64 V.next,.slice q.aA V.act.length q.cA,.int .i64 V.own,.slice q.aR V.run.length q.cR,.int .i64 V.pg.lsn,.int .i64 V.pg.kind,.int .i64 V.pg.level,.int .i64 V.pg.right,.string V.pg.high,.slice q.aP V.pg.items.length q.cP] 42))
    rw [hW0] at HB HO ⊢
    clear hW0
    obtain ⟨vc0,vc1,vc2,vc3,vc4,vc5,vc6,vc7,vc8,vc9,vc10,vf0,vf1,vf2,vf3,vf4,vf5,vf6,vf7,vf8,vf9,vf10,vlt⟩:=HB.out
    clear vf0 vf1 vf2 vf3 vf4 vf5 vf6 vf7 vf8 vf9 vf10
    go_wp2_with fail
    refine (C0.out _ (HN.out.more HO.out)).mono ?_
    rintro e w1 ⟨rfl,ho⟩
    clear vc0 vc1 vc2 vc3 vc4 vc5 vc6 vc7 vc8 vc9 vc10 vlt
    have HB:=hide (HB.out.more ho)
    have HO:=hide (o2 HO.out ho)
    clear ho
    obtain ⟨vc0,vc1,vc2,vc3,vc4,vc5,vc6,vc7,vc8,vc9,vc10,vf0,vf1,vf2,vf3,vf4,vf5,vf6,vf7,vf8,vf9,vf10,vlt⟩:=HB.out
    clear vf0 vf1 vf2 vf3 vf4 vf5 vf6 vf7 vf8 vf9 vf10
    go_wp2_with fail
    go_ret
    exact ⟨rfl,HO.out⟩
  ·
    rw [decide_eq_false hr] at C0
    have hv:vsi V x=(gst V.m V.pg x:Int):=by unfold vsi; rw [if_neg hr]
    rw [hv]
    clear hr hv
    go_enter Tryz.func200,Tryz.ntmps200
    go_upto_region 1 with fail
    obtain ⟨W0,hW0⟩:=exq (w.alloc (.cells #[.int .i64 V.m,.int .i64 V.next,.slice q.aA V.act.length q.cA,.int .i64 V.own,.slice q.aR V.run.length q.cR,.int .i64 V.pg.lsn,.int .i64 V.pg.kind,.int .i64 V.pg.level,.int .i64 V.pg.right,.string V.pg.high,.slice q.aP V.pg.items.length q.cP] 42))
    rw [hW0] at HB HO ⊢
    clear hW0
    obtain ⟨vc0,vc1,vc2,vc3,vc4,vc5,vc6,vc7,vc8,vc9,vc10,vf0,vf1,vf2,vf3,vf4,vf5,vf6,vf7,vf8,vf9,vf10,vlt⟩:=HB.out
    clear vf0 vf1 vf2 vf3 vf4 vf5 vf6 vf7 vf8 vf9 vf10
    go_wp2_with fail
    refine (C0.out _ (HN.out.more HO.out)).mono ?_
    rintro e w2 ⟨rfl,ho⟩
    clear vc0 vc1 vc2 vc3 vc4 vc5 vc6 vc7 vc8 vc9 vc10 vlt
    have HB:=hide (HB.out.more ho)
    have HO:=hide (o2 HO.out ho)
    clear ho
    obtain ⟨vc0,vc1,vc2,vc3,vc4,vc5,vc6,vc7,vc8,vc9,vc10,vf0,vf1,vf2,vf3,vf4,vf5,vf6,vf7,vf8,vf9,vf10,vlt⟩:=HB.out
    clear vf0 vf1 vf2 vf3 vf4 vf5 vf6 vf7 vf8 vf9 vf10
    go_wp2_with fail
    refine (C1.out _ (HN.out.more HO.out)).mono ?_
    rintro e w3 ⟨rfl,ho⟩
    clear vc0 vc1 vc2 vc3 vc4 vc5 vc6 vc7 vc8 vc9 vc10 vlt
    have HB:=hide (HB.out.more ho)
    have HO:=hide (o2 HO.out ho)
    clear ho
    obtain ⟨vc0,vc1,vc2,vc3,vc4,vc5,vc6,vc7,vc8,vc9,vc10,vf0,vf1,vf2,vf3,vf4,vf5,vf6,vf7,vf8,vf9,vf10,vlt⟩:=HB.out
    clear vf0 vf1 vf2 vf3 vf4 vf5 vf6 vf7 vf8 vf9 vf10
    go_wp2_with fail
    go_ret
    exact ⟨rfl,HO.out⟩
set_option maxHeartbeats 1600000 in
theorem isCom_any (w:World) (V:Vw) (q:Lo) (x:Int) (h:Sn w V q) (hx:I64 x) :
    Calls Tryz.prog 198 #[.agg #[.int .i64 V.m,.int .i64 V.next,.slice q.aA V.act.length q.cA,.int .i64 V.own,.slice q.aR V.run.length q.cR,.int .i64 V.pg.lsn,.int .i64 V.pg.kind,.int .i64 V.pg.level,.int .i64 V.pg.right,.string V.pg.high,.slice q.aP V.pg.items.length q.cP],.int .i64 x] w fun e w'=>e=.returned (.bool (vcom V x))∧Only (fun _=>False) w w':=by
  have C0:=hide (fun W (h:Sn W V q)=>status_any W V q x h hx)
  simp only [vcom]
  obtain ⟨b0,hb0⟩:=exq (vsi V x)
  have hs0:0≤b0∧b0 < 4:=by rw [← hb0]; exact vsi_bd _ _
  simp only [hb0] at C0 ⊢
  clear hb0
  have HN:=hide h
  clear h hx
  have HB:=hide (VB.new w (.int .i64 V.m) (.int .i64 V.next) (.slice q.aA V.act.length q.cA) (.int .i64 V.own) (.slice q.aR V.run.length q.cR) (.int .i64 V.pg.lsn) (.int .i64 V.pg.kind) (.int .i64 V.pg.level) (.int .i64 V.pg.right) (.string V.pg.high) (.slice q.aP V.pg.items.length q.cP))
  have HO:=hide (onlyA w (.cells #[.int .i64 V.m,.int .i64 V.next,.slice q.aA V.act.length q.cA,.int .i64 V.own,.slice q.aR V.run.length q.cR,.int .i64 V.pg.lsn,.int .i64 V.pg.kind,.int .i64 V.pg.level,.int .i64 V.pg.right,.string V.pg.high,.slice q.aP V.pg.items.length q.cP] 42))
  go_enter Tryz.func198,Tryz.ntmps198
  go_upto_region 1 with fail
  obtain ⟨W0,hW0⟩:=exq (w.alloc (.cells #[.int .i64 V.m,.int .i64 V.next,.slice q.aA V.act.length q.cA,.int .i64 V.own,.slice q.aR V.run.length q.cR,.int .i64 V.pg.lsn,.int .i64 V.pg.kind,.int .i64 V.pg.level,.int .i64 V.pg.right,.string V.pg.high,.slice q.aP V.pg.items.length q.cP] 42))
  rw [hW0] at HB HO ⊢
  clear hW0
  obtain ⟨vc0,vc1,vc2,vc3,vc4,vc5,vc6,vc7,vc8,vc9,vc10,vf0,vf1,vf2,vf3,vf4,vf5,vf6,vf7,vf8,vf9,vf10,vlt⟩:=HB.out
  clear vf0 vf1 vf2 vf3 vf4 vf5 vf6 vf7 vf8 vf9 vf10
  go_wp2_with fail
  refine (C0.out _ (HN.out.more HO.out)).mono ?_
  rintro e w1 ⟨rfl,ho⟩
  clear vc0 vc1 vc2 vc3 vc4 vc5 vc6 vc7 vc8 vc9 vc10 vlt
  have HB:=hide (HB.out.more ho)
  have HO:=hide (o2 HO.out ho)
  clear ho
  rcases four hs0.1 hs0.2 with rfl | rfl | rfl | rfl
  · clear hs0
    obtain ⟨vc0,vc1,vc2,vc3,vc4,vc5,vc6,vc7,vc8,vc9,vc10,vf0,vf1,vf2,vf3,vf4,vf5,vf6,vf7,vf8,vf9,vf10,vlt⟩:=HB.out
    clear vf0 vf1 vf2 vf3 vf4 vf5 vf6 vf7 vf8 vf9 vf10
    go_wp2_with fail
    go_ret
    exact ⟨rfl,HO.out⟩
  · clear hs0
    obtain ⟨vc0,vc1,vc2,vc3,vc4,vc5,vc6,vc7,vc8,vc9,vc10,vf0,vf1,vf2,vf3,vf4,vf5,vf6,vf7,vf8,vf9,vf10,vlt⟩:=HB.out
    clear vf0 vf1 vf2 vf3 vf4 vf5 vf6 vf7 vf8 vf9 vf10
    go_wp2_with fail
    go_ret
    exact ⟨rfl,HO.out⟩
  · clear hs0
    obtain ⟨vc0,vc1,vc2,vc3,vc4,vc5,vc6,vc7,vc8,vc9,vc10,vf0,vf1,vf2,vf3,vf4,vf5,vf6,vf7,vf8,vf9,vf10,vlt⟩:=HB.out
    clear vf0 vf1 vf2 vf3 vf4 vf5 vf6 vf7 vf8 vf9 vf10
    go_wp2_with fail
    go_ret
    exact ⟨rfl,HO.out⟩
  · clear hs0
    obtain ⟨vc0,vc1,vc2,vc3,vc4,vc5,vc6,vc7,vc8,vc9,vc10,vf0,vf1,vf2,vf3,vf4,vf5,vf6,vf7,vf8,vf9,vf10,vlt⟩:=HB.out
    clear vf0 vf1 vf2 vf3 vf4 vf5 vf6 vf7 vf8 vf9 vf10
    go_wp2_with fail
    go_ret
    exact ⟨rfl,HO.out⟩
set_option maxHeartbeats 1600000 in
theorem wasDone_any (w:World) (V:Vw) (q:Lo) (x:Int) (h:Sn w V q) (hx:I64 x) :
    Calls Tryz.prog 202 #[.agg #[.int .i64 V.m,.int .i64 V.next,.slice q.aA V.act.length q.cA,.int .i64 V.own,.slice q.aR V.run.length q.cR,.int .i64 V.pg.lsn,.int .i64 V.pg.kind,.int .i64 V.pg.level,.int .i64 V.pg.right,.string V.pg.high,.slice q.aP V.pg.items.length q.cP],.int .i64 x] w fun e w'=>e=.returned (.bool (vdone V x))∧Only (fun _=>False) w w':=by
  have C0:=hide (fun W (h:Sn W V q)=>quiet_only (before_any V.m x V.next W h.m hx h.next))
  have C1:=hide (fun W (h:Sn W V q)=>quiet_only (scontains_any W q.bA q.cA q.aA V.act x h.act))
  simp only [vdone]
  obtain ⟨b0,hb0⟩:=exq (xbef V.m x V.next)
  obtain ⟨b1,hb1⟩:=exq (decide (x ∈ V.act))
  simp only [hb0,hb1] at C0 C1 ⊢
  clear hb0 hb1
  have HN:=hide h
  clear h hx
  have HB:=hide (VB.new w (.int .i64 V.m) (.int .i64 V.next) (.slice q.aA V.act.length q.cA) (.int .i64 V.own) (.slice q.aR V.run.length q.cR) (.int .i64 V.pg.lsn) (.int .i64 V.pg.kind) (.int .i64 V.pg.level) (.int .i64 V.pg.right) (.string V.pg.high) (.slice q.aP V.pg.items.length q.cP))
  have HO:=hide (onlyA w (.cells #[.int .i64 V.m,.int .i64 V.next,.slice q.aA V.act.length q.cA,.int .i64 V.own,.slice q.aR V.run.length q.cR,.int .i64 V.pg.lsn,.int .i64 V.pg.kind,.int .i64 V.pg.level,.int .i64 V.pg.right,.string V.pg.high,.slice q.aP V.pg.items.length q.cP] 42))
  go_enter Tryz.func202,Tryz.ntmps202
  go_upto_region 1 with fail
  obtain ⟨W0,hW0⟩:=exq (w.alloc (.cells #[.int .i64 V.m,.int .i64 V.next,.slice q.aA V.act.length q.cA,.int .i64 V.own,.slice q.aR V.run.length q.cR,.int .i64 V.pg.lsn,.int .i64 V.pg.kind,.int .i64 V.pg.level,.int .i64 V.pg.right,.string V.pg.high,.slice q.aP V.pg.items.length q.cP] 42))
  rw [hW0] at HB HO ⊢
  clear hW0
  obtain ⟨vc0,vc1,vc2,vc3,vc4,vc5,vc6,vc7,vc8,vc9,vc10,vf0,vf1,vf2,vf3,vf4,vf5,vf6,vf7,vf8,vf9,vf10,vlt⟩:=HB.out
  clear vf0 vf1 vf2 vf3 vf4 vf5 vf6 vf7 vf8 vf9 vf10
  go_wp2_with fail
  refine (C0.out _ (HN.out.more HO.out)).mono ?_
  rintro e w1 ⟨rfl,ho⟩
  clear vc0 vc1 vc2 vc3 vc4 vc5 vc6 vc7 vc8 vc9 vc10 vlt
  have HB:=hide (HB.out.more ho)
  have HO:=hide (o2 HO.out ho)
  clear ho
  cases b0 with
  | true=>
    obtain ⟨vc0,vc1,vc2,vc3,vc4,vc5,vc6,vc7,vc8,vc9,vc10,vf0,vf1,vf2,vf3,vf4,vf5,vf6,vf7,vf8,vf9,vf10,vlt⟩:=HB.out
    clear vf0 vf1 vf2 vf3 vf4 vf5 vf6 vf7 vf8 vf9 vf10
    go_wp2_with fail
    refine (C1.out _ (HN.out.more HO.out)).mono ?_
    rintro e w2 ⟨rfl,ho⟩
    clear vc0 vc1 vc2 vc3 vc4 vc5 vc6 vc7 vc8 vc9 vc10 vlt
    have HB:=hide (HB.out.more ho)
    have HO:=hide (o2 HO.out ho)
    clear ho
    cases b1 with
    | true=>
      obtain ⟨vc0,vc1,vc2,vc3,vc4,vc5,vc6,vc7,vc8,vc9,vc10,vf0,vf1,vf2,vf3,vf4,vf5,vf6,vf7,vf8,vf9,vf10,vlt⟩:=HB.out
      clear vf0 vf1 vf2 vf3 vf4 vf5 vf6 vf7 vf8 vf9 vf10
      go_wp2_with fail
      go_ret
      exact ⟨rfl,HO.out⟩
    | false=>
      obtain ⟨vc0,vc1,vc2,vc3,vc4,vc5,vc6,vc7,vc8,vc9,vc10,vf0,vf1,vf2,vf3,vf4,vf5,vf6,vf7,vf8,vf9,vf10,vlt⟩:=HB.out
      clear vf0 vf1 vf2 vf3 vf4 vf5 vf6 vf7 vf8 vf9 vf10
      go_wp2_with fail
      go_ret
      exact ⟨rfl,HO.out⟩
  | false=>
    obtain ⟨vc0,vc1,vc2,vc3,vc4,vc5,vc6,vc7,vc8,vc9,vc10,vf0,vf1,vf2,vf3,vf4,vf5,vf6,vf7,vf8,vf9,vf10,vlt⟩:=HB.out
    clear vf0 vf1 vf2 vf3 vf4 vf5 vf6 vf7 vf8 vf9 vf10
    go_wp2_with fail
    go_ret
    exact ⟨rfl,HO.out⟩
set_option maxHeartbeats 1600000 in
theorem sees_any (w:World) (V:Vw) (q:Lo) (x:Int) (h:Sn w V q) (hx:I64 x) :
    Calls Tryz.prog 199 #[.agg #[.int .i64 V.m,.int .i64 V.next,.slice q.aA V.act.length q.cA,.int .i64 V.own,.slice q.aR V.run.length q.cR,.int .i64 V.pg.lsn,.int .i64 V.pg.kind,.int .i64 V.pg.level,.int .i64 V.pg.right,.string V.pg.high,.slice q.aP V.pg.items.length q.cP],.int .i64 x] w fun e w'=>e=.returned (.bool (vsees V x))∧Only (fun _=>False) w w':=by
  have C0:=hide (fun W (h:Sn W V q)=>isOwn_any W V q x h hx)
  have C1:=hide (fun W (h:Sn W V q)=>isCom_any W V q x h hx)
  have C2:=hide (fun W (h:Sn W V q)=>wasDone_any W V q x h hx)
  simp only [vsees]
  obtain ⟨b0,hb0⟩:=exq (vown V x)
  obtain ⟨b1,hb1⟩:=exq (vcom V x)
  obtain ⟨b2,hb2⟩:=exq (vdone V x)
  simp only [hb0,hb1,hb2] at C0 C1 C2 ⊢
  clear hb0 hb1 hb2
  have HN:=hide h
  clear h hx
  have HB:=hide (VB.new w (.int .i64 V.m) (.int .i64 V.next) (.slice q.aA V.act.length q.cA) (.int .i64 V.own) (.slice q.aR V.run.length q.cR) (.int .i64 V.pg.lsn) (.int .i64 V.pg.kind) (.int .i64 V.pg.level) (.int .i64 V.pg.right) (.string V.pg.high) (.slice q.aP V.pg.items.length q.cP))
  have HO:=hide (onlyA w (.cells #[.int .i64 V.m,.int .i64 V.next,.slice q.aA V.act.length q.cA,.int .i64 V.own,.slice q.aR V.run.length q.cR,.int .i64 V.pg.lsn,.int .i64 V.pg.kind,.int .i64 V.pg.level,.int .i64 V.pg.right,.string V.pg.high,.slice q.aP V.pg.items.length q.cP] 42))
  go_enter Tryz.func199,Tryz.ntmps199
  go_upto_region 1 with fail
  obtain ⟨W0,hW0⟩:=exq (w.alloc (.cells #[.int .i64 V.m,.int .i64 V.next,.slice q.aA V.act.length q.cA,.int .i64 V.own,.slice q.aR V.run.length q.cR,.int .i64 V.pg.lsn,.int .i64 V.pg.kind,.int .i64 V.pg.level,.int .i64 V.pg.right,.string V.pg.high,.slice q.aP V.pg.items.length q.cP] 42))
  rw [hW0] at HB HO ⊢
  clear hW0
  obtain ⟨vc0,vc1,vc2,vc3,vc4,vc5,vc6,vc7,vc8,vc9,vc10,vf0,vf1,vf2,vf3,vf4,vf5,vf6,vf7,vf8,vf9,vf10,vlt⟩:=HB.out
  clear vf0 vf1 vf2 vf3 vf4 vf5 vf6 vf7 vf8 vf9 vf10
  go_wp2_with fail
  refine (C0.out _ (HN.out.more HO.out)).mono ?_
  rintro e w1 ⟨rfl,ho⟩
  clear vc0 vc1 vc2 vc3 vc4 vc5 vc6 vc7 vc8 vc9 vc10 vlt
  have HB:=hide (HB.out.more ho)
  have HO:=hide (o2 HO.out ho)
  clear ho
  cases b0 with
  | true=>
    obtain ⟨vc0,vc1,vc2,vc3,vc4,vc5,vc6,vc7,vc8,vc9,vc10,vf0,vf1,vf2,vf3,vf4,vf5,vf6,vf7,vf8,vf9,vf10,vlt⟩:=HB.out
    clear vf0 vf1 vf2 vf3 vf4 vf5 vf6 vf7 vf8 vf9 vf10
    go_wp2_with fail
    go_ret
    exact ⟨rfl,HO.out⟩
  | false=>
    obtain ⟨vc0,vc1,vc2,vc3,vc4,vc5,vc6,vc7,vc8,vc9,vc10,vf0,vf1,vf2,vf3,vf4,vf5,vf6,vf7,vf8,vf9,vf10,vlt⟩:=HB.out
    clear vf0 vf1 vf2 vf3 vf4 vf5 vf6 vf7 vf8 vf9 vf10
    go_wp2_with fail
    refine (C1.out _ (HN.out.more HO.out)).mono ?_
    rintro e w2 ⟨rfl,ho⟩
    clear vc0 vc1 vc2 vc3 vc4 vc5 vc6 vc7 vc8 vc9 vc10 vlt
    have HB:=hide (HB.out.more ho)
    have HO:=hide (o2 HO.out ho)
    clear ho
    cases b1 with
    | true=>
      obtain ⟨vc0,vc1,vc2,vc3,vc4,vc5,vc6,vc7,vc8,vc9,vc10,vf0,vf1,vf2,vf3,vf4,vf5,vf6,vf7,vf8,vf9,vf10,vlt⟩:=HB.out
      clear vf0 vf1 vf2 vf3 vf4 vf5 vf6 vf7 vf8 vf9 vf10
      go_wp2_with fail
      refine (C2.out _ (HN.out.more HO.out)).mono ?_
      rintro e w3 ⟨rfl,ho⟩
      clear vc0 vc1 vc2 vc3 vc4 vc5 vc6 vc7 vc8 vc9 vc10 vlt
      have HB:=hide (HB.out.more ho)
      have HO:=hide (o2 HO.out ho)
      clear ho
      cases b2 with
      | true=>
        obtain ⟨vc0,vc1,vc2,vc3,vc4,vc5,vc6,vc7,vc8,vc9,vc10,vf0,vf1,vf2,vf3,vf4,vf5,vf6,vf7,vf8,vf9,vf10,vlt⟩:=HB.out
        clear vf0 vf1 vf2 vf3 vf4 vf5 vf6 vf7 vf8 vf9 vf10
        go_wp2_with fail
        go_ret
        exact ⟨rfl,HO.out⟩
      | false=>
        obtain ⟨vc0,vc1,vc2,vc3,vc4,vc5,vc6,vc7,vc8,vc9,vc10,vf0,vf1,vf2,vf3,vf4,vf5,vf6,vf7,vf8,vf9,vf10,vlt⟩:=HB.out
        clear vf0 vf1 vf2 vf3 vf4 vf5 vf6 vf7 vf8 vf9 vf10
        go_wp2_with fail
        go_ret
        exact ⟨rfl,HO.out⟩
    | false=>
      obtain ⟨vc0,vc1,vc2,vc3,vc4,vc5,vc6,vc7,vc8,vc9,vc10,vf0,vf1,vf2,vf3,vf4,vf5,vf6,vf7,vf8,vf9,vf10,vlt⟩:=HB.out
      clear vf0 vf1 vf2 vf3 vf4 vf5 vf6 vf7 vf8 vf9 vf10
      go_wp2_with fail
      go_ret
      exact ⟨rfl,HO.out⟩
set_option maxHeartbeats 1600000 in
theorem isNews_any (w:World) (V:Vw) (q:Lo) (x:Int) (h:Sn w V q) (hx:I64 x) :
    Calls Tryz.prog 190 #[.agg #[.int .i64 V.m,.int .i64 V.next,.slice q.aA V.act.length q.cA,.int .i64 V.own,.slice q.aR V.run.length q.cR,.int .i64 V.pg.lsn,.int .i64 V.pg.kind,.int .i64 V.pg.level,.int .i64 V.pg.right,.string V.pg.high,.slice q.aP V.pg.items.length q.cP],.int .i64 x] w fun e w'=>e=.returned (.bool (vnews V x))∧Only (fun _=>False) w w':=by
  have C0:=hide (fun W (h:Sn W V q)=>isCom_any W V q x h hx)
  have C1:=hide (fun W (h:Sn W V q)=>sees_any W V q x h hx)
  simp only [vnews]
  obtain ⟨b0,hb0⟩:=exq (vcom V x)
  obtain ⟨b1,hb1⟩:=exq (vsees V x)
  simp only [hb0,hb1] at C0 C1 ⊢
  clear hb0 hb1
  have HN:=hide h
  clear h hx
  have HB:=hide (VB.new w (.int .i64 V.m) (.int .i64 V.next) (.slice q.aA V.act.length q.cA) (.int .i64 V.own) (.slice q.aR V.run.length q.cR) (.int .i64 V.pg.lsn) (.int .i64 V.pg.kind) (.int .i64 V.pg.level) (.int .i64 V.pg.right) (.string V.pg.high) (.slice q.aP V.pg.items.length q.cP))
  have HO:=hide (onlyA w (.cells #[.int .i64 V.m,.int .i64 V.next,.slice q.aA V.act.length q.cA,.int .i64 V.own,.slice q.aR V.run.length q.cR,.int .i64 V.pg.lsn,.int .i64 V.pg.kind,.int .i64 V.pg.level,.int .i64 V.pg.right,.string V.pg.high,.slice q.aP V.pg.items.length q.cP] 42))
  go_enter Tryz.func190,Tryz.ntmps190
  go_upto_region 1 with fail
  obtain ⟨W0,hW0⟩:=exq (w.alloc (.cells #[.int .i64 V.m,.int .i64 V.next,.slice q.aA V.act.length q.cA,.int .i64 V.own,.slice q.aR V.run.length q.cR,.int .i64 V.pg.lsn,.int .i64 V.pg.kind,.int .i64 V.pg.level,.int .i64 V.pg.right,.string V.pg.high,.slice q.aP V.pg.items.length q.cP] 42))
  rw [hW0] at HB HO ⊢
  clear hW0
  obtain ⟨vc0,vc1,vc2,vc3,vc4,vc5,vc6,vc7,vc8,vc9,vc10,vf0,vf1,vf2,vf3,vf4,vf5,vf6,vf7,vf8,vf9,vf10,vlt⟩:=HB.out
  clear vf0 vf1 vf2 vf3 vf4 vf5 vf6 vf7 vf8 vf9 vf10
  go_wp2_with fail
  refine (C0.out _ (HN.out.more HO.out)).mono ?_
  rintro e w1 ⟨rfl,ho⟩
  clear vc0 vc1 vc2 vc3 vc4 vc5 vc6 vc7 vc8 vc9 vc10 vlt
  have HB:=hide (HB.out.more ho)
  have HO:=hide (o2 HO.out ho)
  clear ho
  cases b0 with
  | true=>
    obtain ⟨vc0,vc1,vc2,vc3,vc4,vc5,vc6,vc7,vc8,vc9,vc10,vf0,vf1,vf2,vf3,vf4,vf5,vf6,vf7,vf8,vf9,vf10,vlt⟩:=HB.out
    clear vf0 vf1 vf2 vf3 vf4 vf5 vf6 vf7 vf8 vf9 vf10
    go_wp2_with fail
    refine (C1.out _ (HN.out.more HO.out)).mono ?_
    rintro e w2 ⟨rfl,ho⟩
    clear vc0 vc1 vc2 vc3 vc4 vc5 vc6 vc7 vc8 vc9 vc10 vlt
    have HB:=hide (HB.out.more ho)
    have HO:=hide (o2 HO.out ho)
    clear ho
    cases b1 with
    | true=>
      obtain ⟨vc0,vc1,vc2,vc3,vc4,vc5,vc6,vc7,vc8,vc9,vc10,vf0,vf1,vf2,vf3,vf4,vf5,vf6,vf7,vf8,vf9,vf10,vlt⟩:=HB.out
      clear vf0 vf1 vf2 vf3 vf4 vf5 vf6 vf7 vf8 vf9 vf10
      go_wp2_with fail
      go_ret
      exact ⟨rfl,HO.out⟩
    | false=>
      obtain ⟨vc0,vc1,vc2,vc3,vc4,vc5,vc6,vc7,vc8,vc9,vc10,vf0,vf1,vf2,vf3,vf4,vf5,vf6,vf7,vf8,vf9,vf10,vlt⟩:=HB.out
      clear vf0 vf1 vf2 vf3 vf4 vf5 vf6 vf7 vf8 vf9 vf10
      go_wp2_with fail
      go_ret
      exact ⟨rfl,HO.out⟩
  | false=>
    obtain ⟨vc0,vc1,vc2,vc3,vc4,vc5,vc6,vc7,vc8,vc9,vc10,vf0,vf1,vf2,vf3,vf4,vf5,vf6,vf7,vf8,vf9,vf10,vlt⟩:=HB.out
    clear vf0 vf1 vf2 vf3 vf4 vf5 vf6 vf7 vf8 vf9 vf10
    go_wp2_with fail
    go_ret
    exact ⟨rfl,HO.out⟩
set_option maxHeartbeats 1600000 in
theorem isEnded_any (w:World) (T:Tp) (_:I64 T.xmin∧I64 T.xmax) :
    Calls Tryz.prog 191 #[.agg #[.int .i64 T.xmin,.int .i64 T.xmax,.bool T.fz,.string T.key,.string T.val]] w fun e w'=>e=.returned (.bool (T.xmax != 0))∧Only (fun _=>False) w w':=by
  have HT:=hide (TB.new w (.int .i64 T.xmin) (.int .i64 T.xmax) (.bool T.fz) (.string T.key) (.string T.val))
  have HO:=hide (onlyA w (.cells #[.int .i64 T.xmin,.int .i64 T.xmax,.bool T.fz,.string T.key,.string T.val] 78))
  by_cases h0:T.xmax=0
  ·
    have g1:(T.xmax != 0)=false:=by simp [h0]
    have g3:(T.xmax == 0)=true:=by simp [h0]
    clear h0
    rw [g1]
    go_enter Tryz.func191,Tryz.ntmps191
    go_upto_region 1 with fail
    obtain ⟨W0,hW0⟩:=exq (w.alloc (.cells #[.int .i64 T.xmin,.int .i64 T.xmax,.bool T.fz,.string T.key,.string T.val] 78))
    rw [hW0] at HT HO ⊢
    clear hW0
    obtain ⟨tc0,tc1,tc2,tc3,tc4,tf0,tf1,tf2,tf3,tf4,tlt⟩:=HT.out
    clear tf0 tf1 tf2 tf3 tf4
    go_wp2_with fail
    go_ret
    exact ⟨rfl,HO.out⟩
  ·
    have g1:(T.xmax != 0)=true:=by simp [h0]
    have g3:(T.xmax == 0)=false:=by simp [h0]
    clear h0
    rw [g1]
    go_enter Tryz.func191,Tryz.ntmps191
    go_upto_region 1 with fail
    obtain ⟨W0,hW0⟩:=exq (w.alloc (.cells #[.int .i64 T.xmin,.int .i64 T.xmax,.bool T.fz,.string T.key,.string T.val] 78))
    rw [hW0] at HT HO ⊢
    clear hW0
    obtain ⟨tc0,tc1,tc2,tc3,tc4,tf0,tf1,tf2,tf3,tf4,tlt⟩:=HT.out
    clear tf0 tf1 tf2 tf3 tf4
    go_wp2_with fail
    go_ret
    exact ⟨rfl,HO.out⟩
set_option maxHeartbeats 1600000 in
theorem seesBeg_any (w:World) (V:Vw) (q:Lo) (T:Tp) (h:Sn w V q) (ht:I64 T.xmin∧I64 T.xmax) :
    Calls Tryz.prog 192 #[.agg #[.int .i64 V.m,.int .i64 V.next,.slice q.aA V.act.length q.cA,.int .i64 V.own,.slice q.aR V.run.length q.cR,.int .i64 V.pg.lsn,.int .i64 V.pg.kind,.int .i64 V.pg.level,.int .i64 V.pg.right,.string V.pg.high,.slice q.aP V.pg.items.length q.cP],.agg #[.int .i64 T.xmin,.int .i64 T.xmax,.bool T.fz,.string T.key,.string T.val]] w fun e w'=>e=.returned (.bool (vbeg V T))∧Only (fun _=>False) w w':=by
  have C0:=hide (fun W (h:Sn W V q)=>sees_any W V q T.xmin h ht.1)
  simp only [vbeg]
  obtain ⟨fz,hfz⟩:=exq (T.fz)
  simp only [hfz] at C0 ⊢
  clear hfz
  obtain ⟨b0,hb0⟩:=exq (vsees V T.xmin)
  simp only [hb0] at C0 ⊢
  clear hb0
  have HN:=hide h
  clear h ht
  have HB:=hide ((VB.new w (.int .i64 V.m) (.int .i64 V.next) (.slice q.aA V.act.length q.cA) (.int .i64 V.own) (.slice q.aR V.run.length q.cR) (.int .i64 V.pg.lsn) (.int .i64 V.pg.kind) (.int .i64 V.pg.level) (.int .i64 V.pg.right) (.string V.pg.high) (.slice q.aP V.pg.items.length q.cP)).more (onlyA _ (.cells #[.int .i64 T.xmin,.int .i64 T.xmax,.bool fz,.string T.key,.string T.val] 78)))
  have HT:=hide (TB.new (w.alloc (.cells #[.int .i64 V.m,.int .i64 V.next,.slice q.aA V.act.length q.cA,.int .i64 V.own,.slice q.aR V.run.length q.cR,.int .i64 V.pg.lsn,.int .i64 V.pg.kind,.int .i64 V.pg.level,.int .i64 V.pg.right,.string V.pg.high,.slice q.aP V.pg.items.length q.cP] 42)) (.int .i64 T.xmin) (.int .i64 T.xmax) (.bool fz) (.string T.key) (.string T.val))
  have HO:=hide (o2 (onlyA w (.cells #[.int .i64 V.m,.int .i64 V.next,.slice q.aA V.act.length q.cA,.int .i64 V.own,.slice q.aR V.run.length q.cR,.int .i64 V.pg.lsn,.int .i64 V.pg.kind,.int .i64 V.pg.level,.int .i64 V.pg.right,.string V.pg.high,.slice q.aP V.pg.items.length q.cP] 42)) (onlyA _ (.cells #[.int .i64 T.xmin,.int .i64 T.xmax,.bool fz,.string T.key,.string T.val] 78)))
  simp only [World.size_alloc] at HT
  cases fz with
  | true=>
    go_enter Tryz.func192,Tryz.ntmps192
    go_upto_region 1 with fail
    obtain ⟨W0,hW0⟩:=exq ((w.alloc (.cells #[.int .i64 V.m,.int .i64 V.next,.slice q.aA V.act.length q.cA,.int .i64 V.own,.slice q.aR V.run.length q.cR,.int .i64 V.pg.lsn,.int .i64 V.pg.kind,.int .i64 V.pg.level,.int .i64 V.pg.right,.string V.pg.high,.slice q.aP V.pg.items.length q.cP] 42)).alloc (.cells #[.int .i64 T.xmin,.int .i64 T.xmax,.bool true,.string T.key,.string T.val] 78))
    rw [hW0] at HB HT HO ⊢
    clear hW0
    obtain ⟨vc0,vc1,vc2,vc3,vc4,vc5,vc6,vc7,vc8,vc9,vc10,vf0,vf1,vf2,vf3,vf4,vf5,vf6,vf7,vf8,vf9,vf10,vlt⟩:=HB.out
    clear vf0 vf1 vf2 vf3 vf4 vf5 vf6 vf7 vf8 vf9 vf10
    obtain ⟨tc0,tc1,tc2,tc3,tc4,tf0,tf1,tf2,tf3,tf4,tlt⟩:=HT.out
    clear tf0 tf1 tf2 tf3 tf4
    go_wp2_with fail
    go_ret
    exact ⟨rfl,HO.out⟩
  | false=>
    go_enter Tryz.func192,Tryz.ntmps192
    go_upto_region 1 with fail
    obtain ⟨W0,hW0⟩:=exq ((w.alloc (.cells #[.int .i64 V.m,.int .i64 V.next,.slice q.aA V.act.length q.cA,.int .i64 V.own,.slice q.aR V.run.length q.cR,.int .i64 V.pg.lsn,.int .i64 V.pg.kind,.int .i64 V.pg.level,.int .i64 V.pg.right,.string V.pg.high,.slice q.aP V.pg.items.length q.cP] 42)).alloc (.cells #[.int .i64 T.xmin,.int .i64 T.xmax,.bool false,.string T.key,.string T.val] 78))
    rw [hW0] at HB HT HO ⊢
    clear hW0
    obtain ⟨vc0,vc1,vc2,vc3,vc4,vc5,vc6,vc7,vc8,vc9,vc10,vf0,vf1,vf2,vf3,vf4,vf5,vf6,vf7,vf8,vf9,vf10,vlt⟩:=HB.out
    clear vf0 vf1 vf2 vf3 vf4 vf5 vf6 vf7 vf8 vf9 vf10
    obtain ⟨tc0,tc1,tc2,tc3,tc4,tf0,tf1,tf2,tf3,tf4,tlt⟩:=HT.out
    clear tf0 tf1 tf2 tf3 tf4
    go_wp2_with fail
    refine (C0.out _ (HN.out.more HO.out)).mono ?_
    rintro e w1 ⟨rfl,ho⟩
    clear vc0 vc1 vc2 vc3 vc4 vc5 vc6 vc7 vc8 vc9 vc10 vlt tc0 tc1 tc2 tc3 tc4 tlt
    have HB:=hide (HB.out.more ho)
    have HT:=hide (HT.out.more ho)
    have HO:=hide (o2 HO.out ho)
    clear ho
    cases b0 with
    | true=>
      obtain ⟨vc0,vc1,vc2,vc3,vc4,vc5,vc6,vc7,vc8,vc9,vc10,vf0,vf1,vf2,vf3,vf4,vf5,vf6,vf7,vf8,vf9,vf10,vlt⟩:=HB.out
      clear vf0 vf1 vf2 vf3 vf4 vf5 vf6 vf7 vf8 vf9 vf10
      obtain ⟨tc0,tc1,tc2,tc3,tc4,tf0,tf1,tf2,tf3,tf4,tlt⟩:=HT.out
      clear tf0 tf1 tf2 tf3 tf4
      go_wp2_with fail
      go_ret
      exact ⟨rfl,HO.out⟩
    | false=>
      obtain ⟨vc0,vc1,vc2,vc3,vc4,vc5,vc6,vc7,vc8,vc9,vc10,vf0,vf1,vf2,vf3,vf4,vf5,vf6,vf7,vf8,vf9,vf10,vlt⟩:=HB.out
      clear vf0 vf1 vf2 vf3 vf4 vf5 vf6 vf7 vf8 vf9 vf10
      obtain ⟨tc0,tc1,tc2,tc3,tc4,tf0,tf1,tf2,tf3,tf4,tlt⟩:=HT.out
      clear tf0 tf1 tf2 tf3 tf4
      go_wp2_with fail
      go_ret
      exact ⟨rfl,HO.out⟩
set_option maxHeartbeats 1600000 in
theorem seesEnd_any (w:World) (V:Vw) (q:Lo) (T:Tp) (h:Sn w V q) (ht:I64 T.xmin∧I64 T.xmax) :
    Calls Tryz.prog 193 #[.agg #[.int .i64 V.m,.int .i64 V.next,.slice q.aA V.act.length q.cA,.int .i64 V.own,.slice q.aR V.run.length q.cR,.int .i64 V.pg.lsn,.int .i64 V.pg.kind,.int .i64 V.pg.level,.int .i64 V.pg.right,.string V.pg.high,.slice q.aP V.pg.items.length q.cP],.agg #[.int .i64 T.xmin,.int .i64 T.xmax,.bool T.fz,.string T.key,.string T.val]] w fun e w'=>e=.returned (.bool (vend V T))∧Only (fun _=>False) w w':=by
  have C0:=hide (fun W (h:Sn W V q)=>isEnded_any W T ht)
  have C1:=hide (fun W (h:Sn W V q)=>sees_any W V q T.xmax h ht.2)
  simp only [vend]
  obtain ⟨b0,hb0⟩:=exq ((T.xmax != 0))
  obtain ⟨b1,hb1⟩:=exq (vsees V T.xmax)
  simp only [hb0,hb1] at C0 C1 ⊢
  clear hb0 hb1
  have HN:=hide h
  clear h ht
  have HB:=hide ((VB.new w (.int .i64 V.m) (.int .i64 V.next) (.slice q.aA V.act.length q.cA) (.int .i64 V.own) (.slice q.aR V.run.length q.cR) (.int .i64 V.pg.lsn) (.int .i64 V.pg.kind) (.int .i64 V.pg.level) (.int .i64 V.pg.right) (.string V.pg.high) (.slice q.aP V.pg.items.length q.cP)).more (onlyA _ (.cells #[.int .i64 T.xmin,.int .i64 T.xmax,.bool T.fz,.string T.key,.string T.val] 78)))
  have HT:=hide (TB.new (w.alloc (.cells #[.int .i64 V.m,.int .i64 V.next,.slice q.aA V.act.length q.cA,.int .i64 V.own,.slice q.aR V.run.length q.cR,.int .i64 V.pg.lsn,.int .i64 V.pg.kind,.int .i64 V.pg.level,.int .i64 V.pg.right,.string V.pg.high,.slice q.aP V.pg.items.length q.cP] 42)) (.int .i64 T.xmin) (.int .i64 T.xmax) (.bool T.fz) (.string T.key) (.string T.val))
  have HO:=hide (o2 (onlyA w (.cells #[.int .i64 V.m,.int .i64 V.next,.slice q.aA V.act.length q.cA,.int .i64 V.own,.slice q.aR V.run.length q.cR,.int .i64 V.pg.lsn,.int .i64 V.pg.kind,.int .i64 V.pg.level,.int .i64 V.pg.right,.string V.pg.high,.slice q.aP V.pg.items.length q.cP] 42)) (onlyA _ (.cells #[.int .i64 T.xmin,.int .i64 T.xmax,.bool T.fz,.string T.key,.string T.val] 78)))
  simp only [World.size_alloc] at HT
  go_enter Tryz.func193,Tryz.ntmps193
  go_upto_region 1 with fail
  obtain ⟨W0,hW0⟩:=exq ((w.alloc (.cells #[.int .i64 V.m,.int .i64 V.next,.slice q.aA V.act.length q.cA,.int .i64 V.own,.slice q.aR V.run.length q.cR,.int .i64 V.pg.lsn,.int .i64 V.pg.kind,.int .i64 V.pg.level,.int .i64 V.pg.right,.string V.pg.high,.slice q.aP V.pg.items.length q.cP] 42)).alloc (.cells #[.int .i64 T.xmin,.int .i64 T.xmax,.bool T.fz,.string T.key,.string T.val] 78))
  rw [hW0] at HB HT HO ⊢
  clear hW0
  obtain ⟨vc0,vc1,vc2,vc3,vc4,vc5,vc6,vc7,vc8,vc9,vc10,vf0,vf1,vf2,vf3,vf4,vf5,vf6,vf7,vf8,vf9,vf10,vlt⟩:=HB.out
  clear vf0 vf1 vf2 vf3 vf4 vf5 vf6 vf7 vf8 vf9 vf10
  obtain ⟨tc0,tc1,tc2,tc3,tc4,tf0,tf1,tf2,tf3,tf4,tlt⟩:=HT.out
  clear tf0 tf1 tf2 tf3 tf4
  go_wp2_with fail
  refine (C0.out _ (HN.out.more HO.out)).mono ?_
  rintro e w1 ⟨rfl,ho⟩
  clear vc0 vc1 vc2 vc3 vc4 vc5 vc6 vc7 vc8 vc9 vc10 vlt tc0 tc1 tc2 tc3 tc4 tlt
  have HB:=hide (HB.out.more ho)
  have HT:=hide (HT.out.more ho)
  have HO:=hide (o2 HO.out ho)
  clear ho
  cases b0 with
  | true=>
    obtain ⟨vc0,vc1,vc2,vc3,vc4,vc5,vc6,vc7,vc8,vc9,vc10,vf0,vf1,vf2,vf3,vf4,vf5,vf6,vf7,vf8,vf9,vf10,vlt⟩:=HB.out
    clear vf0 vf1 vf2 vf3 vf4 vf5 vf6 vf7 vf8 vf9 vf10
    obtain ⟨tc0,tc1,tc2,tc3,tc4,tf0,tf1,tf2,tf3,tf4,tlt⟩:=HT.out
    clear tf0 tf1 tf2 tf3 tf4
    go_wp2_with fail
    refine (C1.out _ (HN.out.more HO.out)).mono ?_
    rintro e w2 ⟨rfl,ho⟩
    clear vc0 vc1 vc2 vc3 vc4 vc5 vc6 vc7 vc8 vc9 vc10 vlt tc0 tc1 tc2 tc3 tc4 tlt
    have HB:=hide (HB.out.more ho)
    have HT:=hide (HT.out.more ho)
    have HO:=hide (o2 HO.out ho)
    clear ho
    cases b1 with
    | true=>
      obtain ⟨vc0,vc1,vc2,vc3,vc4,vc5,vc6,vc7,vc8,vc9,vc10,vf0,vf1,vf2,vf3,vf4,vf5,vf6,vf7,vf8,vf9,vf10,vlt⟩:=HB.out
      clear vf0 vf1 vf2 vf3 vf4 vf5 vf6 vf7 vf8 vf9 vf10
      obtain ⟨tc0,tc1,tc2,tc3,tc4,tf0,tf1,tf2,tf3,tf4,tlt⟩:=HT.out
      clear tf0 tf1 tf2 tf3 tf4
      go_wp2_with fail
      go_ret
      exact ⟨rfl,HO.out⟩
    | false=>
      obtain ⟨vc0,vc1,vc2,vc3,vc4,vc5,vc6,vc7,vc8,vc9,vc10,vf0,vf1,vf2,vf3,vf4,vf5,vf6,vf7,vf8,vf9,vf10,vlt⟩:=HB.out
      clear vf0 vf1 vf2 vf3 vf4 vf5 vf6 vf7 vf8 vf9 vf10
      obtain ⟨tc0,tc1,tc2,tc3,tc4,tf0,tf1,tf2,tf3,tf4,tlt⟩:=HT.out
      clear tf0 tf1 tf2 tf3 tf4
      go_wp2_with fail
      go_ret
      exact ⟨rfl,HO.out⟩
  | false=>
    obtain ⟨vc0,vc1,vc2,vc3,vc4,vc5,vc6,vc7,vc8,vc9,vc10,vf0,vf1,vf2,vf3,vf4,vf5,vf6,vf7,vf8,vf9,vf10,vlt⟩:=HB.out
    clear vf0 vf1 vf2 vf3 vf4 vf5 vf6 vf7 vf8 vf9 vf10
    obtain ⟨tc0,tc1,tc2,tc3,tc4,tf0,tf1,tf2,tf3,tf4,tlt⟩:=HT.out
    clear tf0 tf1 tf2 tf3 tf4
    go_wp2_with fail
    go_ret
    exact ⟨rfl,HO.out⟩
set_option maxHeartbeats 1600000 in
theorem visible_any (w:World) (V:Vw) (q:Lo) (T:Tp) (h:Sn w V q) (ht:I64 T.xmin∧I64 T.xmax) :
    Calls Tryz.prog 181 #[.agg #[.int .i64 V.m,.int .i64 V.next,.slice q.aA V.act.length q.cA,.int .i64 V.own,.slice q.aR V.run.length q.cR,.int .i64 V.pg.lsn,.int .i64 V.pg.kind,.int .i64 V.pg.level,.int .i64 V.pg.right,.string V.pg.high,.slice q.aP V.pg.items.length q.cP],.agg #[.int .i64 T.xmin,.int .i64 T.xmax,.bool T.fz,.string T.key,.string T.val]] w fun e w'=>e=.returned (.bool (vvis V T))∧Only (fun _=>False) w w':=by
  have C0:=hide (fun W (h:Sn W V q)=>seesBeg_any W V q T h ht)
  have C1:=hide (fun W (h:Sn W V q)=>seesEnd_any W V q T h ht)
  simp only [vvis]
  obtain ⟨b0,hb0⟩:=exq (vbeg V T)
  obtain ⟨b1,hb1⟩:=exq (vend V T)
  simp only [hb0,hb1] at C0 C1 ⊢
  clear hb0 hb1
  have HN:=hide h
  clear h ht
  have HB:=hide ((VB.new w (.int .i64 V.m) (.int .i64 V.next) (.slice q.aA V.act.length q.cA) (.int .i64 V.own) (.slice q.aR V.run.length q.cR) (.int .i64 V.pg.lsn) (.int .i64 V.pg.kind) (.int .i64 V.pg.level) (.int .i64 V.pg.right) (.string V.pg.high) (.slice q.aP V.pg.items.length q.cP)).more (onlyA _ (.cells #[.int .i64 T.xmin,.int .i64 T.xmax,.bool T.fz,.string T.key,.string T.val] 78)))
  have HT:=hide (TB.new (w.alloc (.cells #[.int .i64 V.m,.int .i64 V.next,.slice q.aA V.act.length q.cA,.int .i64 V.own,.slice q.aR V.run.length q.cR,.int .i64 V.pg.lsn,.int .i64 V.pg.kind,.int .i64 V.pg.level,.int .i64 V.pg.right,.string V.pg.high,.slice q.aP V.pg.items.length q.cP] 42)) (.int .i64 T.xmin) (.int .i64 T.xmax) (.bool T.fz) (.string T.key) (.string T.val))
  have HO:=hide (o2 (onlyA w (.cells #[.int .i64 V.m,.int .i64 V.next,.slice q.aA V.act.length q.cA,.int .i64 V.own,.slice q.aR V.run.length q.cR,.int .i64 V.pg.lsn,.int .i64 V.pg.kind,.int .i64 V.pg.level,.int .i64 V.pg.right,.string V.pg.high,.slice q.aP V.pg.items.length q.cP] 42)) (onlyA _ (.cells #[.int .i64 T.xmin,.int .i64 T.xmax,.bool T.fz,.string T.key,.string T.val] 78)))
  simp only [World.size_alloc] at HT
  go_enter Tryz.func181,Tryz.ntmps181
  go_upto_region 1 with fail
  obtain ⟨W0,hW0⟩:=exq ((w.alloc (.cells #[.int .i64 V.m,.int .i64 V.next,.slice q.aA V.act.length q.cA,.int .i64 V.own,.slice q.aR V.run.length q.cR,.int .i64 V.pg.lsn,.int .i64 V.pg.kind,.int .i64 V.pg.level,.int .i64 V.pg.right,.string V.pg.high,.slice q.aP V.pg.items.length q.cP] 42)).alloc (.cells #[.int .i64 T.xmin,.int .i64 T.xmax,.bool T.fz,.string T.key,.string T.val] 78))
  rw [hW0] at HB HT HO ⊢
  clear hW0
  obtain ⟨vc0,vc1,vc2,vc3,vc4,vc5,vc6,vc7,vc8,vc9,vc10,vf0,vf1,vf2,vf3,vf4,vf5,vf6,vf7,vf8,vf9,vf10,vlt⟩:=HB.out
  clear vf0 vf1 vf2 vf3 vf4 vf5 vf6 vf7 vf8 vf9 vf10
  obtain ⟨tc0,tc1,tc2,tc3,tc4,tf0,tf1,tf2,tf3,tf4,tlt⟩:=HT.out
  clear tf0 tf1 tf2 tf3 tf4
  go_wp2_with fail
  refine (C0.out _ (HN.out.more HO.out)).mono ?_
  rintro e w1 ⟨rfl,ho⟩
  clear vc0 vc1 vc2 vc3 vc4 vc5 vc6 vc7 vc8 vc9 vc10 vlt tc0 tc1 tc2 tc3 tc4 tlt
  have HB:=hide (HB.out.more ho)
  have HT:=hide (HT.out.more ho)
  have HO:=hide (o2 HO.out ho)
  clear ho
  cases b0 with
  | true=>
    obtain ⟨vc0,vc1,vc2,vc3,vc4,vc5,vc6,vc7,vc8,vc9,vc10,vf0,vf1,vf2,vf3,vf4,vf5,vf6,vf7,vf8,vf9,vf10,vlt⟩:=HB.out
    clear vf0 vf1 vf2 vf3 vf4 vf5 vf6 vf7 vf8 vf9 vf10
    obtain ⟨tc0,tc1,tc2,tc3,tc4,tf0,tf1,tf2,tf3,tf4,tlt⟩:=HT.out
    clear tf0 tf1 tf2 tf3 tf4
    go_wp2_with fail
    refine (C1.out _ (HN.out.more HO.out)).mono ?_
    rintro e w2 ⟨rfl,ho⟩
    clear vc0 vc1 vc2 vc3 vc4 vc5 vc6 vc7 vc8 vc9 vc10 vlt tc0 tc1 tc2 tc3 tc4 tlt
    have HB:=hide (HB.out.more ho)
    have HT:=hide (HT.out.more ho)
    have HO:=hide (o2 HO.out ho)
    clear ho
    cases b1 with
    | true=>
      obtain ⟨vc0,vc1,vc2,vc3,vc4,vc5,vc6,vc7,vc8,vc9,vc10,vf0,vf1,vf2,vf3,vf4,vf5,vf6,vf7,vf8,vf9,vf10,vlt⟩:=HB.out
      clear vf0 vf1 vf2 vf3 vf4 vf5 vf6 vf7 vf8 vf9 vf10
      obtain ⟨tc0,tc1,tc2,tc3,tc4,tf0,tf1,tf2,tf3,tf4,tlt⟩:=HT.out
      clear tf0 tf1 tf2 tf3 tf4
      go_wp2_with fail
      go_ret
      exact ⟨rfl,HO.out⟩
    | false=>
      obtain ⟨vc0,vc1,vc2,vc3,vc4,vc5,vc6,vc7,vc8,vc9,vc10,vf0,vf1,vf2,vf3,vf4,vf5,vf6,vf7,vf8,vf9,vf10,vlt⟩:=HB.out
      clear vf0 vf1 vf2 vf3 vf4 vf5 vf6 vf7 vf8 vf9 vf10
      obtain ⟨tc0,tc1,tc2,tc3,tc4,tf0,tf1,tf2,tf3,tf4,tlt⟩:=HT.out
      clear tf0 tf1 tf2 tf3 tf4
      go_wp2_with fail
      go_ret
      exact ⟨rfl,HO.out⟩
  | false=>
    obtain ⟨vc0,vc1,vc2,vc3,vc4,vc5,vc6,vc7,vc8,vc9,vc10,vf0,vf1,vf2,vf3,vf4,vf5,vf6,vf7,vf8,vf9,vf10,vlt⟩:=HB.out
    clear vf0 vf1 vf2 vf3 vf4 vf5 vf6 vf7 vf8 vf9 vf10
    obtain ⟨tc0,tc1,tc2,tc3,tc4,tf0,tf1,tf2,tf3,tf4,tlt⟩:=HT.out
    clear tf0 tf1 tf2 tf3 tf4
    go_wp2_with fail
    go_ret
    exact ⟨rfl,HO.out⟩
set_option maxHeartbeats 1600000 in
theorem newer_any (w:World) (V:Vw) (q:Lo) (T:Tp) (h:Sn w V q) (ht:I64 T.xmin∧I64 T.xmax) :
    Calls Tryz.prog 180 #[.agg #[.int .i64 V.m,.int .i64 V.next,.slice q.aA V.act.length q.cA,.int .i64 V.own,.slice q.aR V.run.length q.cR,.int .i64 V.pg.lsn,.int .i64 V.pg.kind,.int .i64 V.pg.level,.int .i64 V.pg.right,.string V.pg.high,.slice q.aP V.pg.items.length q.cP],.agg #[.int .i64 T.xmin,.int .i64 T.xmax,.bool T.fz,.string T.key,.string T.val]] w fun e w'=>e=.returned (.bool (vnewer V T))∧Only (fun _=>False) w w':=by
  have C0:=hide (fun W (h:Sn W V q)=>isNews_any W V q T.xmin h ht.1)
  have C1:=hide (fun W (h:Sn W V q)=>isEnded_any W T ht)
  have C2:=hide (fun W (h:Sn W V q)=>isNews_any W V q T.xmax h ht.2)
  simp only [vnewer]
  obtain ⟨fz,hfz⟩:=exq (T.fz)
  simp only [hfz] at C0 C1 C2 ⊢
  clear hfz
  obtain ⟨b0,hb0⟩:=exq (vnews V T.xmin)
  obtain ⟨b1,hb1⟩:=exq ((T.xmax != 0))
  obtain ⟨b2,hb2⟩:=exq (vnews V T.xmax)
  simp only [hb0,hb1,hb2] at C0 C1 C2 ⊢
  clear hb0 hb1 hb2
  have HN:=hide h
  clear h ht
  have HB:=hide ((VB.new w (.int .i64 V.m) (.int .i64 V.next) (.slice q.aA V.act.length q.cA) (.int .i64 V.own) (.slice q.aR V.run.length q.cR) (.int .i64 V.pg.lsn) (.int .i64 V.pg.kind) (.int .i64 V.pg.level) (.int .i64 V.pg.right) (.string V.pg.high) (.slice q.aP V.pg.items.length q.cP)).more (onlyA _ (.cells #[.int .i64 T.xmin,.int .i64 T.xmax,.bool fz,.string T.key,.string T.val] 78)))
  have HT:=hide (TB.new (w.alloc (.cells #[.int .i64 V.m,.int .i64 V.next,.slice q.aA V.act.length q.cA,.int .i64 V.own,.slice q.aR V.run.length q.cR,.int .i64 V.pg.lsn,.int .i64 V.pg.kind,.int .i64 V.pg.level,.int .i64 V.pg.right,.string V.pg.high,.slice q.aP V.pg.items.length q.cP] 42)) (.int .i64 T.xmin) (.int .i64 T.xmax) (.bool fz) (.string T.key) (.string T.val))
  have HO:=hide (o2 (onlyA w (.cells #[.int .i64 V.m,.int .i64 V.next,.slice q.aA V.act.length q.cA,.int .i64 V.own,.slice q.aR V.run.length q.cR,.int .i64 V.pg.lsn,.int .i64 V.pg.kind,.int .i64 V.pg.level,.int .i64 V.pg.right,.string V.pg.high,.slice q.aP V.pg.items.length q.cP] 42)) (onlyA _ (.cells #[.int .i64 T.xmin,.int .i64 T.xmax,.bool fz,.string T.key,.string T.val] 78)))
  simp only [World.size_alloc] at HT
  cases fz with
  | true=>
    go_enter Tryz.func180,Tryz.ntmps180
    go_upto_region 1 with fail
    obtain ⟨W0,hW0⟩:=exq ((w.alloc (.cells #[.int .i64 V.m,.int .i64 V.next,.slice q.aA V.act.length q.cA,.int .i64 V.own,.slice q.aR V.run.length q.cR,.int .i64 V.pg.lsn,.int .i64 V.pg.kind,.int .i64 V.pg.level,.int .i64 V.pg.right,.string V.pg.high,.slice q.aP V.pg.items.length q.cP] 42)).alloc (.cells #[.int .i64 T.xmin,.int .i64 T.xmax,.bool true,.string T.key,.string T.val] 78))
    rw [hW0] at HB HT HO ⊢
    clear hW0
    obtain ⟨vc0,vc1,vc2,vc3,vc4,vc5,vc6,vc7,vc8,vc9,vc10,vf0,vf1,vf2,vf3,vf4,vf5,vf6,vf7,vf8,vf9,vf10,vlt⟩:=HB.out
    clear vf0 vf1 vf2 vf3 vf4 vf5 vf6 vf7 vf8 vf9 vf10
    obtain ⟨tc0,tc1,tc2,tc3,tc4,tf0,tf1,tf2,tf3,tf4,tlt⟩:=HT.out
    clear tf0 tf1 tf2 tf3 tf4
    go_wp2_with fail
    refine (C1.out _ (HN.out.more HO.out)).mono ?_
    rintro e w1 ⟨rfl,ho⟩
    clear vc0 vc1 vc2 vc3 vc4 vc5 vc6 vc7 vc8 vc9 vc10 vlt tc0 tc1 tc2 tc3 tc4 tlt
    have HB:=hide (HB.out.more ho)
    have HT:=hide (HT.out.more ho)
    have HO:=hide (o2 HO.out ho)
    clear ho
    cases b1 with
    | true=>
      obtain ⟨vc0,vc1,vc2,vc3,vc4,vc5,vc6,vc7,vc8,vc9,vc10,vf0,vf1,vf2,vf3,vf4,vf5,vf6,vf7,vf8,vf9,vf10,vlt⟩:=HB.out
      clear vf0 vf1 vf2 vf3 vf4 vf5 vf6 vf7 vf8 vf9 vf10
      obtain ⟨tc0,tc1,tc2,tc3,tc4,tf0,tf1,tf2,tf3,tf4,tlt⟩:=HT.out
      clear tf0 tf1 tf2 tf3 tf4
      go_wp2_with fail
      refine (C2.out _ (HN.out.more HO.out)).mono ?_
      rintro e w2 ⟨rfl,ho⟩
      clear vc0 vc1 vc2 vc3 vc4 vc5 vc6 vc7 vc8 vc9 vc10 vlt tc0 tc1 tc2 tc3 tc4 tlt
      have HB:=hide (HB.out.more ho)
      have HT:=hide (HT.out.more ho)
      have HO:=hide (o2 HO.out ho)
      clear ho
      cases b2 with
      | true=>
        obtain ⟨vc0,vc1,vc2,vc3,vc4,vc5,vc6,vc7,vc8,vc9,vc10,vf0,vf1,vf2,vf3,vf4,vf5,vf6,vf7,vf8,vf9,vf10,vlt⟩:=HB.out
        clear vf0 vf1 vf2 vf3 vf4 vf5 vf6 vf7 vf8 vf9 vf10
        obtain ⟨tc0,tc1,tc2,tc3,tc4,tf0,tf1,tf2,tf3,tf4,tlt⟩:=HT.out
        clear tf0 tf1 tf2 tf3 tf4
        go_wp2_with fail
        go_ret
        exact ⟨rfl,HO.out⟩
      | false=>
        obtain ⟨vc0,vc1,vc2,vc3,vc4,vc5,vc6,vc7,vc8,vc9,vc10,vf0,vf1,vf2,vf3,vf4,vf5,vf6,vf7,vf8,vf9,vf10,vlt⟩:=HB.out
        clear vf0 vf1 vf2 vf3 vf4 vf5 vf6 vf7 vf8 vf9 vf10
        obtain ⟨tc0,tc1,tc2,tc3,tc4,tf0,tf1,tf2,tf3,tf4,tlt⟩:=HT.out
        clear tf0 tf1 tf2 tf3 tf4
        go_wp2_with fail
        go_ret
        exact ⟨rfl,HO.out⟩
    | false=>
      obtain ⟨vc0,vc1,vc2,vc3,vc4,vc5,vc6,vc7,vc8,vc9,vc10,vf0,vf1,vf2,vf3,vf4,vf5,vf6,vf7,vf8,vf9,vf10,vlt⟩:=HB.out
      clear vf0 vf1 vf2 vf3 vf4 vf5 vf6 vf7 vf8 vf9 vf10
      obtain ⟨tc0,tc1,tc2,tc3,tc4,tf0,tf1,tf2,tf3,tf4,tlt⟩:=HT.out
      clear tf0 tf1 tf2 tf3 tf4
      go_wp2_with fail
      go_ret
      exact ⟨rfl,HO.out⟩
  | false=>
    go_enter Tryz.func180,Tryz.ntmps180
    go_upto_region 1 with fail
    obtain ⟨W0,hW0⟩:=exq ((w.alloc (.cells #[.int .i64 V.m,.int .i64 V.next,.slice q.aA V.act.length q.cA,.int .i64 V.own,.slice q.aR V.run.length q.cR,.int .i64 V.pg.lsn,.int .i64 V.pg.kind,.int .i64 V.pg.level,.int .i64 V.pg.right,.string V.pg.high,.slice q.aP V.pg.items.length q.cP] 42)).alloc (.cells #[.int .i64 T.xmin,.int .i64 T.xmax,.bool false,.string T.key,.string T.val] 78))
    rw [hW0] at HB HT HO ⊢
    clear hW0
    obtain ⟨vc0,vc1,vc2,vc3,vc4,vc5,vc6,vc7,vc8,vc9,vc10,vf0,vf1,vf2,vf3,vf4,vf5,vf6,vf7,vf8,vf9,vf10,vlt⟩:=HB.out
    clear vf0 vf1 vf2 vf3 vf4 vf5 vf6 vf7 vf8 vf9 vf10
    obtain ⟨tc0,tc1,tc2,tc3,tc4,tf0,tf1,tf2,tf3,tf4,tlt⟩:=HT.out
    clear tf0 tf1 tf2 tf3 tf4
    go_wp2_with fail
    refine (C0.out _ (HN.out.more HO.out)).mono ?_
    rintro e w3 ⟨rfl,ho⟩
    clear vc0 vc1 vc2 vc3 vc4 vc5 vc6 vc7 vc8 vc9 vc10 vlt tc0 tc1 tc2 tc3 tc4 tlt
    have HB:=hide (HB.out.more ho)
    have HT:=hide (HT.out.more ho)
    have HO:=hide (o2 HO.out ho)
    clear ho
    cases b0 with
    | true=>
      obtain ⟨vc0,vc1,vc2,vc3,vc4,vc5,vc6,vc7,vc8,vc9,vc10,vf0,vf1,vf2,vf3,vf4,vf5,vf6,vf7,vf8,vf9,vf10,vlt⟩:=HB.out
      clear vf0 vf1 vf2 vf3 vf4 vf5 vf6 vf7 vf8 vf9 vf10
      obtain ⟨tc0,tc1,tc2,tc3,tc4,tf0,tf1,tf2,tf3,tf4,tlt⟩:=HT.out
      clear tf0 tf1 tf2 tf3 tf4
      go_wp2_with fail
      go_ret
      exact ⟨rfl,HO.out⟩
    | false=>
      obtain ⟨vc0,vc1,vc2,vc3,vc4,vc5,vc6,vc7,vc8,vc9,vc10,vf0,vf1,vf2,vf3,vf4,vf5,vf6,vf7,vf8,vf9,vf10,vlt⟩:=HB.out
      clear vf0 vf1 vf2 vf3 vf4 vf5 vf6 vf7 vf8 vf9 vf10
      obtain ⟨tc0,tc1,tc2,tc3,tc4,tf0,tf1,tf2,tf3,tf4,tlt⟩:=HT.out
      clear tf0 tf1 tf2 tf3 tf4
      go_wp2_with fail
      refine (C1.out _ (HN.out.more HO.out)).mono ?_
      rintro e w4 ⟨rfl,ho⟩
      clear vc0 vc1 vc2 vc3 vc4 vc5 vc6 vc7 vc8 vc9 vc10 vlt tc0 tc1 tc2 tc3 tc4 tlt
      have HB:=hide (HB.out.more ho)
      have HT:=hide (HT.out.more ho)
      have HO:=hide (o2 HO.out ho)
      clear ho
      cases b1 with
      | true=>
        obtain ⟨vc0,vc1,vc2,vc3,vc4,vc5,vc6,vc7,vc8,vc9,vc10,vf0,vf1,vf2,vf3,vf4,vf5,vf6,vf7,vf8,vf9,vf10,vlt⟩:=HB.out
        clear vf0 vf1 vf2 vf3 vf4 vf5 vf6 vf7 vf8 vf9 vf10
        obtain ⟨tc0,tc1,tc2,tc3,tc4,tf0,tf1,tf2,tf3,tf4,tlt⟩:=HT.out
        clear tf0 tf1 tf2 tf3 tf4
        go_wp2_with fail
        refine (C2.out _ (HN.out.more HO.out)).mono ?_
        rintro e w5 ⟨rfl,ho⟩
        clear vc0 vc1 vc2 vc3 vc4 vc5 vc6 vc7 vc8 vc9 vc10 vlt tc0 tc1 tc2 tc3 tc4 tlt
        have HB:=hide (HB.out.more ho)
        have HT:=hide (HT.out.more ho)
        have HO:=hide (o2 HO.out ho)
        clear ho
        cases b2 with
        | true=>
          obtain ⟨vc0,vc1,vc2,vc3,vc4,vc5,vc6,vc7,vc8,vc9,vc10,vf0,vf1,vf2,vf3,vf4,vf5,vf6,vf7,vf8,vf9,vf10,vlt⟩:=HB.out
          clear vf0 vf1 vf2 vf3 vf4 vf5 vf6 vf7 vf8 vf9 vf10
          obtain ⟨tc0,tc1,tc2,tc3,tc4,tf0,tf1,tf2,tf3,tf4,tlt⟩:=HT.out
          clear tf0 tf1 tf2 tf3 tf4
          go_wp2_with fail
          go_ret
          exact ⟨rfl,HO.out⟩
        | false=>
          obtain ⟨vc0,vc1,vc2,vc3,vc4,vc5,vc6,vc7,vc8,vc9,vc10,vf0,vf1,vf2,vf3,vf4,vf5,vf6,vf7,vf8,vf9,vf10,vlt⟩:=HB.out
          clear vf0 vf1 vf2 vf3 vf4 vf5 vf6 vf7 vf8 vf9 vf10
          obtain ⟨tc0,tc1,tc2,tc3,tc4,tf0,tf1,tf2,tf3,tf4,tlt⟩:=HT.out
          clear tf0 tf1 tf2 tf3 tf4
          go_wp2_with fail
          go_ret
          exact ⟨rfl,HO.out⟩
      | false=>
        obtain ⟨vc0,vc1,vc2,vc3,vc4,vc5,vc6,vc7,vc8,vc9,vc10,vf0,vf1,vf2,vf3,vf4,vf5,vf6,vf7,vf8,vf9,vf10,vlt⟩:=HB.out
        clear vf0 vf1 vf2 vf3 vf4 vf5 vf6 vf7 vf8 vf9 vf10
        obtain ⟨tc0,tc1,tc2,tc3,tc4,tf0,tf1,tf2,tf3,tf4,tlt⟩:=HT.out
        clear tf0 tf1 tf2 tf3 tf4
        go_wp2_with fail
        go_ret
        exact ⟨rfl,HO.out⟩
end Go.Proofs.YtajjakljheafjaaGreat
