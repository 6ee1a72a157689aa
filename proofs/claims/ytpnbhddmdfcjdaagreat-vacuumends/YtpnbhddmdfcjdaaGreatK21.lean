/- Parts. -/
import Derived.Test.YtpnbhddmdfcjdaaGreatK20
import Derived.Lib.AppendZeros
set_option maxRecDepth 100000

namespace Go.Proofs.YtpnbhddmdfcjdaaGreat
open Go.RowKit
/-- A view as plain data. -/
structure Vw where
  m : Int
  next : Int
  act : List Int
  own : Int
  run : List Int
  pg : Pg
/-- A version as plain data. -/
structure Tp where
  xmin : Int
  xmax : Int
  fz : Bool
  key : ByteArray
  val : ByteArray
noncomputable def vsi (V : Vw) (x : Int) : Int := if x ∈ V.run then 1 else (gst V.m V.pg x : Int)
theorem vsi_bd (V : Vw) (x : Int) : 0 ≤ vsi V x ∧ vsi V x < 4 := by
  unfold vsi gst
  split
  · omega
  · split
    · have := stAt_lt (bl (it1 V.pg)) (x - 1).toNat
      omega
    · omega
noncomputable def vcom (V : Vw) (x : Int) : Bool := decide (vsi V x = 2)
noncomputable def vabo (V : Vw) (x : Int) : Bool := decide (vsi V x = 3)
noncomputable def vpast (V : Vw) (x h : Int) : Bool := vcom V x && xbef V.m x h
noncomputable def vnever (V : Vw) (T : Tp) : Bool := !T.fz && vabo V T.xmin
noncomputable def vgone (V : Vw) (T : Tp) (h : Int) : Bool := vnever V T || (T.xmax != 0 && vpast V T.xmax h)
noncomputable def vold (V : Vw) (T : Tp) (h : Int) : Bool := !T.fz && vpast V T.xmin h
noncomputable def voff (V : Vw) (T : Tp) : Bool := T.xmax != 0 && vabo V T.xmax
/-- Where a view's lists lie. -/
structure Lo where
  bA : Nat
  aA : Option Addr
  cA : Nat
  bR : Nat
  aR : Option Addr
  cR : Nat
  bP : Nat
  aP : Option Addr
  cP : Nat
/-- A view's lists in memory. -/
structure Sn (W : World) (V : Vw) (q : Lo) : Prop where
  act : Nz W q.bA q.aA V.act
  run : Nz W q.bR q.aR V.run
  pg : Strs W q.bP q.aP V.pg.items
  fit : Fit q.aP V.pg.items.length q.cP
  m : I64 V.m
  next : I64 V.next
  own : I64 V.own
theorem Sn.more {W W' : World} {V : Vw} {q : Lo} (h : Sn W V q) (ho : Only (fun _ => False) W W') : Sn W' V q := ⟨h.act.more ho, h.run.more ho, h.pg.more ho, h.fit, h.m, h.next, h.own⟩
/-- 11 cells in block b. -/
structure VB (w : World) (b : Nat) (v0 v1 v2 v3 v4 v5 v6 v7 v8 v9 v10 : Value) : Prop where
  c0 : w.cell? ⟨b, 0, none⟩ = some v0
  c1 : w.cell? ⟨b, 1, none⟩ = some v1
  c2 : w.cell? ⟨b, 2, none⟩ = some v2
  c3 : w.cell? ⟨b, 3, none⟩ = some v3
  c4 : w.cell? ⟨b, 4, none⟩ = some v4
  c5 : w.cell? ⟨b, 5, none⟩ = some v5
  c6 : w.cell? ⟨b, 6, none⟩ = some v6
  c7 : w.cell? ⟨b, 7, none⟩ = some v7
  c8 : w.cell? ⟨b, 8, none⟩ = some v8
  c9 : w.cell? ⟨b, 9, none⟩ = some v9
  c10 : w.cell? ⟨b, 10, none⟩ = some v10
  f0 : w.frozen? ⟨b, 0, none⟩ = false
  f1 : w.frozen? ⟨b, 1, none⟩ = false
  f2 : w.frozen? ⟨b, 2, none⟩ = false
  f3 : w.frozen? ⟨b, 3, none⟩ = false
  f4 : w.frozen? ⟨b, 4, none⟩ = false
  f5 : w.frozen? ⟨b, 5, none⟩ = false
  f6 : w.frozen? ⟨b, 6, none⟩ = false
  f7 : w.frozen? ⟨b, 7, none⟩ = false
  f8 : w.frozen? ⟨b, 8, none⟩ = false
  f9 : w.frozen? ⟨b, 9, none⟩ = false
  f10 : w.frozen? ⟨b, 10, none⟩ = false
  lt : b < w.heap.size
theorem VB.kept {S : Nat → Prop} {w w' : World} {b : Nat} {v0 v1 v2 v3 v4 v5 v6 v7 v8 v9 v10 : Value} (h : VB w b v0 v1 v2 v3 v4 v5 v6 v7 v8 v9 v10) (ho : Only S w w') (hS : ¬ S b) : VB w' b v0 v1 v2 v3 v4 v5 v6 v7 v8 v9 v10 :=
  ⟨(ho.cell (p := ⟨b, 0, none⟩) h.lt hS).trans h.c0, (ho.cell (p := ⟨b, 1, none⟩) h.lt hS).trans h.c1, (ho.cell (p := ⟨b, 2, none⟩) h.lt hS).trans h.c2, (ho.cell (p := ⟨b, 3, none⟩) h.lt hS).trans h.c3, (ho.cell (p := ⟨b, 4, none⟩) h.lt hS).trans h.c4, (ho.cell (p := ⟨b, 5, none⟩) h.lt hS).trans h.c5, (ho.cell (p := ⟨b, 6, none⟩) h.lt hS).trans h.c6, (ho.cell (p := ⟨b, 7, none⟩) h.lt hS).trans h.c7, (ho.cell (p := ⟨b, 8, none⟩) h.lt hS).trans h.c8, (ho.cell (p := ⟨b, 9, none⟩) h.lt hS).trans h.c9, (ho.cell (p := ⟨b, 10, none⟩) h.lt hS).trans h.c10,
   (ho.frozen (p := ⟨b, 0, none⟩) h.lt hS).trans h.f0, (ho.frozen (p := ⟨b, 1, none⟩) h.lt hS).trans h.f1, (ho.frozen (p := ⟨b, 2, none⟩) h.lt hS).trans h.f2, (ho.frozen (p := ⟨b, 3, none⟩) h.lt hS).trans h.f3, (ho.frozen (p := ⟨b, 4, none⟩) h.lt hS).trans h.f4, (ho.frozen (p := ⟨b, 5, none⟩) h.lt hS).trans h.f5, (ho.frozen (p := ⟨b, 6, none⟩) h.lt hS).trans h.f6, (ho.frozen (p := ⟨b, 7, none⟩) h.lt hS).trans h.f7, (ho.frozen (p := ⟨b, 8, none⟩) h.lt hS).trans h.f8, (ho.frozen (p := ⟨b, 9, none⟩) h.lt hS).trans h.f9, (ho.frozen (p := ⟨b, 10, none⟩) h.lt hS).trans h.f10, Nat.lt_of_lt_of_le h.lt ho.size⟩
theorem VB.more {w w' : World} {b : Nat} {v0 v1 v2 v3 v4 v5 v6 v7 v8 v9 v10 : Value} (h : VB w b v0 v1 v2 v3 v4 v5 v6 v7 v8 v9 v10) (ho : Only (fun _ => False) w w') : VB w' b v0 v1 v2 v3 v4 v5 v6 v7 v8 v9 v10 := h.kept ho (fun h => h)
theorem VB.new (w : World) (v0 v1 v2 v3 v4 v5 v6 v7 v8 v9 v10 : Value) : VB (w.alloc (.cells #[v0, v1, v2, v3, v4, v5, v6, v7, v8, v9, v10] 32)) w.heap.size v0 v1 v2 v3 v4 v5 v6 v7 v8 v9 v10 :=
  ⟨by simp, by simp, by simp, by simp, by simp, by simp, by simp, by simp, by simp, by simp, by simp, by simp, by simp, by simp, by simp, by simp, by simp, by simp, by simp, by simp, by simp, by simp, by simp⟩
theorem VB.setC {w : World} {b : Nat} {v0 v1 v2 v3 v4 v5 v6 v7 v8 v9 v10 : Value} (h : VB w b v0 v1 v2 v3 v4 v5 v6 v7 v8 v9 v10) {k : Nat} (u : Value) : VB (w.setCell ⟨b, k, none⟩ u) b (if k = 0 then u else v0) (if k = 1 then u else v1) (if k = 2 then u else v2) (if k = 3 then u else v3) (if k = 4 then u else v4) (if k = 5 then u else v5) (if k = 6 then u else v6) (if k = 7 then u else v7) (if k = 8 then u else v8) (if k = 9 then u else v9) (if k = 10 then u else v10) := by
  have cl : ∀ (i : Nat) (v : Value), w.cell? ⟨b, i, none⟩ = some v → (w.setCell ⟨b, k, none⟩ u).cell? ⟨b, i, none⟩ = some (if k = i then u else v) := fun i v hv => by
    by_cases e : k = i
    · subst e; rw [if_pos rfl]; exact World.cell?_setCell_same _ _ _ hv
    · rw [if_neg e]; exact (World.cell?_setCell_other _ _ _ _ (by intro e2; injection e2 with _ e3; exact e e3)).trans hv
  exact ⟨cl 0 _ h.c0, cl 1 _ h.c1, cl 2 _ h.c2, cl 3 _ h.c3, cl 4 _ h.c4, cl 5 _ h.c5, cl 6 _ h.c6, cl 7 _ h.c7, cl 8 _ h.c8, cl 9 _ h.c9, cl 10 _ h.c10, by simpa using h.f0, by simpa using h.f1, by simpa using h.f2, by simpa using h.f3, by simpa using h.f4, by simpa using h.f5, by simpa using h.f6, by simpa using h.f7, by simpa using h.f8, by simpa using h.f9, by simpa using h.f10, by simpa using h.lt⟩
/-- 5 cells in block b. -/
structure TB (w : World) (b : Nat) (v0 v1 v2 v3 v4 : Value) : Prop where
  c0 : w.cell? ⟨b, 0, none⟩ = some v0
  c1 : w.cell? ⟨b, 1, none⟩ = some v1
  c2 : w.cell? ⟨b, 2, none⟩ = some v2
  c3 : w.cell? ⟨b, 3, none⟩ = some v3
  c4 : w.cell? ⟨b, 4, none⟩ = some v4
  f0 : w.frozen? ⟨b, 0, none⟩ = false
  f1 : w.frozen? ⟨b, 1, none⟩ = false
  f2 : w.frozen? ⟨b, 2, none⟩ = false
  f3 : w.frozen? ⟨b, 3, none⟩ = false
  f4 : w.frozen? ⟨b, 4, none⟩ = false
  lt : b < w.heap.size
theorem TB.kept {S : Nat → Prop} {w w' : World} {b : Nat} {v0 v1 v2 v3 v4 : Value} (h : TB w b v0 v1 v2 v3 v4) (ho : Only S w w') (hS : ¬ S b) : TB w' b v0 v1 v2 v3 v4 :=
  ⟨(ho.cell (p := ⟨b, 0, none⟩) h.lt hS).trans h.c0, (ho.cell (p := ⟨b, 1, none⟩) h.lt hS).trans h.c1, (ho.cell (p := ⟨b, 2, none⟩) h.lt hS).trans h.c2, (ho.cell (p := ⟨b, 3, none⟩) h.lt hS).trans h.c3, (ho.cell (p := ⟨b, 4, none⟩) h.lt hS).trans h.c4,
   (ho.frozen (p := ⟨b, 0, none⟩) h.lt hS).trans h.f0, (ho.frozen (p := ⟨b, 1, none⟩) h.lt hS).trans h.f1, (ho.frozen (p := ⟨b, 2, none⟩) h.lt hS).trans h.f2, (ho.frozen (p := ⟨b, 3, none⟩) h.lt hS).trans h.f3, (ho.frozen (p := ⟨b, 4, none⟩) h.lt hS).trans h.f4, Nat.lt_of_lt_of_le h.lt ho.size⟩
theorem TB.more {w w' : World} {b : Nat} {v0 v1 v2 v3 v4 : Value} (h : TB w b v0 v1 v2 v3 v4) (ho : Only (fun _ => False) w w') : TB w' b v0 v1 v2 v3 v4 := h.kept ho (fun h => h)
theorem TB.new (w : World) (v0 v1 v2 v3 v4 : Value) : TB (w.alloc (.cells #[v0, v1, v2, v3, v4] 62)) w.heap.size v0 v1 v2 v3 v4 :=
  ⟨by simp, by simp, by simp, by simp, by simp, by simp, by simp, by simp, by simp, by simp, by simp⟩
theorem quiet_only {f : Nat} {a : Array Value} {w : World} {r : Ending} (h : Calls Tryz.prog f a w fun e w' => e = r ∧ w' = w) : Calls Tryz.prog f a w fun e w' => e = r ∧ Only (fun _ => False) w w' :=
  h.mono (fun e w' ⟨h1, h2⟩ => ⟨h1, by rw [h2]; exact Only.refl _ _⟩)
theorem four {z : Int} (h : 0 ≤ z) (k : z < 4) : z = 0 ∨ z = 1 ∨ z = 2 ∨ z = 3 := by omega
set_option maxRecDepth 100000 in
set_option maxHeartbeats 1600000 in
theorem status_any (w : World) (V : Vw) (q : Lo) (x : Int) (h : Sn w V q) (hx : I64 x) :
    Calls Tryz.prog 104 #[.agg #[.int .i64 V.m, .int .i64 V.next, .slice q.aA V.act.length q.cA, .int .i64 V.own, .slice q.aR V.run.length q.cR, .int .i64 V.pg.lsn, .int .i64 V.pg.kind, .int .i64 V.pg.level, .int .i64 V.pg.right, .string V.pg.high, .slice q.aP V.pg.items.length q.cP], .int .i64 x] w fun e w' => e = .returned (.int .u8 (vsi V x)) ∧ Only (fun _ => False) w w' := by
  have C0 := hide (fun W (h : Sn W V q) => quiet_only (scontains_any W q.bR q.cR q.aR V.run x h.run))
  have C1 := hide (fun W (h : Sn W V q) => cget_any W V.m V.pg.lsn V.pg.kind V.pg.level V.pg.right x V.pg.high q.cP q.bP q.aP V.pg.items h.m hx h.pg)
  have HN := hide h
  clear h hx
  have HB := hide (VB.new w (.int .i64 V.m) (.int .i64 V.next) (.slice q.aA V.act.length q.cA) (.int .i64 V.own) (.slice q.aR V.run.length q.cR) (.int .i64 V.pg.lsn) (.int .i64 V.pg.kind) (.int .i64 V.pg.level) (.int .i64 V.pg.right) (.string V.pg.high) (.slice q.aP V.pg.items.length q.cP))
  have HO := hide (onlyA w (.cells #[.int .i64 V.m, .int .i64 V.next, .slice q.aA V.act.length q.cA, .int .i64 V.own, .slice q.aR V.run.length q.cR, .int .i64 V.pg.lsn, .int .i64 V.pg.kind, .int .i64 V.pg.level, .int .i64 V.pg.right, .string V.pg.high, .slice q.aP V.pg.items.length q.cP] 32))
  by_cases hr : x ∈ V.run
  ·
    rw [decide_eq_true hr] at C0
    have hv : vsi V x = 1 := by unfold vsi; rw [if_pos hr]
    rw [hv]
    clear hr hv
    go_enter Tryz.func104, Tryz.ntmps104
    go_upto_region 1 with fail
    obtain ⟨W0, hW0⟩ : ∃ W, w.alloc (.cells #[.int .i64 V.m, .int .i64 V.next, .slice q.aA V.act.length q.cA, .int .i64 V.own, .slice q.aR V.run.length q.cR, .int .i64 V.pg.lsn, .int .i64 V.pg.kind, .int .i64 V.pg.level, .int .i64 V.pg.right, .string V.pg.high, .slice q.aP V.pg.items.length q.cP] 32) = W := ⟨_, rfl⟩
    rw [hW0] at HB HO ⊢
    clear hW0
    obtain ⟨vc0, vc1, vc2, vc3, vc4, vc5, vc6, vc7, vc8, vc9, vc10, vf0, vf1, vf2, vf3, vf4, vf5, vf6, vf7, vf8, vf9, vf10, vlt⟩ := HB.out
    clear vf0 vf1 vf2 vf3 vf4 vf5 vf6 vf7 vf8 vf9 vf10
    go_wp2_with fail
    refine (C0.out _ (HN.out.more HO.out)).mono ?_
    rintro e w1 ⟨rfl, ho⟩
    clear vc0 vc1 vc2 vc3 vc4 vc5 vc6 vc7 vc8 vc9 vc10 vlt
    have HB := hide (HB.out.more ho)
    have HO := hide (o2 HO.out ho)
    clear ho
    obtain ⟨vc0, vc1, vc2, vc3, vc4, vc5, vc6, vc7, vc8, vc9, vc10, vf0, vf1, vf2, vf3, vf4, vf5, vf6, vf7, vf8, vf9, vf10, vlt⟩ := HB.out
    clear vf0 vf1 vf2 vf3 vf4 vf5 vf6 vf7 vf8 vf9 vf10
    go_wp2_with fail
    go_ret
    exact ⟨rfl, HO.out⟩
  ·
    rw [decide_eq_false hr] at C0
    have hv : vsi V x = (gst V.m V.pg x : Int) := by unfold vsi; rw [if_neg hr]
    rw [hv]
    clear hr hv
    go_enter Tryz.func104, Tryz.ntmps104
    go_upto_region 1 with fail
    obtain ⟨W0, hW0⟩ : ∃ W, w.alloc (.cells #[.int .i64 V.m, .int .i64 V.next, .slice q.aA V.act.length q.cA, .int .i64 V.own, .slice q.aR V.run.length q.cR, .int .i64 V.pg.lsn, .int .i64 V.pg.kind, .int .i64 V.pg.level, .int .i64 V.pg.right, .string V.pg.high, .slice q.aP V.pg.items.length q.cP] 32) = W := ⟨_, rfl⟩
    rw [hW0] at HB HO ⊢
    clear hW0
    obtain ⟨vc0, vc1, vc2, vc3, vc4, vc5, vc6, vc7, vc8, vc9, vc10, vf0, vf1, vf2, vf3, vf4, vf5, vf6, vf7, vf8, vf9, vf10, vlt⟩ := HB.out
    clear vf0 vf1 vf2 vf3 vf4 vf5 vf6 vf7 vf8 vf9 vf10
    go_wp2_with fail
    refine (C0.out _ (HN.out.more HO.out)).mono ?_
    rintro e w2 ⟨rfl, ho⟩
    clear vc0 vc1 vc2 vc3 vc4 vc5 vc6 vc7 vc8 vc9 vc10 vlt
    have HB := hide (HB.out.more ho)
    have HO := hide (o2 HO.out ho)
    clear ho
    obtain ⟨vc0, vc1, vc2, vc3, vc4, vc5, vc6, vc7, vc8, vc9, vc10, vf0, vf1, vf2, vf3, vf4, vf5, vf6, vf7, vf8, vf9, vf10, vlt⟩ := HB.out
    clear vf0 vf1 vf2 vf3 vf4 vf5 vf6 vf7 vf8 vf9 vf10
    go_wp2_with fail
    refine (C1.out _ (HN.out.more HO.out)).mono ?_
    rintro e w3 ⟨rfl, ho⟩
    clear vc0 vc1 vc2 vc3 vc4 vc5 vc6 vc7 vc8 vc9 vc10 vlt
    have HB := hide (HB.out.more ho)
    have HO := hide (o2 HO.out ho)
    clear ho
    obtain ⟨vc0, vc1, vc2, vc3, vc4, vc5, vc6, vc7, vc8, vc9, vc10, vf0, vf1, vf2, vf3, vf4, vf5, vf6, vf7, vf8, vf9, vf10, vlt⟩ := HB.out
    clear vf0 vf1 vf2 vf3 vf4 vf5 vf6 vf7 vf8 vf9 vf10
    go_wp2_with fail
    go_ret
    exact ⟨rfl, HO.out⟩
set_option maxRecDepth 100000 in
set_option maxHeartbeats 1600000 in
theorem isCom_any (w : World) (V : Vw) (q : Lo) (x : Int) (h : Sn w V q) (hx : I64 x) :
    Calls Tryz.prog 102 #[.agg #[.int .i64 V.m, .int .i64 V.next, .slice q.aA V.act.length q.cA, .int .i64 V.own, .slice q.aR V.run.length q.cR, .int .i64 V.pg.lsn, .int .i64 V.pg.kind, .int .i64 V.pg.level, .int .i64 V.pg.right, .string V.pg.high, .slice q.aP V.pg.items.length q.cP], .int .i64 x] w fun e w' => e = .returned (.bool (vcom V x)) ∧ Only (fun _ => False) w w' := by
  have C0 := hide (fun W (h : Sn W V q) => status_any W V q x h hx)
  simp only [vcom]
  obtain ⟨b0, hb0⟩ : ∃ b, vsi V x = b := ⟨_, rfl⟩
  have hs0 : 0 ≤ b0 ∧ b0 < 4 := by rw [← hb0]; exact vsi_bd _ _
  simp only [hb0] at C0 ⊢
  clear hb0
  have HN := hide h
  clear h hx
  have HB := hide (VB.new w (.int .i64 V.m) (.int .i64 V.next) (.slice q.aA V.act.length q.cA) (.int .i64 V.own) (.slice q.aR V.run.length q.cR) (.int .i64 V.pg.lsn) (.int .i64 V.pg.kind) (.int .i64 V.pg.level) (.int .i64 V.pg.right) (.string V.pg.high) (.slice q.aP V.pg.items.length q.cP))
  have HO := hide (onlyA w (.cells #[.int .i64 V.m, .int .i64 V.next, .slice q.aA V.act.length q.cA, .int .i64 V.own, .slice q.aR V.run.length q.cR, .int .i64 V.pg.lsn, .int .i64 V.pg.kind, .int .i64 V.pg.level, .int .i64 V.pg.right, .string V.pg.high, .slice q.aP V.pg.items.length q.cP] 32))
  go_enter Tryz.func102, Tryz.ntmps102
  go_upto_region 1 with fail
  obtain ⟨W0, hW0⟩ : ∃ W, w.alloc (.cells #[.int .i64 V.m, .int .i64 V.next, .slice q.aA V.act.length q.cA, .int .i64 V.own, .slice q.aR V.run.length q.cR, .int .i64 V.pg.lsn, .int .i64 V.pg.kind, .int .i64 V.pg.level, .int .i64 V.pg.right, .string V.pg.high, .slice q.aP V.pg.items.length q.cP] 32) = W := ⟨_, rfl⟩
  rw [hW0] at HB HO ⊢
  clear hW0
  obtain ⟨vc0, vc1, vc2, vc3, vc4, vc5, vc6, vc7, vc8, vc9, vc10, vf0, vf1, vf2, vf3, vf4, vf5, vf6, vf7, vf8, vf9, vf10, vlt⟩ := HB.out
  clear vf0 vf1 vf2 vf3 vf4 vf5 vf6 vf7 vf8 vf9 vf10
  go_wp2_with fail
  refine (C0.out _ (HN.out.more HO.out)).mono ?_
  rintro e w1 ⟨rfl, ho⟩
  clear vc0 vc1 vc2 vc3 vc4 vc5 vc6 vc7 vc8 vc9 vc10 vlt
  have HB := hide (HB.out.more ho)
  have HO := hide (o2 HO.out ho)
  clear ho
  rcases four hs0.1 hs0.2 with rfl | rfl | rfl | rfl
  · clear hs0
    obtain ⟨vc0, vc1, vc2, vc3, vc4, vc5, vc6, vc7, vc8, vc9, vc10, vf0, vf1, vf2, vf3, vf4, vf5, vf6, vf7, vf8, vf9, vf10, vlt⟩ := HB.out
    clear vf0 vf1 vf2 vf3 vf4 vf5 vf6 vf7 vf8 vf9 vf10
    go_wp2_with fail
    go_ret
    exact ⟨rfl, HO.out⟩
  · clear hs0
    obtain ⟨vc0, vc1, vc2, vc3, vc4, vc5, vc6, vc7, vc8, vc9, vc10, vf0, vf1, vf2, vf3, vf4, vf5, vf6, vf7, vf8, vf9, vf10, vlt⟩ := HB.out
    clear vf0 vf1 vf2 vf3 vf4 vf5 vf6 vf7 vf8 vf9 vf10
    go_wp2_with fail
    go_ret
    exact ⟨rfl, HO.out⟩
  · clear hs0
    obtain ⟨vc0, vc1, vc2, vc3, vc4, vc5, vc6, vc7, vc8, vc9, vc10, vf0, vf1, vf2, vf3, vf4, vf5, vf6, vf7, vf8, vf9, vf10, vlt⟩ := HB.out
    clear vf0 vf1 vf2 vf3 vf4 vf5 vf6 vf7 vf8 vf9 vf10
    go_wp2_with fail
    go_ret
    exact ⟨rfl, HO.out⟩
  · clear hs0
    obtain ⟨vc0, vc1, vc2, vc3, vc4, vc5, vc6, vc7, vc8, vc9, vc10, vf0, vf1, vf2, vf3, vf4, vf5, vf6, vf7, vf8, vf9, vf10, vlt⟩ := HB.out
    clear vf0 vf1 vf2 vf3 vf4 vf5 vf6 vf7 vf8 vf9 vf10
    go_wp2_with fail
    go_ret
    exact ⟨rfl, HO.out⟩
set_option maxRecDepth 100000 in
set_option maxHeartbeats 1600000 in
theorem isAbo_any (w : World) (V : Vw) (q : Lo) (x : Int) (h : Sn w V q) (hx : I64 x) :
    Calls Tryz.prog 59 #[.agg #[.int .i64 V.m, .int .i64 V.next, .slice q.aA V.act.length q.cA, .int .i64 V.own, .slice q.aR V.run.length q.cR, .int .i64 V.pg.lsn, .int .i64 V.pg.kind, .int .i64 V.pg.level, .int .i64 V.pg.right, .string V.pg.high, .slice q.aP V.pg.items.length q.cP], .int .i64 x] w fun e w' => e = .returned (.bool (vabo V x)) ∧ Only (fun _ => False) w w' := by
  have C0 := hide (fun W (h : Sn W V q) => status_any W V q x h hx)
  simp only [vabo]
  obtain ⟨b0, hb0⟩ : ∃ b, vsi V x = b := ⟨_, rfl⟩
  have hs0 : 0 ≤ b0 ∧ b0 < 4 := by rw [← hb0]; exact vsi_bd _ _
  simp only [hb0] at C0 ⊢
  clear hb0
  have HN := hide h
  clear h hx
  have HB := hide (VB.new w (.int .i64 V.m) (.int .i64 V.next) (.slice q.aA V.act.length q.cA) (.int .i64 V.own) (.slice q.aR V.run.length q.cR) (.int .i64 V.pg.lsn) (.int .i64 V.pg.kind) (.int .i64 V.pg.level) (.int .i64 V.pg.right) (.string V.pg.high) (.slice q.aP V.pg.items.length q.cP))
  have HO := hide (onlyA w (.cells #[.int .i64 V.m, .int .i64 V.next, .slice q.aA V.act.length q.cA, .int .i64 V.own, .slice q.aR V.run.length q.cR, .int .i64 V.pg.lsn, .int .i64 V.pg.kind, .int .i64 V.pg.level, .int .i64 V.pg.right, .string V.pg.high, .slice q.aP V.pg.items.length q.cP] 32))
  go_enter Tryz.func59, Tryz.ntmps59
  go_upto_region 1 with fail
  obtain ⟨W0, hW0⟩ : ∃ W, w.alloc (.cells #[.int .i64 V.m, .int .i64 V.next, .slice q.aA V.act.length q.cA, .int .i64 V.own, .slice q.aR V.run.length q.cR, .int .i64 V.pg.lsn, .int .i64 V.pg.kind, .int .i64 V.pg.level, .int .i64 V.pg.right, .string V.pg.high, .slice q.aP V.pg.items.length q.cP] 32) = W := ⟨_, rfl⟩
  rw [hW0] at HB HO ⊢
  clear hW0
  obtain ⟨vc0, vc1, vc2, vc3, vc4, vc5, vc6, vc7, vc8, vc9, vc10, vf0, vf1, vf2, vf3, vf4, vf5, vf6, vf7, vf8, vf9, vf10, vlt⟩ := HB.out
  clear vf0 vf1 vf2 vf3 vf4 vf5 vf6 vf7 vf8 vf9 vf10
  go_wp2_with fail
  refine (C0.out _ (HN.out.more HO.out)).mono ?_
  rintro e w1 ⟨rfl, ho⟩
  clear vc0 vc1 vc2 vc3 vc4 vc5 vc6 vc7 vc8 vc9 vc10 vlt
  have HB := hide (HB.out.more ho)
  have HO := hide (o2 HO.out ho)
  clear ho
  rcases four hs0.1 hs0.2 with rfl | rfl | rfl | rfl
  · clear hs0
    obtain ⟨vc0, vc1, vc2, vc3, vc4, vc5, vc6, vc7, vc8, vc9, vc10, vf0, vf1, vf2, vf3, vf4, vf5, vf6, vf7, vf8, vf9, vf10, vlt⟩ := HB.out
    clear vf0 vf1 vf2 vf3 vf4 vf5 vf6 vf7 vf8 vf9 vf10
    go_wp2_with fail
    go_ret
    exact ⟨rfl, HO.out⟩
  · clear hs0
    obtain ⟨vc0, vc1, vc2, vc3, vc4, vc5, vc6, vc7, vc8, vc9, vc10, vf0, vf1, vf2, vf3, vf4, vf5, vf6, vf7, vf8, vf9, vf10, vlt⟩ := HB.out
    clear vf0 vf1 vf2 vf3 vf4 vf5 vf6 vf7 vf8 vf9 vf10
    go_wp2_with fail
    go_ret
    exact ⟨rfl, HO.out⟩
  · clear hs0
    obtain ⟨vc0, vc1, vc2, vc3, vc4, vc5, vc6, vc7, vc8, vc9, vc10, vf0, vf1, vf2, vf3, vf4, vf5, vf6, vf7, vf8, vf9, vf10, vlt⟩ := HB.out
    clear vf0 vf1 vf2 vf3 vf4 vf5 vf6 vf7 vf8 vf9 vf10
    go_wp2_with fail
    go_ret
    exact ⟨rfl, HO.out⟩
  · clear hs0
    obtain ⟨vc0, vc1, vc2, vc3, vc4, vc5, vc6, vc7, vc8, vc9, vc10, vf0, vf1, vf2, vf3, vf4, vf5, vf6, vf7, vf8, vf9, vf10, vlt⟩ := HB.out
    clear vf0 vf1 vf2 vf3 vf4 vf5 vf6 vf7 vf8 vf9 vf10
    go_wp2_with fail
    go_ret
    exact ⟨rfl, HO.out⟩
set_option maxRecDepth 100000 in
set_option maxHeartbeats 1600000 in
theorem isPast_any (w : World) (V : Vw) (q : Lo) (x : Int) (z : Int) (h : Sn w V q) (hx : I64 x) (hz : I64 z) :
    Calls Tryz.prog 57 #[.agg #[.int .i64 V.m, .int .i64 V.next, .slice q.aA V.act.length q.cA, .int .i64 V.own, .slice q.aR V.run.length q.cR, .int .i64 V.pg.lsn, .int .i64 V.pg.kind, .int .i64 V.pg.level, .int .i64 V.pg.right, .string V.pg.high, .slice q.aP V.pg.items.length q.cP], .int .i64 x, .int .i64 z] w fun e w' => e = .returned (.bool (vpast V x z)) ∧ Only (fun _ => False) w w' := by
  have C0 := hide (fun W (h : Sn W V q) => isCom_any W V q x h hx)
  have C1 := hide (fun W (h : Sn W V q) => quiet_only (before_any V.m x z W h.m hx hz))
  simp only [vpast]
  obtain ⟨b0, hb0⟩ : ∃ b, vcom V x = b := ⟨_, rfl⟩
  obtain ⟨b1, hb1⟩ : ∃ b, xbef V.m x z = b := ⟨_, rfl⟩
  simp only [hb0, hb1] at C0 C1 ⊢
  clear hb0 hb1
  have HN := hide h
  clear h hx hz
  have HB := hide (VB.new w (.int .i64 V.m) (.int .i64 V.next) (.slice q.aA V.act.length q.cA) (.int .i64 V.own) (.slice q.aR V.run.length q.cR) (.int .i64 V.pg.lsn) (.int .i64 V.pg.kind) (.int .i64 V.pg.level) (.int .i64 V.pg.right) (.string V.pg.high) (.slice q.aP V.pg.items.length q.cP))
  have HO := hide (onlyA w (.cells #[.int .i64 V.m, .int .i64 V.next, .slice q.aA V.act.length q.cA, .int .i64 V.own, .slice q.aR V.run.length q.cR, .int .i64 V.pg.lsn, .int .i64 V.pg.kind, .int .i64 V.pg.level, .int .i64 V.pg.right, .string V.pg.high, .slice q.aP V.pg.items.length q.cP] 32))
  go_enter Tryz.func57, Tryz.ntmps57
  go_upto_region 1 with fail
  obtain ⟨W0, hW0⟩ : ∃ W, w.alloc (.cells #[.int .i64 V.m, .int .i64 V.next, .slice q.aA V.act.length q.cA, .int .i64 V.own, .slice q.aR V.run.length q.cR, .int .i64 V.pg.lsn, .int .i64 V.pg.kind, .int .i64 V.pg.level, .int .i64 V.pg.right, .string V.pg.high, .slice q.aP V.pg.items.length q.cP] 32) = W := ⟨_, rfl⟩
  rw [hW0] at HB HO ⊢
  clear hW0
  obtain ⟨vc0, vc1, vc2, vc3, vc4, vc5, vc6, vc7, vc8, vc9, vc10, vf0, vf1, vf2, vf3, vf4, vf5, vf6, vf7, vf8, vf9, vf10, vlt⟩ := HB.out
  clear vf0 vf1 vf2 vf3 vf4 vf5 vf6 vf7 vf8 vf9 vf10
  go_wp2_with fail
  refine (C0.out _ (HN.out.more HO.out)).mono ?_
  rintro e w1 ⟨rfl, ho⟩
  clear vc0 vc1 vc2 vc3 vc4 vc5 vc6 vc7 vc8 vc9 vc10 vlt
  have HB := hide (HB.out.more ho)
  have HO := hide (o2 HO.out ho)
  clear ho
  cases b0 with
  | true =>
    obtain ⟨vc0, vc1, vc2, vc3, vc4, vc5, vc6, vc7, vc8, vc9, vc10, vf0, vf1, vf2, vf3, vf4, vf5, vf6, vf7, vf8, vf9, vf10, vlt⟩ := HB.out
    clear vf0 vf1 vf2 vf3 vf4 vf5 vf6 vf7 vf8 vf9 vf10
    go_wp2_with fail
    refine (C1.out _ (HN.out.more HO.out)).mono ?_
    rintro e w2 ⟨rfl, ho⟩
    clear vc0 vc1 vc2 vc3 vc4 vc5 vc6 vc7 vc8 vc9 vc10 vlt
    have HB := hide (HB.out.more ho)
    have HO := hide (o2 HO.out ho)
    clear ho
    cases b1 with
    | true =>
      obtain ⟨vc0, vc1, vc2, vc3, vc4, vc5, vc6, vc7, vc8, vc9, vc10, vf0, vf1, vf2, vf3, vf4, vf5, vf6, vf7, vf8, vf9, vf10, vlt⟩ := HB.out
      clear vf0 vf1 vf2 vf3 vf4 vf5 vf6 vf7 vf8 vf9 vf10
      go_wp2_with fail
      go_ret
      exact ⟨rfl, HO.out⟩
    | false =>
      obtain ⟨vc0, vc1, vc2, vc3, vc4, vc5, vc6, vc7, vc8, vc9, vc10, vf0, vf1, vf2, vf3, vf4, vf5, vf6, vf7, vf8, vf9, vf10, vlt⟩ := HB.out
      clear vf0 vf1 vf2 vf3 vf4 vf5 vf6 vf7 vf8 vf9 vf10
      go_wp2_with fail
      go_ret
      exact ⟨rfl, HO.out⟩
  | false =>
    obtain ⟨vc0, vc1, vc2, vc3, vc4, vc5, vc6, vc7, vc8, vc9, vc10, vf0, vf1, vf2, vf3, vf4, vf5, vf6, vf7, vf8, vf9, vf10, vlt⟩ := HB.out
    clear vf0 vf1 vf2 vf3 vf4 vf5 vf6 vf7 vf8 vf9 vf10
    go_wp2_with fail
    go_ret
    exact ⟨rfl, HO.out⟩
/-- A text taken, if nothing was wrong before. -/
def stx (z : Int) (l : List UInt8) (x : Int) : List UInt8 × List UInt8 × Int := if x = 0 then rdT z l else ([], l, x)
theorem rdTT_stx (l : List UInt8) : rdTT l = ((rdT 24 l).1, (stx 64 (rdT 24 l).2.1 (rdT 24 l).2.2).1, (stx 64 (rdT 24 l).2.1 (rdT 24 l).2.2).2.1, (stx 64 (rdT 24 l).2.1 (rdT 24 l).2.2).2.2) := by
  unfold rdTT stx
  split <;> rfl
theorem rtext_st (w : World) (r : Nat) (s : ByteArray) (x z : Int) (hR : Rd w r s x) :
    Calls Tryz.prog 99 #[.pointer (some ⟨r, 0, none⟩), .int .i64 z] w fun e w' => e = .returned (.string (str (stx z (bl s) x).1)) ∧ Rd w' r (str (stx z (bl s) x).2.1) (stx z (bl s) x).2.2 ∧ Only (fun k => k = r) w w' := by
  unfold stx
  by_cases hx : x = 0
  · subst hx
    rw [if_pos rfl]
    refine (rtext_any w r s z hR).mono ?_
    rintro e w' ⟨he, h1, h2⟩
    exact ⟨he, h1, h2⟩
  · rw [if_neg hx]
    refine (rtext_err w r x z hR.c1 (by simpa using hx)).mono ?_
    rintro e w' ⟨he, rfl⟩
    refine ⟨he, ?_, Only.refl _ _⟩
    simp only [str_bl]
    exact hR
theorem rend_st (w : World) (r : Nat) (s : ByteArray) (x : Int) (hR : Rd w r s x) :
    Calls Tryz.prog 100 #[.pointer (some ⟨r, 0, none⟩)] w fun e w' => e = .returned (.int .i64 (endE (bl s) x)) ∧ w' = w := by
  unfold endE
  by_cases hx : x = 0
  · subst hx
    rw [if_pos rfl, bl_len]
    exact rend_ok w r s hR.c1 hR.c0
  · rw [if_neg hx]
    exact rend_err w r x hR.c1 (by simpa using hx)
theorem of_two (s : ByteArray) (i : Nat) (h : i + 2 ≤ s.size) (w : World) : Calls Tryz.prog 98 #[.string (s.extract i (i + 2))] w fun e w' => e = .returned (.int .i64 (ofTo (((bl s).drop i).take 2))) ∧ w' = w := by
  have hl := bl_len s
  have e1 : (s.extract i (i + 2)).data.toList = ((bl s).drop i).take 2 := by
    have := ext_blU s i (i + 2)
    rwa [show i + 2 - i = 2 by omega] at this
  have l2 : (((bl s).drop i).take 2).length = 2 := by simp; omega
  have hb := ofTo_small (((bl s).drop i).take 2) (by omega)
  rw [l2] at hb
  have hz : (s.extract i (i + 2)).size = 2 := by rw [← bl_len]; exact (congrArg List.length e1).trans l2
  have := of_any (s.extract i (i + 2)) w (by rw [hz]; decide)
  rw [e1, Int.emod_eq_of_lt hb.1 (by omega)] at this
  exact this
set_option maxRecDepth 100000 in
set_option maxHeartbeats 1600000 in
theorem udecode_head (s : ByteArray) (w : World) (h : headed (bl s) = false) :
    Calls Tryz.prog 53 #[.string s] w fun e w' => e = .returned (.tuple #[noT.agg, .int .i64 110]) ∧ Only (fun _ => False) w w' := by
  have HB := hide (Tb.new w noT)
  have HO := hide (onlyA w (.cells #[.int .i64 0, .int .i64 0, .bool false, .string ⟨#[]⟩, .string ⟨#[]⟩] 62))
  have hl := bl_len s
  by_cases h5 : 5 ≤ s.size
  · obtain ⟨a, r, h1, h2, h3⟩ := ext_first s (by omega)
    have hm : (a == 1 || a == 3) = false := by
      unfold headed marked at h
      rw [h1] at h hl
      simpa [show 4 ≤ r.length by simp at hl; omega] using h
    have HM : Hid (∀ W, Calls Tryz.prog 96 #[.string (s.extract 0 1)] W fun e w' => e = .returned (.bool false) ∧ w' = W) := fun W => by
      rw [h2, ← hm]
      exact isMark_any a W
    have t5 : (5 : Int) ≤ (s.size : Int) := by omega
    clear h hl h1 h2 h3 hm h5
    go_enter Tryz.func53, Tryz.ntmps53
    go_wp2_with fail
    refine (HM.out _).mono ?_
    rintro e w1 ⟨rfl, rfl⟩
    go_wp2_with fail
    refine bodyPost_ret (results_tub rfl rfl HB.out) rfl ?_
    exact ⟨rfl, HO.out⟩
  · have t5 : (s.size : Int) < 5 := by omega
    clear h hl h5
    go_enter Tryz.func53, Tryz.ntmps53
    go_wp2_with fail
    refine bodyPost_ret (results_tub rfl rfl HB.out) rfl ?_
    exact ⟨rfl, HO.out⟩
-- {good
/-- The variables of Decode: what it answers, its reader, the version that it fills. -/
structure Dst (w W : World) (D : ByteArray) (x : Int) (t : Tu) : Prop where
  res : Tb W w.heap.size noT
  rd : Rd W (w.heap.size + 1) D x
  tb : Tb W (w.heap.size + 1 + 1) t
  only : Only (fun _ => False) w W
theorem Dst.new (w : World) (D : ByteArray) (f : Bool) : Dst w (((w.alloc (.cells #[.int .i64 0, .int .i64 0, .bool false, .string ⟨#[]⟩, .string ⟨#[]⟩] 62)).alloc (.cells #[.string D, .int .i64 0] 179)).alloc (.cells #[.int .i64 0, .int .i64 0, .bool f, .string ⟨#[]⟩, .string ⟨#[]⟩] 62)) D 0 ⟨0, 0, f, ⟨#[]⟩, ⟨#[]⟩⟩ := by
  refine ⟨((Tb.new w noT).more (onlyA _ _)).more (onlyA _ _), ?_, ?_, o2 (o2 (onlyA _ _) (onlyA _ _)) (onlyA _ _)⟩
  · have := (Rd.new (w.alloc (.cells #[.int .i64 0, .int .i64 0, .bool false, .string ⟨#[]⟩, .string ⟨#[]⟩] 62)) D).alloc (.cells #[.int .i64 0, .int .i64 0, .bool f, .string ⟨#[]⟩, .string ⟨#[]⟩] 62)
    rw [World.size_alloc] at this
    exact this
  · have := Tb.new ((w.alloc (.cells #[.int .i64 0, .int .i64 0, .bool false, .string ⟨#[]⟩, .string ⟨#[]⟩] 62)).alloc (.cells #[.string D, .int .i64 0] 179)) ⟨0, 0, f, ⟨#[]⟩, ⟨#[]⟩⟩
    rw [World.size_alloc, World.size_alloc] at this
    exact this
theorem Dst.drew {w W : World} {D : ByteArray} {x : Int} {t : Tu} (h : Dst w W D x t) : Dst w W.drew D x t :=
  ⟨h.res.more (Only.drew _ _), h.rd.kept (Only.drew (fun _ => False) _) (fun h => h), h.tb.more (Only.drew _ _), o2 h.only (Only.drew _ _)⟩
theorem Dst.set {w W : World} {D : ByteArray} {x : Int} {t t' : Tu} (h : Dst w W D x t) (i : Nat) (v : Value) (ht : Tb (W.setCell ⟨w.heap.size + 1 + 1, i, none⟩ v) (w.heap.size + 1 + 1) t') : Dst w (W.setCell ⟨w.heap.size + 1 + 1, i, none⟩ v) D x t' := by
  have ho : Only (fun k => k = w.heap.size + 1 + 1) W (W.setCell ⟨w.heap.size + 1 + 1, i, none⟩ v) := Only.setCell W _ v rfl
  exact ⟨h.res.kept ho (by omega), h.rd.kept ho (by omega), ht, h.only.trans ho (fun j hj e => by omega)⟩
theorem Dst.text {w W W' : World} {D D' : ByteArray} {x x' : Int} {t : Tu} (h : Dst w W D x t) (hr : Rd W' (w.heap.size + 1) D' x') (ho : Only (fun k => k = w.heap.size + 1) W W') : Dst w W' D' x' t :=
  ⟨h.res.kept ho (by omega), hr, h.tb.kept ho (by omega), h.only.trans ho (fun j hj e => by omega)⟩
theorem Dst.more {w W W' : World} {D : ByteArray} {x : Int} {t : Tu} (h : Dst w W D x t) (ho : Only (fun _ => False) W W') : Dst w W' D x t :=
  ⟨h.res.more ho, h.rd.kept ho (fun h => h), h.tb.more ho, o2 h.only ho⟩
/-- What Decode answers. -/
def outT (o : Option Tu) : Value := .tuple #[(o.getD noT).agg, .int .i64 (if o.isSome then 0 else 110)]
set_option maxRecDepth 100000 in
set_option maxHeartbeats 3200000 in
theorem udecode_good (s : ByteArray) (w : World) (h : headed (bl s) = true) :
    Calls Tryz.prog 53 #[.string s] w fun e w' => e = .returned (outT (decT (bl s))) ∧ Only (fun _ => False) w w' := by
  have hl := bl_len s
  have h' := h
  unfold headed marked at h'
  simp only [Bool.and_eq_true, decide_eq_true_eq] at h'
  obtain ⟨h5, hm0⟩ := h'
  obtain ⟨a, r, h1, h2, h3⟩ := ext_first s (by omega)
  have hm : (a == 1 || a == 3) = true := by
    rw [h1] at hm0
    simpa using hm0
  have HM : Hid (∀ W, Calls Tryz.prog 96 #[.string (s.extract 0 1)] W fun e w' => e = .returned (.bool true) ∧ w' = W) := fun W => by
    rw [h2, ← hm]
    exact isMark_any a W
  have t5 : (5 : Int) ≤ (s.size : Int) := by omega
  have t3 : (3 : Int) ≤ (s.size : Int) := by omega
  have hfz : ((s.extract 0 1).toList == [3]) = ((bl s).head? == some 3) := by
    rw [h2, h1]
    simp [ByteArray.toList_eq]
  obtain ⟨D, hD⟩ : ∃ D, s.extract 5 s.size = D := ⟨_, rfl⟩
  have bD : bl D = (bl s).drop 5 := by rw [← hD, ext_blU]; exact List.take_of_length_le (by simp)
  obtain ⟨fz, efz⟩ : ∃ f, ((bl s).head? == some 3) = f := ⟨_, rfl⟩
  rw [efz] at hfz
  obtain ⟨q1, hq1⟩ : ∃ q, ofTo (((bl s).drop 1).take 2) = q := ⟨_, rfl⟩
  obtain ⟨q2, hq2⟩ : ∃ q, ofTo (((bl s).drop 3).take 2) = q := ⟨_, rfl⟩
  have bq : (0 ≤ q1 ∧ q1 < 65536) ∧ (0 ≤ q2 ∧ q2 < 65536) := by
    have e1 := ofTo_small (((bl s).drop 1).take 2) (by simp; omega)
    have e2 := ofTo_small (((bl s).drop 3).take 2) (by simp; omega)
    have l1 : (((bl s).drop 1).take 2).length = 2 := by simp; omega
    have l2 : (((bl s).drop 3).take 2).length = 2 := by simp; omega
    rw [l1, hq1] at e1
    rw [l2, hq2] at e2
    omega
  have HOF1 : Hid (∀ W, Calls Tryz.prog 98 #[.string (s.extract 1 3)] W fun e w' => e = .returned (.int .i64 q1) ∧ w' = W) := fun W => by
    rw [← hq1]
    exact of_two s 1 (by omega) W
  have HOF2 : Hid (∀ W, Calls Tryz.prog 98 #[.string (s.extract 3 5)] W fun e w' => e = .returned (.int .i64 q2) ∧ w' = W) := fun W => by
    rw [← hq2]
    exact of_two s 3 (by omega) W
  obtain ⟨A1, hA1⟩ : ∃ A, s.extract 1 3 = A := ⟨_, rfl⟩
  obtain ⟨A2, hA2⟩ : ∃ A, s.extract 3 5 = A := ⟨_, rfl⟩
  rw [hA1] at HOF1
  rw [hA2] at HOF2
  obtain ⟨P, hP⟩ : ∃ P, stx 24 (bl D) 0 = P := ⟨_, rfl⟩
  obtain ⟨R, hR⟩ : ∃ R, stx 64 P.2.1 P.2.2 = R := ⟨_, rfl⟩
  have HRAW : Hid (rawT (bl s) = ⟨q1, q2, fz, str P.1, str R.1⟩ ∧ endT ((bl s).drop 5) = endE R.2.1 R.2.2) := by
    have e0 : rdT 24 ((bl s).drop 5) = P := by rw [← hP, bD]; rfl
    have e1 := rdTT_stx ((bl s).drop 5)
    rw [e0, hR] at e1
    unfold rawT endT
    rw [e1, hq1, hq2, efz]
    exact ⟨rfl, rfl⟩
  have HP : Hid (stx 24 (bl D) 0 = P) := hP
  have HR : Hid (stx 64 P.2.1 P.2.2 = R) := hR
  have HD := hide hD
  have HH := hide h
  obtain ⟨K1, hK1⟩ : ∃ k, str P.1 = k := ⟨_, rfl⟩
  obtain ⟨V1, hV1⟩ : ∃ k, str R.1 = k := ⟨_, rfl⟩
  rw [hK1, hV1] at HRAW
  have HK1 := hide hK1
  have HV1 := hide hV1
  obtain ⟨E, hE⟩ : ∃ E, endE R.2.1 R.2.2 = E := ⟨_, rfl⟩
  rw [hE] at HRAW
  have HE := hide hE
  obtain ⟨O, hO⟩ : ∃ O, Tu.ok ⟨q1, q2, fz, K1, V1⟩ = O := ⟨_, rfl⟩
  have HOK : Hid (∀ W, Calls Tryz.prog 50 #[.agg #[.int .i64 q1, .int .i64 q2, .bool fz, .string K1, .string V1]] W fun e w' => e = .returned (.bool O) ∧ Only (fun _ => False) W w') := fun W => by
    rw [← hO]
    exact isVersion_any ⟨q1, q2, fz, K1, V1⟩ W ⟨by simp only; omega, by simp only; omega⟩ ⟨by simp only; omega, by simp only; omega⟩
  have HDE : Hid (decT (bl s) = if E = 0 ∧ O = true then some ⟨q1, q2, fz, K1, V1⟩ else none) := by
    unfold Hid decT goodT
    rw [HRAW.out.1, HRAW.out.2, h, hO]
    by_cases e1 : E = 0 <;> cases O <;> simp [e1]
  clear h1 h2 h3 hm hm0 efz hD bD h hl hP hR hK1 hV1 hE hO hq1 hq2 h5 bq HRAW
  go_enter Tryz.func53, Tryz.ntmps53
  go_wp2_with fail
  refine (HM.out _).mono ?_
  rintro e w1 ⟨rfl, rfl⟩
  go_wp2_with fail
  rw [HD.out]
  refine (read_any D _).mono ?_
  rintro e w2 ⟨rfl, rfl⟩
  go_upto_region 5 with fail
  have H0 := hide (Dst.new w D fz)
  obtain ⟨W0, hW0⟩ : ∃ x, ((w.alloc (.cells #[.int .i64 0, .int .i64 0, .bool false, .string ⟨#[]⟩, .string ⟨#[]⟩] 62)).alloc (.cells #[.string D, .int .i64 0] 179)).alloc (.cells #[.int .i64 0, .int .i64 0, .bool fz, .string ⟨#[]⟩, .string ⟨#[]⟩] 62) = x := ⟨_, rfl⟩
  rw [hW0] at H0 ⊢
  clear hW0
  have c0 := H0.out.tb.c0
  have f0 := H0.out.tb.f0
  have c1 := H0.out.tb.c1
  have f1 := H0.out.tb.f1
  refine wp_region_noPanic ?_
  refine wp_region_held_drew (S := fun W => Only (fun k => k = w.heap.size + 1 + 1) W0 W) (by kernel_rfl) (Only.drew _ _) (fun hHeld => ?_)
  refine wpAnyH_take (i := 0) (oi := { dst := some 23, op := Op.move (Operand.tmp 0), type := 9, pos := "tuple.go:45", after := #[], guard := none }) (v := .string s) rfl (by kernel_rfl) (by kernel_rfl) (by kernel_rfl) (fun _ _ _ h => h) (Or.inl ⟨by rfl, fun w' hSw => by clear hSw; go_simp⟩) (by assumption) ?_
  simp only [Act.put, List.setIfInBounds_toArray, List.set_cons_zero, List.set_cons_succ]
  refine wpAnyH_take (i := 3) (oi := { dst := some 26, op := Op.move (Operand.tmp 0), type := 9, pos := "tuple.go:45", after := #[], guard := none }) (v := .string s) rfl (by kernel_rfl) (by kernel_rfl) (by kernel_rfl) (fun _ _ _ h => h) (Or.inl ⟨by rfl, fun w' hSw => by clear hSw; go_simp⟩) (by assumption) ?_
  simp only [Act.put, List.setIfInBounds_toArray, List.set_cons_zero, List.set_cons_succ]
  refine wpAnyH_take (i := 1) (oi := { dst := some 24, op := Op.slice 9 (Operand.tmp 23) (some (Operand.const (Value.int IntKind.i64 1))) (some (Operand.const (Value.int IntKind.i64 3))) none, type := 9, pos := "tuple.go:45", after := #[{ on := 0, ground := Ground.data }], guard := none }) (v := .string A1) rfl (by kernel_rfl) (by kernel_rfl) (by kernel_rfl) (fun _ _ _ h => h) (Or.inl ⟨by rfl, fun w' hSw => by clear hSw; go_simp⟩) (by assumption) ?_
  simp only [Act.put, List.setIfInBounds_toArray, List.set_cons_zero, List.set_cons_succ]
  refine wpAnyH_take (i := 4) (oi := { dst := some 27, op := Op.slice 9 (Operand.tmp 26) (some (Operand.const (Value.int IntKind.i64 3))) (some (Operand.const (Value.int IntKind.i64 5))) none, type := 9, pos := "tuple.go:45", after := #[{ on := 3, ground := Ground.data }], guard := none }) (v := .string A2) rfl (by kernel_rfl) (by kernel_rfl) (by kernel_rfl) (fun _ _ _ h => h) (Or.inl ⟨by rfl, fun w' hSw => by clear hSw; go_simp⟩) (by assumption) ?_
  simp only [Act.put, List.setIfInBounds_toArray, List.set_cons_zero, List.set_cons_succ]
  refine wpAnyH_ready (rs := [2]) (by kernel_rfl) (by simp) ?_
  refine AllReadyH.cons (o := { dst := some 25, op := Op.call { callee := Callee.value (Operand.func 98), args := #[Operand.tmp 24], argTypes := #[9] }, type := 3, pos := "tuple.go:45", after := #[{ on := 1, ground := Ground.data }], guard := none }) rfl (fun K hK => ?_) (AllReadyH.nil)
  go_simp
  refine (HOF1.out _).mono ?_
  rintro e _ ⟨rfl, rfl⟩
  refine hK.out _ _ (Only.drew _ _) (fun hHeld => ?_)
  clear hK K
  try simp only [Act.put, List.setIfInBounds_toArray, List.set_cons_zero, List.set_cons_succ]
  refine wpAnyH_take (i := 6) (oi := { dst := some 29, op := Op.fieldAddr 62 (Operand.tmp 5) 0, type := 0, pos := "tuple.go:45", after := #[{ on := 0, ground := Ground.phase }, { on := 1, ground := Ground.phase }, { on := 2, ground := Ground.phase }, { on := 3, ground := Ground.textOnly Departure.lateStores }, { on := 4, ground := Ground.textOnly Departure.lateStoresUnsure }, { on := 5, ground := Ground.textOnly Departure.lateStoresUnsure }], guard := none }) (v := .pointer (some ⟨w.heap.size + 1 + 1, 0, none⟩)) rfl (by kernel_rfl) (by kernel_rfl) (by kernel_rfl) (fun _ _ _ h => h) (Or.inl ⟨by rfl, fun w' hSw => by clear hSw; go_simp⟩) (by assumption) ?_
  simp only [Act.put, List.setIfInBounds_toArray, List.set_cons_zero, List.set_cons_succ]
  refine wpAnyH_ready (rs := [5]) (by kernel_rfl) (by simp) ?_
  refine AllReadyH.cons (o := { dst := some 28, op := Op.call { callee := Callee.value (Operand.func 98), args := #[Operand.tmp 27], argTypes := #[9] }, type := 3, pos := "tuple.go:45", after := #[{ on := 4, ground := Ground.data }, { on := 2, ground := Ground.chain }], guard := none }) rfl (fun K hK => ?_) (AllReadyH.nil)
  go_simp
  refine (HOF2.out _).mono ?_
  rintro e _ ⟨rfl, rfl⟩
  refine hK.out _ _ (Only.drew _ _) (fun hHeld => ?_)
  clear hK K
  try simp only [Act.put, List.setIfInBounds_toArray, List.set_cons_zero, List.set_cons_succ]
  refine wpAnyH_ready (rs := [7]) (by kernel_rfl) (by simp) ?_
  refine AllReadyH.cons (o := { dst := none, op := Op.store 3 (Operand.tmp 29) (Operand.tmp 25), type := 0, pos := "tuple.go:45", after := #[{ on := 6, ground := Ground.data }, { on := 2, ground := Ground.data }, { on := 5, ground := Ground.chain }, { on := 0, ground := Ground.phase }, { on := 1, ground := Ground.phase }, { on := 2, ground := Ground.phase }, { on := 3, ground := Ground.textOnly Departure.lateStores }, { on := 4, ground := Ground.textOnly Departure.lateStoresUnsure }, { on := 5, ground := Ground.textOnly Departure.lateStoresUnsure }], guard := none }) rfl (fun K hK => ?_) (AllReadyH.nil)
  go_simp
  refine hK.out _ _ ((Only.drew _ _).trans (Only.setCell (S := fun k => k = w.heap.size + 1 + 1) _ _ _ rfl) (fun _ _ h => h)) (fun hHeld => ?_)
  clear hK K
  try simp only [Act.put, List.setIfInBounds_toArray, List.set_cons_zero, List.set_cons_succ]
  refine wpAnyH_take (i := 8) (oi := { dst := some 30, op := Op.fieldAddr 62 (Operand.tmp 5) 1, type := 0, pos := "tuple.go:45", after := #[{ on := 0, ground := Ground.phase }, { on := 1, ground := Ground.phase }, { on := 2, ground := Ground.phase }, { on := 3, ground := Ground.phase }, { on := 4, ground := Ground.phase }, { on := 5, ground := Ground.phase }, { on := 6, ground := Ground.phase }, { on := 7, ground := Ground.phase }], guard := none }) (v := .pointer (some ⟨w.heap.size + 1 + 1, 1, none⟩)) rfl (by kernel_rfl) (by kernel_rfl) (by kernel_rfl) (fun _ _ _ h => h) (Or.inl ⟨by rfl, fun w' hSw => by clear hSw; go_simp⟩) (by assumption) ?_
  simp only [Act.put, List.setIfInBounds_toArray, List.set_cons_zero, List.set_cons_succ]
  refine wpAnyH_ready (rs := [9]) (by kernel_rfl) (by simp) ?_
  refine AllReadyH.cons (o := { dst := none, op := Op.store 3 (Operand.tmp 30) (Operand.tmp 28), type := 0, pos := "tuple.go:45", after := #[{ on := 8, ground := Ground.data }, { on := 5, ground := Ground.data }, { on := 7, ground := Ground.chain }, { on := 0, ground := Ground.phase }, { on := 1, ground := Ground.phase }, { on := 2, ground := Ground.phase }, { on := 3, ground := Ground.phase }, { on := 4, ground := Ground.phase }, { on := 5, ground := Ground.phase }, { on := 6, ground := Ground.phase }, { on := 7, ground := Ground.phase }], guard := none }) rfl (fun K hK => ?_) (AllReadyH.nil)
  go_simp
  refine hK.out _ _ (((Only.drew _ _).trans (Only.setCell (S := fun k => k = w.heap.size + 1 + 1) _ _ _ rfl) (fun _ _ h => h)).trans (Only.setCell (S := fun k => k = w.heap.size + 1 + 1) _ _ _ rfl) (fun _ _ h => h)) (fun hHeld => ?_)
  clear hK K
  try simp only [Act.put, List.setIfInBounds_toArray, List.set_cons_zero, List.set_cons_succ]
  refine wpAnyH_done (by kernel_rfl) ?_ _
  refine NoPanic.normal ?_
  rw [Exit.then]
  have H1 := hide ((H0.out.set 0 _ (H0.out.tb.s0 q1)).set 1 _ ((H0.out.tb.s0 q1).s1 q2)).drew
  clear c0 f0 c1 f1 hHeld
  obtain ⟨W1, hW1⟩ : ∃ x, ((W0.setCell ⟨w.heap.size + 1 + 1, 0, none⟩ (.int .i64 q1)).setCell ⟨w.heap.size + 1 + 1, 1, none⟩ (.int .i64 q2)).drew = x := ⟨_, rfl⟩
  rw [hW1] at H1 ⊢
  clear hW1
  go_wp2_with fail
  refine (rtext_st _ _ D 0 24 H1.out.rd).mono ?_
  rintro e W2 ⟨rfl, hr2, ho2⟩
  rw [HP.out] at hr2 ⊢
  rw [HK1.out]
  have H2 := hide (H1.out.text hr2 ho2)
  clear hr2 ho2
  have c3 := H2.out.tb.c3
  have f3 := H2.out.tb.f3
  go_wp2_with fail
  have H3 := hide (H2.out.set 3 _ (H2.out.tb.s3 K1))
  clear c3 f3
  refine (rtext_st _ _ (str P.2.1) P.2.2 64 H3.out.rd).mono ?_
  rintro e W4 ⟨rfl, hr4, ho4⟩
  rw [bl_str, HR.out] at hr4 ⊢
  rw [HV1.out]
  have H4 := hide (H3.out.text hr4 ho4)
  clear hr4 ho4
  have c4 := H4.out.tb.c4
  have f4 := H4.out.tb.f4
  go_wp2_with fail
  have H5 := hide (H4.out.set 4 _ (H4.out.tb.s4 V1))
  clear c4 f4
  obtain ⟨W5, hW5⟩ : ∃ x, W4.setCell ⟨w.heap.size + 1 + 1, 4, none⟩ (.string V1) = x := ⟨_, rfl⟩
  rw [hW5] at H5 ⊢
  clear hW5
  refine (rend_st _ _ (str R.2.1) R.2.2 H5.out.rd).mono ?_
  rintro e W6 ⟨rfl, rfl⟩
  rw [bl_str, HE.out]
  have c0 := H5.out.tb.c0
  have c1 := H5.out.tb.c1
  have c2 := H5.out.tb.c2
  have c3 := H5.out.tb.c3
  have c4 := H5.out.tb.c4
  have HQ : Hid (∀ W', Only (fun _ => False) W6 W' → Tb W' w.heap.size noT) := fun W' hW' => H5.out.res.more hW'
  simp only at c0 c1 c2 c3 c4
  by_cases he : E = 0
  · subst he
    have HDX : Hid (decT (bl s) = if O = true then some ⟨q1, q2, fz, K1, V1⟩ else none) := by unfold Hid; rw [HDE.out]; simp
    go_wp2_with fail
    refine (HOK.out _).mono ?_
    rintro e W7 ⟨rfl, ho7⟩
    have H7 := hide (H5.out.more ho7)
    clear ho7
    have r0 := H7.out.res.c0
    have r1 := H7.out.res.c1
    have r2 := H7.out.res.c2
    have r3 := H7.out.res.c3
    have r4 := H7.out.res.c4
    have g0 := H7.out.res.f0
    have g1 := H7.out.res.f1
    have g2 := H7.out.res.f2
    have g3 := H7.out.res.f3
    have g4 := H7.out.res.f4
    clear c0 c1 c2 c3 c4
    have c0 := H7.out.tb.c0
    have c1 := H7.out.tb.c1
    have c2 := H7.out.tb.c2
    have c3 := H7.out.tb.c3
    have c4 := H7.out.tb.c4
    simp only at c0 c1 c2 c3 c4
    cases O
    · go_wp2_with fail
      refine bodyPost_ret (results_tub rfl rfl (H7.out.res.all noT)) rfl ?_
      exact ⟨by rw [HDX.out]; rfl, H7.out.only.trans (Only.fiveU _ _ _ _ _ _ _) (fun i hi e => by omega)⟩
    · go_wp2_with fail
      refine bodyPost_ret (results_tub rfl rfl (H7.out.res.all ⟨q1, q2, fz, K1, V1⟩)) rfl ?_
      exact ⟨by rw [HDX.out]; rfl, H7.out.only.trans (Only.fiveU _ _ _ _ _ _ _) (fun i hi e => by omega)⟩
  · have he' : (E != 0) = true := by simpa using he
    have HDX : Hid (decT (bl s) = none) := by unfold Hid; rw [HDE.out, if_neg (fun h => he h.1)]
    clear he c0 c1 c2 c3 c4
    have r0 := H5.out.res.c0
    have r1 := H5.out.res.c1
    have r2 := H5.out.res.c2
    have r3 := H5.out.res.c3
    have r4 := H5.out.res.c4
    have g0 := H5.out.res.f0
    have g1 := H5.out.res.f1
    have g2 := H5.out.res.f2
    have g3 := H5.out.res.f3
    have g4 := H5.out.res.f4
    go_wp2_with fail
    refine bodyPost_ret (results_tub rfl rfl (H5.out.res.all noT)) rfl ?_
    exact ⟨by rw [HDX.out]; rfl, H5.out.only.trans (Only.fiveU _ _ _ _ _ _ _) (fun i hi e => by omega)⟩
theorem udecode_any (s : ByteArray) (w : World) :
    Calls Tryz.prog 53 #[.string s] w fun e w' => e = .returned (outT (decT (bl s))) ∧ Only (fun _ => False) w w' := by
  cases h : headed (bl s)
  · have e : decT (bl s) = none := by unfold decT goodT; rw [h]; rfl
    rw [e]
    exact udecode_head s w h
  · exact udecode_good s w h
/-- What Dead answers. -/
def dOut (k : ByteArray) : List UInt8 := if okK k then dlay k else []
def dErr (k : ByteArray) : Int := if okK k then 0 else 110
set_option maxRecDepth 100000 in
set_option maxHeartbeats 800000 in
theorem udead_any (k : ByteArray) (w : World) :
    Calls Tryz.prog 20 #[.string k] w fun e w' => e = .returned (.tuple #[.string (str (dOut k)), .int .i64 (dErr k)]) ∧ Only (fun _ => False) w w' := by
  have HC : Hid (∀ W, Calls Tryz.prog 48 #[.string k] W fun e w' => e = .returned (.bool (okK k)) ∧ w' = W) := fun W => isKey_any k W
  unfold dOut dErr
  cases h : okK k
  · rw [h] at HC
    clear h
    go_enter Tryz.func20, Tryz.ntmps20
    go_wp2_with fail
    refine (HC.out _).mono ?_
    rintro e w0 ⟨rfl, hw⟩
    obtain rfl := hw.symm
    clear hw
    go_wp2_with fail
    go_ret2
    exact ⟨rfl, Only.refl _ _⟩
  · rw [h] at HC
    have hk := okK_iff.1 h
    have HS := hide (strs1 w k (by omega))
    have HO := hide (onlyA w (.cells #[.string k] 9))
    have HL : Hid (∀ W B, Strs W B (some ⟨B, 0, none⟩) [k] → Calls Tryz.prog 49 #[.slice (some ⟨B, 0, none⟩) 1 1] W fun e w' => e = .returned (.string (str (txL k))) ∧ Only (fun _ => False) W w') := fun W B hs => by
      have := ulaid_any W B 1 (some ⟨B, 0, none⟩) [k] hs (by simp) (fun s hs => by
        simp only [List.mem_cons, List.not_mem_nil, or_false] at hs
        subst hs
        omega)
      rw [show txsL [k] = txL k by simp [txsL]] at this
      exact this
    obtain ⟨Y, hY⟩ : ∃ Y, str (txL k) = Y := ⟨_, rfl⟩
    have sY : Y.size ≤ 25 := by rw [← hY, str_size, txL_len _ (by omega)]; omega
    have HE : Hid ((⟨#[4]⟩ : ByteArray) ++ Y = str (dlay k)) := by
      unfold Hid
      rw [← hY]
      exact str_catU [4] (txL k)
    rw [hY] at HL
    clear h hY hk
    go_enter Tryz.func20, Tryz.ntmps20
    go_wp2_with fail
    refine (HC.out _).mono ?_
    rintro e w0 ⟨rfl, hw⟩
    obtain rfl := hw.symm
    clear hw
    go_wp2_with fail
    refine (HL.out _ _ HS.out).mono ?_
    rintro e w1 ⟨rfl, ho⟩
    have HO1 := hide (o2 HO.out ho)
    clear ho
    go_wp2_with fail
    go_ret2
    exact ⟨by simp [HE.out], HO1.out⟩
/-- What deadKey and Key answer. -/
def outK (o : Option ByteArray) : Value := .tuple #[.string (o.getD ⟨#[]⟩), .bool o.isSome]
set_option maxRecDepth 100000 in
set_option maxHeartbeats 1600000 in
theorem deadKey_any (s : ByteArray) (w : World) :
    Calls Tryz.prog 101 #[.string s] w fun e w' => e = .returned (outK (deadK (bl s))) ∧ Only (fun _ => False) w w' := by
  have HC := hide (cut_any s w)
  obtain ⟨f, hf⟩ : ∃ f, fourB (bl s) = f := ⟨_, rfl⟩
  obtain ⟨D, hD⟩ : ∃ D, behind s = D := ⟨_, rfl⟩
  obtain ⟨P, hP⟩ : ∃ P, stx 24 (bl D) 0 = P := ⟨_, rfl⟩
  obtain ⟨K, hK⟩ : ∃ K, str P.1 = K := ⟨_, rfl⟩
  obtain ⟨E, hE⟩ : ∃ E, endE P.2.1 P.2.2 = E := ⟨_, rfl⟩
  obtain ⟨O, hO⟩ : ∃ O, okK K = O := ⟨_, rfl⟩
  have HOK : Hid (∀ W, Calls Tryz.prog 48 #[.string K] W fun e w' => e = .returned (.bool O) ∧ w' = W) := fun W => by
    rw [← hO]
    exact isKey_any K W
  have HDE : Hid (deadK (bl s) = if f = true ∧ E = 0 ∧ O = true then some K else none) := by
    unfold Hid
    have hfi : (bl s).head? = some 4 ↔ f = true := by
      rw [← hf]
      unfold fourB
      simp
    by_cases h4 : f = true
    · have bD : bl D = (bl s).drop 1 := by
        rw [← hD]
        unfold behind
        rw [hf, h4, if_pos rfl, ext_blU]
        exact List.take_of_length_le (by simp)
      have e0 : rdT 24 ((bl s).drop 1) = P := by rw [← hP, bD]; rfl
      unfold deadK endD
      rw [e0, hE, hK, hO]
      simp only [hfi]
    · unfold deadK
      rw [if_neg (fun h => h4 (hfi.1 h.1)), if_neg (fun h => h4 h.1)]
  rw [hf, hD] at HC
  have HP := hide hP
  have HK := hide hK
  have HE := hide hE
  have HRN := hide (Rd.new w D)
  have HON := hide (onlyA w (.cells #[.string D, .int .i64 0] 179))
  clear hf hD hP hK hE hO
  go_enter Tryz.func101, Tryz.ntmps101
  go_wp2_with fail
  refine HC.out.mono ?_
  rintro e w0 ⟨rfl, hw⟩
  obtain rfl := hw.symm
  clear hw
  go_wp2_with fail
  refine (read_any D _).mono ?_
  rintro e w0 ⟨rfl, hw⟩
  obtain rfl := hw.symm
  clear hw
  go_wp2_with fail
  refine (rtext_st _ _ D 0 24 HRN.out).mono ?_
  rintro e w1 ⟨rfl, hr1, ho1⟩
  rw [HP.out] at hr1 ⊢
  rw [HK.out]
  have HR1 := hide hr1
  have HO1 : Hid (Only (fun _ => False) w w1) := HON.out.trans ho1 (fun i hi e => by omega)
  clear hr1 ho1
  cases f
  · have HX : Hid (deadK (bl s) = none) := by unfold Hid; rw [HDE.out]; rfl
    go_wp2_with fail
    go_ret2
    exact ⟨by rw [HX.out]; rfl, HO1.out⟩
  · go_wp2_with fail
    refine (rend_st _ _ (str P.2.1) P.2.2 HR1.out).mono ?_
    rintro e w0 ⟨rfl, hw⟩
    obtain rfl := hw.symm
    clear hw
    rw [bl_str, HE.out]
    by_cases he : E = 0
    · subst he
      have HX : Hid (deadK (bl s) = if O = true then some K else none) := by unfold Hid; rw [HDE.out]; simp
      go_wp2_with fail
      refine (HOK.out _).mono ?_
      rintro e w0 ⟨rfl, hw⟩
      obtain rfl := hw.symm
      clear hw
      cases O
      · go_wp2_with fail
        go_ret2
        exact ⟨by rw [HX.out]; rfl, HO1.out⟩
      · go_wp2_with fail
        go_ret2
        exact ⟨by rw [HX.out]; rfl, HO1.out⟩
    · have he' : (E != 0) = true := by simpa using he
      have HX : Hid (deadK (bl s) = none) := by unfold Hid; rw [HDE.out, if_neg (fun h => he h.2.1)]
      clear he
      go_wp2_with fail
      go_ret2
      exact ⟨by rw [HX.out]; rfl, HO1.out⟩
set_option maxRecDepth 100000 in
set_option maxHeartbeats 1600000 in
theorem ukey_any (s : ByteArray) (w : World) :
    Calls Tryz.prog 58 #[.string s] w fun e w' => e = .returned (outK (keyT (bl s))) ∧ Only (fun _ => False) w w' := by
  have HC := hide (udecode_any s w)
  have HDK : Hid (∀ W, Calls Tryz.prog 101 #[.string s] W fun e w' => e = .returned (outK (deadK (bl s))) ∧ Only (fun _ => False) W w') := fun W => deadKey_any s W
  unfold keyT
  cases hd : decT (bl s) with
  | none =>
    rw [hd] at HC
    simp only
    unfold outT noT Tu.agg at HC
    obtain ⟨o, ho⟩ : ∃ o, deadK (bl s) = o := ⟨_, rfl⟩
    rw [ho] at HDK ⊢
    unfold outK at HDK ⊢
    clear hd ho
    simp only [Option.getD_none, Option.isSome_none] at HC
    go_enter Tryz.func58, Tryz.ntmps58
    go_wp2_with fail
    refine HC.out.mono ?_
    rintro e w1 ⟨rfl, ho1⟩
    have HO1 := hide ho1
    clear ho1
    go_wp2_with fail
    refine (HDK.out _).mono ?_
    rintro e w2 ⟨rfl, ho2⟩
    have HO2 := hide (o2 (o2 HO1.out (onlyA _ _)) ho2)
    clear ho2
    go_wp2_with fail
    go_ret2
    exact ⟨rfl, HO2.out⟩
  | some t =>
    rw [hd] at HC
    simp only
    unfold outT Tu.agg at HC
    unfold outK
    clear hd HDK
    simp only [Option.getD_some, Option.isSome_some] at HC
    go_enter Tryz.func58, Tryz.ntmps58
    go_wp2_with fail
    refine HC.out.mono ?_
    rintro e w1 ⟨rfl, ho1⟩
    have HO1 := hide ho1
    clear ho1
    go_wp2_with fail
    go_ret2
    exact ⟨rfl, o2 HO1.out (onlyA _ _)⟩
set_option maxRecDepth 100000 in
set_option maxHeartbeats 1600000 in
theorem ustate_any (s : ByteArray) (w : World) :
    Calls Tryz.prog 54 #[.string s] w fun e w' => e = .returned (.int .u8 (stT (bl s))) ∧ Only (fun _ => False) w w' := by
  have hl := bl_len s
  by_cases h0 : bl s = []
  · have e : stT (bl s) = 1 := by rw [h0]; rfl
    have es : s = ⟨#[]⟩ := bl_inj h0
    rw [e]
    subst es
    clear h0 e hl
    go_enter Tryz.func54, Tryz.ntmps54
    go_wp2_with fail
    go_ret
    exact ⟨rfl, Only.refl _ _⟩
  · have hne : s.toList.isEmpty = false := by
      rw [ByteArray.toList_eq]
      cases e : s.data.toList with
      | nil => exact absurd e h0
      | cons a r => rfl
    have HDK := hide (deadKey_any s w)
    cases hk : deadK (bl s) with
    | some k =>
      have e : stT (bl s) = 2 := by
        unfold stT
        rw [dead_dec hk, hk]
        rfl
      rw [e]
      rw [hk] at HDK
      unfold outK at HDK
      simp only [Option.getD_some, Option.isSome_some] at HDK
      clear e hk h0 hl
      go_enter Tryz.func54, Tryz.ntmps54
      go_wp2_with fail
      refine HDK.out.mono ?_
      rintro e w1 ⟨rfl, ho1⟩
      have HO1 := hide ho1
      clear ho1
      go_wp2_with fail
      go_ret
      exact ⟨rfl, HO1.out⟩
    | none =>
      have HC : Hid (∀ W, Calls Tryz.prog 53 #[.string s] W fun e w' => e = .returned (outT (decT (bl s))) ∧ Only (fun _ => False) W w') := fun W => udecode_any s W
      have e : stT (bl s) = if (decT (bl s)).isSome then 3 else 0 := by
        unfold stT
        rw [hk]
        simp [h0]
      rw [e]
      rw [hk] at HDK
      unfold outK at HDK
      simp only [Option.getD_none, Option.isSome_none] at HDK
      clear e hk h0 hl
      obtain ⟨o, ho⟩ : ∃ o, decT (bl s) = o := ⟨_, rfl⟩
      rw [ho] at HC ⊢
      clear ho
      unfold outT Tu.agg at HC
      cases o
      all_goals
        simp only [Option.getD_some, Option.isSome_some, Option.getD_none, Option.isSome_none] at HC
        go_enter Tryz.func54, Tryz.ntmps54
        go_wp2_with fail
        refine HDK.out.mono ?_
        rintro e w1 ⟨rfl, ho1⟩
        have HO1 := hide ho1
        clear ho1
        go_wp2_with fail
        refine (HC.out _).mono ?_
        rintro e w2 ⟨rfl, ho2⟩
        have HO2 := hide (o2 HO1.out ho2)
        clear ho2
        go_wp2_with fail
        go_ret
        exact ⟨rfl, o2 HO2.out (onlyA _ _)⟩
/-- Whether there is a slot. -/
def okS (n : Nat) (s : Int) : Bool := decide (0 ≤ s ∧ s < (n : Int))
theorem okS_iff {n : Nat} {s : Int} : okS n s = true ↔ 0 ≤ s ∧ s < (n : Int) := by unfold okS; simp
/-- What becomes of a version: its bytes, and what is wrong. -/
abbrev Chg := Tu → ByteArray × Int
def cgE (o n : Int) : Chg := fun t => if t.xmax = o then (str (Tu.out ⟨t.xmin, n, t.frozen, t.key, t.value⟩), Tu.err ⟨t.xmin, n, t.frozen, t.key, t.value⟩) else (⟨#[]⟩, 110)
def cgD : Chg := fun t => (str (dOut t.key), dErr t.key)
def cgF : Chg := fun t => (str (Tu.out ⟨t.xmin, t.xmax, true, t.key, t.value⟩), Tu.err ⟨t.xmin, t.xmax, true, t.key, t.value⟩)
def cgX : Chg := fun t => (str (Tu.out ⟨t.xmin, 0, t.frozen, t.key, t.value⟩), Tu.err ⟨t.xmin, 0, t.frozen, t.key, t.value⟩)
theorem out_size (t : Tu) : (str t.out).size ≤ 128 := by
  rw [str_size]
  unfold Tu.out
  split
  · rename_i h
    have := enc_lenT h
    rw [Tu.ok_iff] at h
    omega
  · simp
theorem dOut_size (k : ByteArray) : (str (dOut k)).size ≤ 128 := by
  rw [str_size]
  unfold dOut
  split
  · rename_i h
    rw [okK_iff] at h
    have := txL_len k (by omega)
    simp [dlay]
    omega
  · simp
theorem cgE_size (o n : Int) (t : Tu) : (cgE o n t).1.size ≤ 128 := by
  unfold cgE
  split
  · exact out_size _
  · exact Nat.zero_le _
theorem cgD_size (t : Tu) : (cgD t).1.size ≤ 128 := dOut_size _
theorem cgF_size (t : Tu) : (cgF t).1.size ≤ 128 := out_size _
theorem cgX_size (t : Tu) : (cgX t).1.size ≤ 128 := out_size _
/-- The item in a slot. -/
def itS (l : List ByteArray) (s : Int) : ByteArray := l[s.toNat]?.getD ⟨#[]⟩
/-- The versions in some slots, changed: the items then, and what is wrong. -/
def chgL (f : Chg) : List Int → List ByteArray → List ByteArray × Int
  | [], l => (l, 0)
  | s :: ss, l => if okS l.length s then
      match decT (bl (itS l s)) with
      | none => ([], 110)
      | some t => if (f t).2 = 0 then chgL f ss (l.set s.toNat (f t).1) else ([], (f t).2)
    else ([], 110)
theorem itS_at {l : List ByteArray} {k : Nat} (h : k < l.length) : itS l (k : Int) = l[k] := by unfold itS; simp [h]
theorem chgL_cons (f : Chg) (s : Int) (ss : List Int) (l : List ByteArray) : chgL f (s :: ss) l = if okS l.length s then
      match decT (bl (itS l s)) with
      | none => ([], 110)
      | some t => if (f t).2 = 0 then chgL f ss (l.set s.toNat (f t).1) else ([], (f t).2)
    else ([], 110) := by rw [chgL]
theorem chgL_len (f : Chg) (ss : List Int) (l : List ByteArray) : (chgL f ss l).1.length ≤ l.length := by
  induction ss generalizing l with
  | nil => exact Nat.le_refl _
  | cons s ss ih =>
    rw [chgL_cons]
    split
    · split
      · simp
      · split
        · exact Nat.le_trans (ih _) (by simp)
        · simp
    · simp
/-- A page whose items were changed, or none. -/
def Pg.chg (p : Pg) (x : List ByteArray × Int) : Pg := if x.2 = 0 then ⟨p.lsn, p.kind, p.level, p.right, p.high, x.1⟩ else .none
/-- The slots that are free then. -/
def clnL : List Int → List ByteArray → List ByteArray × Int
  | [], l => (l, 0)
  | s :: ss, l => if okS l.length s then clnL ss (l.set s.toNat ⟨#[]⟩) else ([], 110)
theorem clnL_len (ss : List Int) (l : List ByteArray) : (clnL ss l).1.length ≤ l.length := by
  induction ss generalizing l with
  | nil => exact Nat.le_refl _
  | cons s ss ih =>
    rw [clnL]
    split
    · exact Nat.le_trans (ih _) (by simp)
    · simp
/-- What a deed answers: a page and a code; of what was there only the page's own list may have changed. -/
def DeR (w w' : World) (v : Value) (e : Ending) (p : Pg) (c : Int) : Prop := ∃ B ao cp, e = .returned (.tuple #[.agg #[.int .i64 p.lsn, .int .i64 p.kind, .int .i64 p.level, .int .i64 p.right, .string p.high, .slice ao p.items.length cp], .int .i64 c]) ∧
  Strs w' B ao p.items ∧ Fit ao p.items.length cp ∧ Only (fun k => v.ownBlock = some k) w w' ∧ (0 < p.items.length → v.ownBlock = some B ∨ w.heap.size ≤ B)
theorem DeR.res {w w' : World} {e : Ending} {p : Pg} {c : Int} (v : Value) (h : Res w w' e p c) : DeR w w' v e p c := by
  obtain ⟨B, ao, cp, he, hS, hF, ho, hB⟩ := h
  exact ⟨B, ao, cp, he, hS, hF, ho.mono (fun _ _ h => h.elim), fun h0 => .inr (hB h0)⟩
theorem deR_none {w w' : World} (v : Value) (c : Int) (ho : Only (fun k => v.ownBlock = some k) w w') : DeR w w' v (.returned (.tuple #[.agg #[.int .i64 0, .int .i64 0, .int .i64 0, .int .i64 0, .string ⟨#[]⟩, .slice none 0 0], .int .i64 c])) .none c :=
  ⟨0, Option.none, 0, rfl, Strs.nil _ _ _, ⟨fun _ => rfl, by simp [Pg.none], by simp⟩, ho, fun h => absurd h (by simp [Pg.none])⟩
end Go.Proofs.YtpnbhddmdfcjdaaGreat
namespace Go.Proofs.YtpnbhddmdfcjdaaGreat
open Go.RowKit
structure Im where
  page : Int
  body : Pg
structure Rc where
  lsn : Int
  prev : Int
  next : Int
  kind : Int
  xid : Int
  page : Int
  slot : Int
  old : Int
  new : Int
  redo : Int
  data : ByteArray
  slots : List Int
  more : List Int
  images : List Im
  pages : List (Int × Int)
  txns : List (Int × Int)
def Rc.none : Rc := ⟨0, 0, 0, 0, 0, 0, 0, 0, 0, 0, ⟨#[]⟩, [], [], [], [], []⟩
/-- The greatest number. -/
abbrev top : Int := 4611686018427387904
def mb (n : Int) : Prop := 0 ≤ n ∧ n ≤ top
instance (n : Int) : Decidable (mb n) := by unfold mb; exact inferInstance
theorem pe_new (w : World) (v0 v1 v2 v3 v4 v5 : Value) (e : En) : Pag ((w.alloc (.cells #[v0, v1, v2, v3, v4, v5] 30)).alloc (.cells #[.string e.key, .int .i64 e.page, .int .i64 e.slot] 74)) w.heap.size v0 v1 v2 v3 v4 v5 ∧ Ev ((w.alloc (.cells #[v0, v1, v2, v3, v4, v5] 30)).alloc (.cells #[.string e.key, .int .i64 e.page, .int .i64 e.slot] 74)) (w.heap.size + 1) e ∧ Only (fun _ => False) w ((w.alloc (.cells #[v0, v1, v2, v3, v4, v5] 30)).alloc (.cells #[.string e.key, .int .i64 e.page, .int .i64 e.slot] 74)) := by
  refine ⟨(Pag.new w v0 v1 v2 v3 v4 v5).more (onlyA _ _), ?_, o2 (onlyA _ _) (onlyA _ _)⟩
  have e1 := Ev.new (w.alloc (.cells #[v0, v1, v2, v3, v4, v5] 30)) e
  rw [World.size_alloc] at e1
  exact e1
theorem Ets.elsOf {w : World} {base : Nat} {A : Option Addr} {n C : Nat} {es : List En} (h : Ets w base (.slice A n C) es) : ∃ B, Els w B A es ∧ es.length = n := by
  obtain ⟨B, ao, cp, hv, he, _⟩ := h.els
  injection hv with h1 h2 h3
  subst h1
  exact ⟨B, he, h2.symm⟩
end Go.Proofs.YtpnbhddmdfcjdaaGreat
