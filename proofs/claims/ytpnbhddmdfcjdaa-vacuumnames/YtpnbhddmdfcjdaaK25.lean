/- Parts. -/
import Derived.Test.YtpnbhddmdfcjdaaK24
import Derived.Test.YtpnbhddmdfcjdaaK23
set_option maxRecDepth 100000

namespace Go.Proofs.Ytpnbhddmdfcjdaa
open Go.RowKit
/-- A view as plain data. -/
structure Vw where
  m : Int
  next : Int
  act : List Int
  own : Int
  run : List Int
  pg : Pg
/-- A version as plain data. -/
structure Tp where
  xmin : Int
  xmax : Int
  fz : Bool
  key : ByteArray
  val : ByteArray
noncomputable def vsi (V : Vw) (x : Int) : Int := if x ∈ V.run then 1 else (gst V.m V.pg x : Int)
theorem vsi_bd (V : Vw) (x : Int) : 0 ≤ vsi V x ∧ vsi V x < 4 := by
  unfold vsi gst
  split
  · omega
  · split
    · have := stAt_lt (bl (it1 V.pg)) (x - 1).toNat
      omega
    · omega
noncomputable def vcom (V : Vw) (x : Int) : Bool := decide (vsi V x = 2)
noncomputable def vabo (V : Vw) (x : Int) : Bool := decide (vsi V x = 3)
noncomputable def vpast (V : Vw) (x h : Int) : Bool := vcom V x && xbef V.m x h
noncomputable def vnever (V : Vw) (T : Tp) : Bool := !T.fz && vabo V T.xmin
noncomputable def vgone (V : Vw) (T : Tp) (h : Int) : Bool := vnever V T || (T.xmax != 0 && vpast V T.xmax h)
noncomputable def vold (V : Vw) (T : Tp) (h : Int) : Bool := !T.fz && vpast V T.xmin h
noncomputable def voff (V : Vw) (T : Tp) : Bool := T.xmax != 0 && vabo V T.xmax
/-- Where a view's lists lie. -/
structure Lo where
  bA : Nat
  aA : Option Addr
  cA : Nat
  bR : Nat
  aR : Option Addr
  cR : Nat
  bP : Nat
  aP : Option Addr
  cP : Nat
/-- A view's lists in memory. -/
structure Sn (W : World) (V : Vw) (q : Lo) : Prop where
  act : Nz W q.bA q.aA V.act
  run : Nz W q.bR q.aR V.run
  pg : Strs W q.bP q.aP V.pg.items
  fit : Fit q.aP V.pg.items.length q.cP
  m : I64 V.m
  next : I64 V.next
  own : I64 V.own
theorem Sn.more {W W' : World} {V : Vw} {q : Lo} (h : Sn W V q) (ho : Only (fun _ => False) W W') : Sn W' V q := ⟨h.act.more ho, h.run.more ho, h.pg.more ho, h.fit, h.m, h.next, h.own⟩
/-- 11 cells in block b. -/
structure VB (w : World) (b : Nat) (v0 v1 v2 v3 v4 v5 v6 v7 v8 v9 v10 : Value) : Prop where
  c0 : w.cell? ⟨b, 0, none⟩ = some v0
  c1 : w.cell? ⟨b, 1, none⟩ = some v1
  c2 : w.cell? ⟨b, 2, none⟩ = some v2
  c3 : w.cell? ⟨b, 3, none⟩ = some v3
  c4 : w.cell? ⟨b, 4, none⟩ = some v4
  c5 : w.cell? ⟨b, 5, none⟩ = some v5
  c6 : w.cell? ⟨b, 6, none⟩ = some v6
  c7 : w.cell? ⟨b, 7, none⟩ = some v7
  c8 : w.cell? ⟨b, 8, none⟩ = some v8
  c9 : w.cell? ⟨b, 9, none⟩ = some v9
  c10 : w.cell? ⟨b, 10, none⟩ = some v10
  f0 : w.frozen? ⟨b, 0, none⟩ = false
  f1 : w.frozen? ⟨b, 1, none⟩ = false
  f2 : w.frozen? ⟨b, 2, none⟩ = false
  f3 : w.frozen? ⟨b, 3, none⟩ = false
  f4 : w.frozen? ⟨b, 4, none⟩ = false
  f5 : w.frozen? ⟨b, 5, none⟩ = false
  f6 : w.frozen? ⟨b, 6, none⟩ = false
  f7 : w.frozen? ⟨b, 7, none⟩ = false
  f8 : w.frozen? ⟨b, 8, none⟩ = false
  f9 : w.frozen? ⟨b, 9, none⟩ = false
  f10 : w.frozen? ⟨b, 10, none⟩ = false
  lt : b < w.heap.size
theorem VB.kept {S : Nat → Prop} {w w' : World} {b : Nat} {v0 v1 v2 v3 v4 v5 v6 v7 v8 v9 v10 : Value} (h : VB w b v0 v1 v2 v3 v4 v5 v6 v7 v8 v9 v10) (ho : Only S w w') (hS : ¬ S b) : VB w' b v0 v1 v2 v3 v4 v5 v6 v7 v8 v9 v10 :=
  ⟨(ho.cell (p := ⟨b, 0, none⟩) h.lt hS).trans h.c0, (ho.cell (p := ⟨b, 1, none⟩) h.lt hS).trans h.c1, (ho.cell (p := ⟨b, 2, none⟩) h.lt hS).trans h.c2, (ho.cell (p := ⟨b, 3, none⟩) h.lt hS).trans h.c3, (ho.cell (p := ⟨b, 4, none⟩) h.lt hS).trans h.c4, (ho.cell (p := ⟨b, 5, none⟩) h.lt hS).trans h.c5, (ho.cell (p := ⟨b, 6, none⟩) h.lt hS).trans h.c6, (ho.cell (p := ⟨b, 7, none⟩) h.lt hS).trans h.c7, (ho.cell (p := ⟨b, 8, none⟩) h.lt hS).trans h.c8, (ho.cell (p := ⟨b, 9, none⟩) h.lt hS).trans h.c9, (ho.cell (p := ⟨b, 10, none⟩) h.lt hS).trans h.c10,
   (ho.frozen (p := ⟨b, 0, none⟩) h.lt hS).trans h.f0, (ho.frozen (p := ⟨b, 1, none⟩) h.lt hS).trans h.f1, (ho.frozen (p := ⟨b, 2, none⟩) h.lt hS).trans h.f2, (ho.frozen (p := ⟨b, 3, none⟩) h.lt hS).trans h.f3, (ho.frozen (p := ⟨b, 4, none⟩) h.lt hS).trans h.f4, (ho.frozen (p := ⟨b, 5, none⟩) h.lt hS).trans h.f5, (ho.frozen (p := ⟨b, 6, none⟩) h.lt hS).trans h.f6, (ho.frozen (p := ⟨b, 7, none⟩) h.lt hS).trans h.f7, (ho.frozen (p := ⟨b, 8, none⟩) h.lt hS).trans h.f8, (ho.frozen (p := ⟨b, 9, none⟩) h.lt hS).trans h.f9, (ho.frozen (p := ⟨b, 10, none⟩) h.lt hS).trans h.f10, Nat.lt_of_lt_of_le h.lt ho.size⟩
theorem VB.more {w w' : World} {b : Nat} {v0 v1 v2 v3 v4 v5 v6 v7 v8 v9 v10 : Value} (h : VB w b v0 v1 v2 v3 v4 v5 v6 v7 v8 v9 v10) (ho : Only (fun _ => False) w w') : VB w' b v0 v1 v2 v3 v4 v5 v6 v7 v8 v9 v10 := h.kept ho (fun h => h)
theorem VB.new (w : World) (v0 v1 v2 v3 v4 v5 v6 v7 v8 v9 v10 : Value) : VB (w.alloc (.cells #[v0, v1, v2, v3, v4, v5, v6, v7, v8, v9, v10] 32)) w.heap.size v0 v1 v2 v3 v4 v5 v6 v7 v8 v9 v10 :=
  ⟨by simp, by simp, by simp, by simp, by simp, by simp, by simp, by simp, by simp, by simp, by simp, by simp, by simp, by simp, by simp, by simp, by simp, by simp, by simp, by simp, by simp, by simp, by simp⟩
theorem VB.setC {w : World} {b : Nat} {v0 v1 v2 v3 v4 v5 v6 v7 v8 v9 v10 : Value} (h : VB w b v0 v1 v2 v3 v4 v5 v6 v7 v8 v9 v10) {k : Nat} (u : Value) : VB (w.setCell ⟨b, k, none⟩ u) b (if k = 0 then u else v0) (if k = 1 then u else v1) (if k = 2 then u else v2) (if k = 3 then u else v3) (if k = 4 then u else v4) (if k = 5 then u else v5) (if k = 6 then u else v6) (if k = 7 then u else v7) (if k = 8 then u else v8) (if k = 9 then u else v9) (if k = 10 then u else v10) := by
  have cl : ∀ (i : Nat) (v : Value), w.cell? ⟨b, i, none⟩ = some v → (w.setCell ⟨b, k, none⟩ u).cell? ⟨b, i, none⟩ = some (if k = i then u else v) := fun i v hv => by
    by_cases e : k = i
    · subst e; rw [if_pos rfl]; exact World.cell?_setCell_same _ _ _ hv
    · rw [if_neg e]; exact (World.cell?_setCell_other _ _ _ _ (by intro e2; injection e2 with _ e3; exact e e3)).trans hv
  exact ⟨cl 0 _ h.c0, cl 1 _ h.c1, cl 2 _ h.c2, cl 3 _ h.c3, cl 4 _ h.c4, cl 5 _ h.c5, cl 6 _ h.c6, cl 7 _ h.c7, cl 8 _ h.c8, cl 9 _ h.c9, cl 10 _ h.c10, by simpa using h.f0, by simpa using h.f1, by simpa using h.f2, by simpa using h.f3, by simpa using h.f4, by simpa using h.f5, by simpa using h.f6, by simpa using h.f7, by simpa using h.f8, by simpa using h.f9, by simpa using h.f10, by simpa using h.lt⟩
/-- 5 cells in block b. -/
structure TB (w : World) (b : Nat) (v0 v1 v2 v3 v4 : Value) : Prop where
  c0 : w.cell? ⟨b, 0, none⟩ = some v0
  c1 : w.cell? ⟨b, 1, none⟩ = some v1
  c2 : w.cell? ⟨b, 2, none⟩ = some v2
  c3 : w.cell? ⟨b, 3, none⟩ = some v3
  c4 : w.cell? ⟨b, 4, none⟩ = some v4
  f0 : w.frozen? ⟨b, 0, none⟩ = false
  f1 : w.frozen? ⟨b, 1, none⟩ = false
  f2 : w.frozen? ⟨b, 2, none⟩ = false
  f3 : w.frozen? ⟨b, 3, none⟩ = false
  f4 : w.frozen? ⟨b, 4, none⟩ = false
  lt : b < w.heap.size
theorem TB.kept {S : Nat → Prop} {w w' : World} {b : Nat} {v0 v1 v2 v3 v4 : Value} (h : TB w b v0 v1 v2 v3 v4) (ho : Only S w w') (hS : ¬ S b) : TB w' b v0 v1 v2 v3 v4 :=
  ⟨(ho.cell (p := ⟨b, 0, none⟩) h.lt hS).trans h.c0, (ho.cell (p := ⟨b, 1, none⟩) h.lt hS).trans h.c1, (ho.cell (p := ⟨b, 2, none⟩) h.lt hS).trans h.c2, (ho.cell (p := ⟨b, 3, none⟩) h.lt hS).trans h.c3, (ho.cell (p := ⟨b, 4, none⟩) h.lt hS).trans h.c4,
   (ho.frozen (p := ⟨b, 0, none⟩) h.lt hS).trans h.f0, (ho.frozen (p := ⟨b, 1, none⟩) h.lt hS).trans h.f1, (ho.frozen (p := ⟨b, 2, none⟩) h.lt hS).trans h.f2, (ho.frozen (p := ⟨b, 3, none⟩) h.lt hS).trans h.f3, (ho.frozen (p := ⟨b, 4, none⟩) h.lt hS).trans h.f4, Nat.lt_of_lt_of_le h.lt ho.size⟩
theorem TB.more {w w' : World} {b : Nat} {v0 v1 v2 v3 v4 : Value} (h : TB w b v0 v1 v2 v3 v4) (ho : Only (fun _ => False) w w') : TB w' b v0 v1 v2 v3 v4 := h.kept ho (fun h => h)
theorem TB.new (w : World) (v0 v1 v2 v3 v4 : Value) : TB (w.alloc (.cells #[v0, v1, v2, v3, v4] 57)) w.heap.size v0 v1 v2 v3 v4 :=
  ⟨by simp, by simp, by simp, by simp, by simp, by simp, by simp, by simp, by simp, by simp, by simp⟩
theorem quiet_only {f : Nat} {a : Array Value} {w : World} {r : Ending} (h : Calls Try.prog f a w fun e w' => e = r ∧ w' = w) : Calls Try.prog f a w fun e w' => e = r ∧ Only (fun _ => False) w w' :=
  h.mono (fun e w' ⟨h1, h2⟩ => ⟨h1, by rw [h2]; exact Only.refl _ _⟩)
theorem four {z : Int} (h : 0 ≤ z) (k : z < 4) : z = 0 ∨ z = 1 ∨ z = 2 ∨ z = 3 := by omega
set_option maxRecDepth 100000 in
set_option maxHeartbeats 1600000 in
theorem status_any (w : World) (V : Vw) (q : Lo) (x : Int) (h : Sn w V q) (hx : I64 x) :
    Calls Try.prog 66 #[.agg #[.int .i64 V.m, .int .i64 V.next, .slice q.aA V.act.length q.cA, .int .i64 V.own, .slice q.aR V.run.length q.cR, .int .i64 V.pg.lsn, .int .i64 V.pg.kind, .int .i64 V.pg.level, .int .i64 V.pg.right, .string V.pg.high, .slice q.aP V.pg.items.length q.cP], .int .i64 x] w fun e w' => e = .returned (.int .u8 (vsi V x)) ∧ Only (fun _ => False) w w' := by
  have C0 := hide (fun W (h : Sn W V q) => quiet_only (scontains_any W q.bR q.cR q.aR V.run x h.run))
  have C1 := hide (fun W (h : Sn W V q) => cget_any W V.m V.pg.lsn V.pg.kind V.pg.level V.pg.right x V.pg.high q.cP q.bP q.aP V.pg.items h.m hx h.pg)
  have HN := hide h
  clear h hx
  have HB := hide (VB.new w (.int .i64 V.m) (.int .i64 V.next) (.slice q.aA V.act.length q.cA) (.int .i64 V.own) (.slice q.aR V.run.length q.cR) (.int .i64 V.pg.lsn) (.int .i64 V.pg.kind) (.int .i64 V.pg.level) (.int .i64 V.pg.right) (.string V.pg.high) (.slice q.aP V.pg.items.length q.cP))
  have HO := hide (onlyA w (.cells #[.int .i64 V.m, .int .i64 V.next, .slice q.aA V.act.length q.cA, .int .i64 V.own, .slice q.aR V.run.length q.cR, .int .i64 V.pg.lsn, .int .i64 V.pg.kind, .int .i64 V.pg.level, .int .i64 V.pg.right, .string V.pg.high, .slice q.aP V.pg.items.length q.cP] 32))
  by_cases hr : x ∈ V.run
  ·
    rw [decide_eq_true hr] at C0
    have hv : vsi V x = 1 := by unfold vsi; rw [if_pos hr]
    rw [hv]
    clear hr hv
    go_enter Try.func66, Try.ntmps66
    go_upto_region 1 with fail
    obtain ⟨W0, hW0⟩ : ∃ W, w.alloc (.cells #[.int .i64 V.m, .int .i64 V.next, .slice q.aA V.act.length q.cA, .int .i64 V.own, .slice q.aR V.run.length q.cR, .int .i64 V.pg.lsn, .int .i64 V.pg.kind, .int .i64 V.pg.level, .int .i64 V.pg.right, .string V.pg.high, .slice q.aP V.pg.items.length q.cP] 32) = W := ⟨_, rfl⟩
    rw [hW0] at HB HO ⊢
    clear hW0
    obtain ⟨vc0, vc1, vc2, vc3, vc4, vc5, vc6, vc7, vc8, vc9, vc10, vf0, vf1, vf2, vf3, vf4, vf5, vf6, vf7, vf8, vf9, vf10, vlt⟩ := HB.out
    clear vf0 vf1 vf2 vf3 vf4 vf5 vf6 vf7 vf8 vf9 vf10
    go_wp2_with fail
    refine (C0.out _ (HN.out.more HO.out)).mono ?_
    rintro e w1 ⟨rfl, ho⟩
    clear vc0 vc1 vc2 vc3 vc4 vc5 vc6 vc7 vc8 vc9 vc10 vlt
    have HB := hide (HB.out.more ho)
    have HO := hide (o2 HO.out ho)
    clear ho
    obtain ⟨vc0, vc1, vc2, vc3, vc4, vc5, vc6, vc7, vc8, vc9, vc10, vf0, vf1, vf2, vf3, vf4, vf5, vf6, vf7, vf8, vf9, vf10, vlt⟩ := HB.out
    clear vf0 vf1 vf2 vf3 vf4 vf5 vf6 vf7 vf8 vf9 vf10
    go_wp2_with fail
    go_ret
    exact ⟨rfl, HO.out⟩
  ·
    rw [decide_eq_false hr] at C0
    have hv : vsi V x = (gst V.m V.pg x : Int) := by unfold vsi; rw [if_neg hr]
    rw [hv]
    clear hr hv
    go_enter Try.func66, Try.ntmps66
    go_upto_region 1 with fail
    obtain ⟨W0, hW0⟩ : ∃ W, w.alloc (.cells #[.int .i64 V.m, .int .i64 V.next, .slice q.aA V.act.length q.cA, .int .i64 V.own, .slice q.aR V.run.length q.cR, .int .i64 V.pg.lsn, .int .i64 V.pg.kind, .int .i64 V.pg.level, .int .i64 V.pg.right, .string V.pg.high, .slice q.aP V.pg.items.length q.cP] 32) = W := ⟨_, rfl⟩
    rw [hW0] at HB HO ⊢
    clear hW0
    obtain ⟨vc0, vc1, vc2, vc3, vc4, vc5, vc6, vc7, vc8, vc9, vc10, vf0, vf1, vf2, vf3, vf4, vf5, vf6, vf7, vf8, vf9, vf10, vlt⟩ := HB.out
    clear vf0 vf1 vf2 vf3 vf4 vf5 vf6 vf7 vf8 vf9 vf10
    go_wp2_with fail
    refine (C0.out _ (HN.out.more HO.out)).mono ?_
    rintro e w2 ⟨rfl, ho⟩
    clear vc0 vc1 vc2 vc3 vc4 vc5 vc6 vc7 vc8 vc9 vc10 vlt
    have HB := hide (HB.out.more ho)
    have HO := hide (o2 HO.out ho)
    clear ho
    obtain ⟨vc0, vc1, vc2, vc3, vc4, vc5, vc6, vc7, vc8, vc9, vc10, vf0, vf1, vf2, vf3, vf4, vf5, vf6, vf7, vf8, vf9, vf10, vlt⟩ := HB.out
    clear vf0 vf1 vf2 vf3 vf4 vf5 vf6 vf7 vf8 vf9 vf10
    go_wp2_with fail
    refine (C1.out _ (HN.out.more HO.out)).mono ?_
    rintro e w3 ⟨rfl, ho⟩
    clear vc0 vc1 vc2 vc3 vc4 vc5 vc6 vc7 vc8 vc9 vc10 vlt
    have HB := hide (HB.out.more ho)
    have HO := hide (o2 HO.out ho)
    clear ho
    obtain ⟨vc0, vc1, vc2, vc3, vc4, vc5, vc6, vc7, vc8, vc9, vc10, vf0, vf1, vf2, vf3, vf4, vf5, vf6, vf7, vf8, vf9, vf10, vlt⟩ := HB.out
    clear vf0 vf1 vf2 vf3 vf4 vf5 vf6 vf7 vf8 vf9 vf10
    go_wp2_with fail
    go_ret
    exact ⟨rfl, HO.out⟩
set_option maxRecDepth 100000 in
set_option maxHeartbeats 1600000 in
theorem isCom_any (w : World) (V : Vw) (q : Lo) (x : Int) (h : Sn w V q) (hx : I64 x) :
    Calls Try.prog 64 #[.agg #[.int .i64 V.m, .int .i64 V.next, .slice q.aA V.act.length q.cA, .int .i64 V.own, .slice q.aR V.run.length q.cR, .int .i64 V.pg.lsn, .int .i64 V.pg.kind, .int .i64 V.pg.level, .int .i64 V.pg.right, .string V.pg.high, .slice q.aP V.pg.items.length q.cP], .int .i64 x] w fun e w' => e = .returned (.bool (vcom V x)) ∧ Only (fun _ => False) w w' := by
  have C0 := hide (fun W (h : Sn W V q) => status_any W V q x h hx)
  simp only [vcom]
  obtain ⟨b0, hb0⟩ : ∃ b, vsi V x = b := ⟨_, rfl⟩
  have hs0 : 0 ≤ b0 ∧ b0 < 4 := by rw [← hb0]; exact vsi_bd _ _
  simp only [hb0] at C0 ⊢
  clear hb0
  have HN := hide h
  clear h hx
  have HB := hide (VB.new w (.int .i64 V.m) (.int .i64 V.next) (.slice q.aA V.act.length q.cA) (.int .i64 V.own) (.slice q.aR V.run.length q.cR) (.int .i64 V.pg.lsn) (.int .i64 V.pg.kind) (.int .i64 V.pg.level) (.int .i64 V.pg.right) (.string V.pg.high) (.slice q.aP V.pg.items.length q.cP))
  have HO := hide (onlyA w (.cells #[.int .i64 V.m, .int .i64 V.next, .slice q.aA V.act.length q.cA, .int .i64 V.own, .slice q.aR V.run.length q.cR, .int .i64 V.pg.lsn, .int .i64 V.pg.kind, .int .i64 V.pg.level, .int .i64 V.pg.right, .string V.pg.high, .slice q.aP V.pg.items.length q.cP] 32))
  go_enter Try.func64, Try.ntmps64
  go_upto_region 1 with fail
  obtain ⟨W0, hW0⟩ : ∃ W, w.alloc (.cells #[.int .i64 V.m, .int .i64 V.next, .slice q.aA V.act.length q.cA, .int .i64 V.own, .slice q.aR V.run.length q.cR, .int .i64 V.pg.lsn, .int .i64 V.pg.kind, .int .i64 V.pg.level, .int .i64 V.pg.right, .string V.pg.high, .slice q.aP V.pg.items.length q.cP] 32) = W := ⟨_, rfl⟩
  rw [hW0] at HB HO ⊢
  clear hW0
  obtain ⟨vc0, vc1, vc2, vc3, vc4, vc5, vc6, vc7, vc8, vc9, vc10, vf0, vf1, vf2, vf3, vf4, vf5, vf6, vf7, vf8, vf9, vf10, vlt⟩ := HB.out
  clear vf0 vf1 vf2 vf3 vf4 vf5 vf6 vf7 vf8 vf9 vf10
  go_wp2_with fail
  refine (C0.out _ (HN.out.more HO.out)).mono ?_
  rintro e w1 ⟨rfl, ho⟩
  clear vc0 vc1 vc2 vc3 vc4 vc5 vc6 vc7 vc8 vc9 vc10 vlt
  have HB := hide (HB.out.more ho)
  have HO := hide (o2 HO.out ho)
  clear ho
  rcases four hs0.1 hs0.2 with rfl | rfl | rfl | rfl
  · clear hs0
    obtain ⟨vc0, vc1, vc2, vc3, vc4, vc5, vc6, vc7, vc8, vc9, vc10, vf0, vf1, vf2, vf3, vf4, vf5, vf6, vf7, vf8, vf9, vf10, vlt⟩ := HB.out
    clear vf0 vf1 vf2 vf3 vf4 vf5 vf6 vf7 vf8 vf9 vf10
    go_wp2_with fail
    go_ret
    exact ⟨rfl, HO.out⟩
  · clear hs0
    obtain ⟨vc0, vc1, vc2, vc3, vc4, vc5, vc6, vc7, vc8, vc9, vc10, vf0, vf1, vf2, vf3, vf4, vf5, vf6, vf7, vf8, vf9, vf10, vlt⟩ := HB.out
    clear vf0 vf1 vf2 vf3 vf4 vf5 vf6 vf7 vf8 vf9 vf10
    go_wp2_with fail
    go_ret
    exact ⟨rfl, HO.out⟩
  · clear hs0
    obtain ⟨vc0, vc1, vc2, vc3, vc4, vc5, vc6, vc7, vc8, vc9, vc10, vf0, vf1, vf2, vf3, vf4, vf5, vf6, vf7, vf8, vf9, vf10, vlt⟩ := HB.out
    clear vf0 vf1 vf2 vf3 vf4 vf5 vf6 vf7 vf8 vf9 vf10
    go_wp2_with fail
    go_ret
    exact ⟨rfl, HO.out⟩
  · clear hs0
    obtain ⟨vc0, vc1, vc2, vc3, vc4, vc5, vc6, vc7, vc8, vc9, vc10, vf0, vf1, vf2, vf3, vf4, vf5, vf6, vf7, vf8, vf9, vf10, vlt⟩ := HB.out
    clear vf0 vf1 vf2 vf3 vf4 vf5 vf6 vf7 vf8 vf9 vf10
    go_wp2_with fail
    go_ret
    exact ⟨rfl, HO.out⟩
set_option maxRecDepth 100000 in
set_option maxHeartbeats 1600000 in
theorem isAbo_any (w : World) (V : Vw) (q : Lo) (x : Int) (h : Sn w V q) (hx : I64 x) :
    Calls Try.prog 40 #[.agg #[.int .i64 V.m, .int .i64 V.next, .slice q.aA V.act.length q.cA, .int .i64 V.own, .slice q.aR V.run.length q.cR, .int .i64 V.pg.lsn, .int .i64 V.pg.kind, .int .i64 V.pg.level, .int .i64 V.pg.right, .string V.pg.high, .slice q.aP V.pg.items.length q.cP], .int .i64 x] w fun e w' => e = .returned (.bool (vabo V x)) ∧ Only (fun _ => False) w w' := by
  have C0 := hide (fun W (h : Sn W V q) => status_any W V q x h hx)
  simp only [vabo]
  obtain ⟨b0, hb0⟩ : ∃ b, vsi V x = b := ⟨_, rfl⟩
  have hs0 : 0 ≤ b0 ∧ b0 < 4 := by rw [← hb0]; exact vsi_bd _ _
  simp only [hb0] at C0 ⊢
  clear hb0
  have HN := hide h
  clear h hx
  have HB := hide (VB.new w (.int .i64 V.m) (.int .i64 V.next) (.slice q.aA V.act.length q.cA) (.int .i64 V.own) (.slice q.aR V.run.length q.cR) (.int .i64 V.pg.lsn) (.int .i64 V.pg.kind) (.int .i64 V.pg.level) (.int .i64 V.pg.right) (.string V.pg.high) (.slice q.aP V.pg.items.length q.cP))
  have HO := hide (onlyA w (.cells #[.int .i64 V.m, .int .i64 V.next, .slice q.aA V.act.length q.cA, .int .i64 V.own, .slice q.aR V.run.length q.cR, .int .i64 V.pg.lsn, .int .i64 V.pg.kind, .int .i64 V.pg.level, .int .i64 V.pg.right, .string V.pg.high, .slice q.aP V.pg.items.length q.cP] 32))
  go_enter Try.func40, Try.ntmps40
  go_upto_region 1 with fail
  obtain ⟨W0, hW0⟩ : ∃ W, w.alloc (.cells #[.int .i64 V.m, .int .i64 V.next, .slice q.aA V.act.length q.cA, .int .i64 V.own, .slice q.aR V.run.length q.cR, .int .i64 V.pg.lsn, .int .i64 V.pg.kind, .int .i64 V.pg.level, .int .i64 V.pg.right, .string V.pg.high, .slice q.aP V.pg.items.length q.cP] 32) = W := ⟨_, rfl⟩
  rw [hW0] at HB HO ⊢
  clear hW0
  obtain ⟨vc0, vc1, vc2, vc3, vc4, vc5, vc6, vc7, vc8, vc9, vc10, vf0, vf1, vf2, vf3, vf4, vf5, vf6, vf7, vf8, vf9, vf10, vlt⟩ := HB.out
  clear vf0 vf1 vf2 vf3 vf4 vf5 vf6 vf7 vf8 vf9 vf10
  go_wp2_with fail
  refine (C0.out _ (HN.out.more HO.out)).mono ?_
  rintro e w1 ⟨rfl, ho⟩
  clear vc0 vc1 vc2 vc3 vc4 vc5 vc6 vc7 vc8 vc9 vc10 vlt
  have HB := hide (HB.out.more ho)
  have HO := hide (o2 HO.out ho)
  clear ho
  rcases four hs0.1 hs0.2 with rfl | rfl | rfl | rfl
  · clear hs0
    obtain ⟨vc0, vc1, vc2, vc3, vc4, vc5, vc6, vc7, vc8, vc9, vc10, vf0, vf1, vf2, vf3, vf4, vf5, vf6, vf7, vf8, vf9, vf10, vlt⟩ := HB.out
    clear vf0 vf1 vf2 vf3 vf4 vf5 vf6 vf7 vf8 vf9 vf10
    go_wp2_with fail
    go_ret
    exact ⟨rfl, HO.out⟩
  · clear hs0
    obtain ⟨vc0, vc1, vc2, vc3, vc4, vc5, vc6, vc7, vc8, vc9, vc10, vf0, vf1, vf2, vf3, vf4, vf5, vf6, vf7, vf8, vf9, vf10, vlt⟩ := HB.out
    clear vf0 vf1 vf2 vf3 vf4 vf5 vf6 vf7 vf8 vf9 vf10
    go_wp2_with fail
    go_ret
    exact ⟨rfl, HO.out⟩
  · clear hs0
    obtain ⟨vc0, vc1, vc2, vc3, vc4, vc5, vc6, vc7, vc8, vc9, vc10, vf0, vf1, vf2, vf3, vf4, vf5, vf6, vf7, vf8, vf9, vf10, vlt⟩ := HB.out
    clear vf0 vf1 vf2 vf3 vf4 vf5 vf6 vf7 vf8 vf9 vf10
    go_wp2_with fail
    go_ret
    exact ⟨rfl, HO.out⟩
  · clear hs0
    obtain ⟨vc0, vc1, vc2, vc3, vc4, vc5, vc6, vc7, vc8, vc9, vc10, vf0, vf1, vf2, vf3, vf4, vf5, vf6, vf7, vf8, vf9, vf10, vlt⟩ := HB.out
    clear vf0 vf1 vf2 vf3 vf4 vf5 vf6 vf7 vf8 vf9 vf10
    go_wp2_with fail
    go_ret
    exact ⟨rfl, HO.out⟩
set_option maxRecDepth 100000 in
set_option maxHeartbeats 1600000 in
theorem isPast_any (w : World) (V : Vw) (q : Lo) (x : Int) (z : Int) (h : Sn w V q) (hx : I64 x) (hz : I64 z) :
    Calls Try.prog 39 #[.agg #[.int .i64 V.m, .int .i64 V.next, .slice q.aA V.act.length q.cA, .int .i64 V.own, .slice q.aR V.run.length q.cR, .int .i64 V.pg.lsn, .int .i64 V.pg.kind, .int .i64 V.pg.level, .int .i64 V.pg.right, .string V.pg.high, .slice q.aP V.pg.items.length q.cP], .int .i64 x, .int .i64 z] w fun e w' => e = .returned (.bool (vpast V x z)) ∧ Only (fun _ => False) w w' := by
  have C0 := hide (fun W (h : Sn W V q) => isCom_any W V q x h hx)
  have C1 := hide (fun W (h : Sn W V q) => quiet_only (before_any V.m x z W h.m hx hz))
  simp only [vpast]
  obtain ⟨b0, hb0⟩ : ∃ b, vcom V x = b := ⟨_, rfl⟩
  obtain ⟨b1, hb1⟩ : ∃ b, xbef V.m x z = b := ⟨_, rfl⟩
  simp only [hb0, hb1] at C0 C1 ⊢
  clear hb0 hb1
  have HN := hide h
  clear h hx hz
  have HB := hide (VB.new w (.int .i64 V.m) (.int .i64 V.next) (.slice q.aA V.act.length q.cA) (.int .i64 V.own) (.slice q.aR V.run.length q.cR) (.int .i64 V.pg.lsn) (.int .i64 V.pg.kind) (.int .i64 V.pg.level) (.int .i64 V.pg.right) (.string V.pg.high) (.slice q.aP V.pg.items.length q.cP))
  have HO := hide (onlyA w (.cells #[.int .i64 V.m, .int .i64 V.next, .slice q.aA V.act.length q.cA, .int .i64 V.own, .slice q.aR V.run.length q.cR, .int .i64 V.pg.lsn, .int .i64 V.pg.kind, .int .i64 V.pg.level, .int .i64 V.pg.right, .string V.pg.high, .slice q.aP V.pg.items.length q.cP] 32))
  go_enter Try.func39, Try.ntmps39
  go_upto_region 1 with fail
  obtain ⟨W0, hW0⟩ : ∃ W, w.alloc (.cells #[.int .i64 V.m, .int .i64 V.next, .slice q.aA V.act.length q.cA, .int .i64 V.own, .slice q.aR V.run.length q.cR, .int .i64 V.pg.lsn, .int .i64 V.pg.kind, .int .i64 V.pg.level, .int .i64 V.pg.right, .string V.pg.high, .slice q.aP V.pg.items.length q.cP] 32) = W := ⟨_, rfl⟩
  rw [hW0] at HB HO ⊢
  clear hW0
  obtain ⟨vc0, vc1, vc2, vc3, vc4, vc5, vc6, vc7, vc8, vc9, vc10, vf0, vf1, vf2, vf3, vf4, vf5, vf6, vf7, vf8, vf9, vf10, vlt⟩ := HB.out
  clear vf0 vf1 vf2 vf3 vf4 vf5 vf6 vf7 vf8 vf9 vf10
  go_wp2_with fail
  refine (C0.out _ (HN.out.more HO.out)).mono ?_
  rintro e w1 ⟨rfl, ho⟩
  clear vc0 vc1 vc2 vc3 vc4 vc5 vc6 vc7 vc8 vc9 vc10 vlt
  have HB := hide (HB.out.more ho)
  have HO := hide (o2 HO.out ho)
  clear ho
  cases b0 with
  | true =>
    obtain ⟨vc0, vc1, vc2, vc3, vc4, vc5, vc6, vc7, vc8, vc9, vc10, vf0, vf1, vf2, vf3, vf4, vf5, vf6, vf7, vf8, vf9, vf10, vlt⟩ := HB.out
    clear vf0 vf1 vf2 vf3 vf4 vf5 vf6 vf7 vf8 vf9 vf10
    go_wp2_with fail
    refine (C1.out _ (HN.out.more HO.out)).mono ?_
    rintro e w2 ⟨rfl, ho⟩
    clear vc0 vc1 vc2 vc3 vc4 vc5 vc6 vc7 vc8 vc9 vc10 vlt
    have HB := hide (HB.out.more ho)
    have HO := hide (o2 HO.out ho)
    clear ho
    cases b1 with
    | true =>
      obtain ⟨vc0, vc1, vc2, vc3, vc4, vc5, vc6, vc7, vc8, vc9, vc10, vf0, vf1, vf2, vf3, vf4, vf5, vf6, vf7, vf8, vf9, vf10, vlt⟩ := HB.out
      clear vf0 vf1 vf2 vf3 vf4 vf5 vf6 vf7 vf8 vf9 vf10
      go_wp2_with fail
      go_ret
      exact ⟨rfl, HO.out⟩
    | false =>
      obtain ⟨vc0, vc1, vc2, vc3, vc4, vc5, vc6, vc7, vc8, vc9, vc10, vf0, vf1, vf2, vf3, vf4, vf5, vf6, vf7, vf8, vf9, vf10, vlt⟩ := HB.out
      clear vf0 vf1 vf2 vf3 vf4 vf5 vf6 vf7 vf8 vf9 vf10
      go_wp2_with fail
      go_ret
      exact ⟨rfl, HO.out⟩
  | false =>
    obtain ⟨vc0, vc1, vc2, vc3, vc4, vc5, vc6, vc7, vc8, vc9, vc10, vf0, vf1, vf2, vf3, vf4, vf5, vf6, vf7, vf8, vf9, vf10, vlt⟩ := HB.out
    clear vf0 vf1 vf2 vf3 vf4 vf5 vf6 vf7 vf8 vf9 vf10
    go_wp2_with fail
    go_ret
    exact ⟨rfl, HO.out⟩
end Go.Proofs.Ytpnbhddmdfcjdaa
