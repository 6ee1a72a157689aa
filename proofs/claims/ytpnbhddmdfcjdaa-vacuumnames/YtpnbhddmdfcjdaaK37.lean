/- Parts. -/
import Derived.Test.YtpnbhddmdfcjdaaK26
import Derived.Test.YtpnbhddmdfcjdaaK29
import Derived.Deep.RegionHeld3
import Derived.Deep.Draws
set_option maxRecDepth 100000
namespace Go.Proofs.Ytpnbhddmdfcjdaa
open Go.RowKit
theorem yieldsIf_load_pageI {ops : Array Oper} {S : World → Prop} {op : Oper} {a : Act} {v0 v1 v2 v3 v4 v5 : Value} (hw : Region.wanted op (yielded ops a.tmps) = true) (x : Operand) (ho : op.op = .load 30 x)
    (b : Nat) (hx : a.eval x = .pointer (some ⟨b, 0, none⟩)) (hS : ∀ w, S w → Pag w b v0 v1 v2 v3 v4 v5) : YieldsIf Try.prog ops S op (.agg #[v0, v1, v2, v3, v4, v5]) a :=
  .inl ⟨hw, fun w hw' => by
    unfold execOp
    simp only [ho, hx, Instr.loadAt, Instr.sureAddr, Sem.run_bind, Sem.run_pure, Result.andThen_ok, load_page (hS w hw')]⟩
theorem ld_status {w : World} {p : Addr} {v : Value} (h : w.cell? p = some v) : (loadVar 53 p).run Try.prog w = .ok v w := by simp [loadVar, go_sem, h]
/-- A page variable in block b, which alone has changed since W1: a page of statuses. -/
structure Var (m : Int) (W1 wr : World) (b : Nat) (f : Int) (p : Pg) (B : Nat) (ao : Option Addr) (cp : Nat) : Prop where
  pg : PgB wr b p B ao cp
  ne : B ≠ b
  ok : OkP m p
  lm : lim m (it0 p) = f
  lsn : p.lsn = 0
  only : Only (fun k => k = b) W1 wr
/-- A page laid into a new variable since wr. -/
structure Laid (wr wc : World) (b5 : Nat) (q : Pg) (B5 : Nat) (ao5 : Option Addr) (cp5 : Nat) : Prop where
  pg : PgB wc b5 q B5 ao5 cp5
  only : Only (fun _ => False) wr wc
  hb : wr.heap.size ≤ b5
  hB : 0 < q.items.length → wr.heap.size ≤ B5
theorem Laid.first {wr w5 : World} {q : Pg} {B5 cp5 : Nat} {ao5 : Option Addr} (hS : Strs w5 B5 ao5 q.items) (hF : Fit ao5 q.items.length cp5) (ho : Only (fun _ => False) wr w5) (hB : 0 < q.items.length → wr.heap.size ≤ B5) :
    Laid wr (w5.alloc (.cells #[.int .i64 q.lsn, .int .i64 q.kind, .int .i64 q.level, .int .i64 q.right, .string q.high, .slice ao5 q.items.length cp5] 30)) w5.heap.size q B5 ao5 cp5 :=
  ⟨PgB.new hS hF, o2 ho (onlyA _ _), ho.size, hB⟩
theorem Laid.then {wr w5 : World} {b5 : Nat} {q : Pg} {B5 cp5 : Nat} {ao5 : Option Addr} {v0 v1 v2 v3 v4 v5 : Value} (hz : Pag w5 b5 v0 v1 v2 v3 v4 v5) (hS : Strs w5 B5 ao5 q.items) (hF : Fit ao5 q.items.length cp5) (ho : Only (fun _ => False) wr w5) (hb : wr.heap.size ≤ b5) (hB : 0 < q.items.length → b5 < B5) :
    Laid wr ((((((w5.setCell ⟨b5, 0, none⟩ (.int .i64 q.lsn)).setCell ⟨b5, 1, none⟩ (.int .i64 q.kind)).setCell ⟨b5, 2, none⟩ (.int .i64 q.level)).setCell ⟨b5, 3, none⟩ (.int .i64 q.right)).setCell ⟨b5, 4, none⟩ (.string q.high)).setCell ⟨b5, 5, none⟩ (.slice ao5 q.items.length cp5)) b5 q B5 ao5 cp5 :=
  ⟨PgB.put hz hS hF (fun h => by have := hB h; omega), ho.trans (Only.six w5 b5 _ _ _ _ _ _) (fun i hi e => by omega), hb, fun h => by have := hB h; omega⟩
theorem Var.more {m : Int} {W1 wr wc : World} {b B cp : Nat} {f : Int} {p : Pg} {ao : Option Addr} (h : Var m W1 wr b f p B ao cp) (ho : Only (fun _ => False) wr wc) : Var m W1 wc b f p B ao cp :=
  ⟨h.pg.more ho, h.ne, h.ok, h.lm, h.lsn, h.only.trans ho (fun _ _ h => h.elim)⟩
theorem Var.put {m : Int} {W1 wr wc : World} {b B cp : Nat} {f : Int} {p : Pg} {ao : Option Addr} (h : Var m W1 wr b f p B ao cp) {b5 B5 cp5 : Nat} {q : Pg} {ao5 : Option Addr} (hl : Laid wr wc b5 q B5 ao5 cp5) (hok : OkP m q) (hlm : lim m (it0 q) = f) (hls : q.lsn = 0) :
    Var m W1 ((((((wc.setCell ⟨b, 0, none⟩ (.int .i64 q.lsn)).setCell ⟨b, 1, none⟩ (.int .i64 q.kind)).setCell ⟨b, 2, none⟩ (.int .i64 q.level)).setCell ⟨b, 3, none⟩ (.int .i64 q.right)).setCell ⟨b, 4, none⟩ (.string q.high)).setCell ⟨b, 5, none⟩ (.slice ao5 q.items.length cp5)) b f q B5 ao5 cp5 := by
  have hlt := h.pg.pag.lt
  have hpos : 0 < q.items.length := by rw [hok.two]; omega
  have hB := hl.hB hpos
  exact ⟨PgB.put (h.pg.pag.more hl.only) hl.pg.strs hl.pg.fit (fun _ => by omega), by omega, hok, hlm, hls, (h.only.trans hl.only (fun _ _ h => h.elim)).trans (Only.six wc b _ _ _ _ _ _) (fun _ _ e => e)⟩
theorem setC_zero {m x : Int} {p : Pg} {s : Nat} (h : setC m p x s = 0) : Idd m x ∧ OkP m p ∧ s < 4 := by
  unfold setC at h
  split at h
  · rename_i h1
    split at h
    · exact ⟨(cid_zero h1).1, (cid_zero h1).2, by omega⟩
    · omega
  · rename_i h1
    exact absurd h h1
theorem setC_bd (m : Int) (p : Pg) (x : Int) (s : Nat) : setC m p x s = 0 ∨ setC m p x s = 1 ∨ setC m p x s = 31 := by
  unfold setC
  split
  · split
    · exact .inl rfl
    · exact .inr (.inl rfl)
  · exact cid_bd m p x
theorem setR_ok {m x : Int} {p : Pg} {s : Nat} (h : setC m p x s = 0) : OkP m (setR m p x s) ∧ lim m (it0 (setR m p x s)) = lim m (it0 p) ∧ (setR m p x s).lsn = p.lsn := by
  obtain ⟨hI, hO, hs⟩ := setC_zero h
  unfold setR
  rw [if_pos h]
  exact ⟨hO.set hI hs, rfl, rfl⟩
/-- Statuses that a slice leads to, in block B. -/
structure Sds (w : World) (B : Nat) (ao : Option Addr) (n : Nat) (X : Nat → Int) (S : Nat → Nat) : Prop where
  at_ : 0 < n → ∃ o, ao = some ⟨B, o, none⟩ ∧ ∀ j, j < n → w.cell? ⟨B, o + j * 2, none⟩ = some (.int .i64 (X j)) ∧ w.cell? ⟨B, o + j * 2 + 1, none⟩ = some (.int .u8 (S j : Int))
  wf : ∀ j, j < n → I64 (X j) ∧ S j < 256
  lt : 0 < n → B < w.heap.size
  len : n < 9223372036854775808
theorem Sds.more {w w' : World} {B : Nat} {ao : Option Addr} {n : Nat} {X : Nat → Int} {S : Nat → Nat} (h : Sds w B ao n X S) (ho : Only (fun _ => False) w w') : Sds w' B ao n X S := by
  refine ⟨fun hl => ?_, h.wf, fun hl => Nat.lt_of_lt_of_le (h.lt hl) ho.size, h.len⟩
  obtain ⟨o, e, hc⟩ := h.at_ hl
  exact ⟨o, e, fun j hj => ⟨(ho.cell (p := ⟨B, o + j * 2, none⟩) (h.lt hl) (fun h => h)).trans (hc j hj).1, (ho.cell (p := ⟨B, o + j * 2 + 1, none⟩) (h.lt hl) (fun h => h)).trans (hc j hj).2⟩⟩
/-- The page of so many statuses. -/
noncomputable def sayP (m f : Int) (X : Nat → Int) (S : Nat → Nat) : Nat → Pg
  | 0 => blankP m f
  | k + 1 => if setC m (sayP m f X S k) (X k) (S k) = 0 then setR m (sayP m f X S k) (X k) (S k) else sayP m f X S k
theorem Try.cellsView : Try.prog.cellsOf 32 = 11 := by kernel_rfl
theorem load_view {w : World} {b : Nat} {v0 v1 v2 v3 v4 v5 v6 v7 v8 v9 v10 : Value} (h : VB w b v0 v1 v2 v3 v4 v5 v6 v7 v8 v9 v10) : (loadVar 32 ⟨b, 0, none⟩).run Try.prog w = .ok (.agg #[v0, v1, v2, v3, v4, v5, v6, v7, v8, v9, v10]) w := by
  have c0 := h.c0
  have c1 := h.c1
  have c2 := h.c2
  have c3 := h.c3
  have c4 := h.c4
  have c5 := h.c5
  have c6 := h.c6
  have c7 := h.c7
  have c8 := h.c8
  have c9 := h.c9
  have c10 := h.c10
  simp [loadVar, go_sem, c0, c1, c2, c3, c4, c5, c6, c7, c8, c9, c10]
theorem results_view {fn : Func} {p u : Tmp} (h : fn.results = #[.cell p 32, .tmp u]) {tmps : Array Value} {w : World} {b : Nat} {v0 v1 v2 v3 v4 v5 v6 v7 v8 v9 v10 : Value} (hp : tmps.getD p undef = .pointer (some ⟨b, 0, none⟩)) (hP : VB w b v0 v1 v2 v3 v4 v5 v6 v7 v8 v9 v10) :
    (results fn tmps).run Try.prog w = .ok (.tuple #[.agg #[v0, v1, v2, v3, v4, v5, v6, v7, v8, v9, v10], tmps.getD u undef]) w := by
  have e : (asAddr (.pointer (some ⟨b, 0, none⟩))).run Try.prog w = .ok ⟨b, 0, none⟩ w := rfl
  rw [results_cell_tmp h, hp, e]
  simp only [Result.andThen, load_view hP]
theorem VB.all {w : World} {b : Nat} {v0 v1 v2 v3 v4 v5 v6 v7 v8 v9 v10 : Value} (h : VB w b v0 v1 v2 v3 v4 v5 v6 v7 v8 v9 v10) (u0 u1 u2 u3 u4 u5 u6 u7 u8 u9 u10 : Value) : VB (((((((((((w.setCell ⟨b, 0, none⟩ u0).setCell ⟨b, 1, none⟩ u1).setCell ⟨b, 2, none⟩ u2).setCell ⟨b, 3, none⟩ u3).setCell ⟨b, 4, none⟩ u4).setCell ⟨b, 5, none⟩ u5).setCell ⟨b, 6, none⟩ u6).setCell ⟨b, 7, none⟩ u7).setCell ⟨b, 8, none⟩ u8).setCell ⟨b, 9, none⟩ u9).setCell ⟨b, 10, none⟩ u10) b u0 u1 u2 u3 u4 u5 u6 u7 u8 u9 u10 := by
  have h0 : VB (w.setCell ⟨b, 0, none⟩ u0) b u0 v1 v2 v3 v4 v5 v6 v7 v8 v9 v10 := by simpa using (h).setC (k := 0) u0
  have h1 : VB ((w.setCell ⟨b, 0, none⟩ u0).setCell ⟨b, 1, none⟩ u1) b u0 u1 v2 v3 v4 v5 v6 v7 v8 v9 v10 := by simpa using (h0).setC (k := 1) u1
  have h2 : VB (((w.setCell ⟨b, 0, none⟩ u0).setCell ⟨b, 1, none⟩ u1).setCell ⟨b, 2, none⟩ u2) b u0 u1 u2 v3 v4 v5 v6 v7 v8 v9 v10 := by simpa using (h1).setC (k := 2) u2
  have h3 : VB ((((w.setCell ⟨b, 0, none⟩ u0).setCell ⟨b, 1, none⟩ u1).setCell ⟨b, 2, none⟩ u2).setCell ⟨b, 3, none⟩ u3) b u0 u1 u2 u3 v4 v5 v6 v7 v8 v9 v10 := by simpa using (h2).setC (k := 3) u3
  have h4 : VB (((((w.setCell ⟨b, 0, none⟩ u0).setCell ⟨b, 1, none⟩ u1).setCell ⟨b, 2, none⟩ u2).setCell ⟨b, 3, none⟩ u3).setCell ⟨b, 4, none⟩ u4) b u0 u1 u2 u3 u4 v5 v6 v7 v8 v9 v10 := by simpa using (h3).setC (k := 4) u4
  have h5 : VB ((((((w.setCell ⟨b, 0, none⟩ u0).setCell ⟨b, 1, none⟩ u1).setCell ⟨b, 2, none⟩ u2).setCell ⟨b, 3, none⟩ u3).setCell ⟨b, 4, none⟩ u4).setCell ⟨b, 5, none⟩ u5) b u0 u1 u2 u3 u4 u5 v6 v7 v8 v9 v10 := by simpa using (h4).setC (k := 5) u5
  have h6 : VB (((((((w.setCell ⟨b, 0, none⟩ u0).setCell ⟨b, 1, none⟩ u1).setCell ⟨b, 2, none⟩ u2).setCell ⟨b, 3, none⟩ u3).setCell ⟨b, 4, none⟩ u4).setCell ⟨b, 5, none⟩ u5).setCell ⟨b, 6, none⟩ u6) b u0 u1 u2 u3 u4 u5 u6 v7 v8 v9 v10 := by simpa using (h5).setC (k := 6) u6
  have h7 : VB ((((((((w.setCell ⟨b, 0, none⟩ u0).setCell ⟨b, 1, none⟩ u1).setCell ⟨b, 2, none⟩ u2).setCell ⟨b, 3, none⟩ u3).setCell ⟨b, 4, none⟩ u4).setCell ⟨b, 5, none⟩ u5).setCell ⟨b, 6, none⟩ u6).setCell ⟨b, 7, none⟩ u7) b u0 u1 u2 u3 u4 u5 u6 u7 v8 v9 v10 := by simpa using (h6).setC (k := 7) u7
  have h8 : VB (((((((((w.setCell ⟨b, 0, none⟩ u0).setCell ⟨b, 1, none⟩ u1).setCell ⟨b, 2, none⟩ u2).setCell ⟨b, 3, none⟩ u3).setCell ⟨b, 4, none⟩ u4).setCell ⟨b, 5, none⟩ u5).setCell ⟨b, 6, none⟩ u6).setCell ⟨b, 7, none⟩ u7).setCell ⟨b, 8, none⟩ u8) b u0 u1 u2 u3 u4 u5 u6 u7 u8 v9 v10 := by simpa using (h7).setC (k := 8) u8
  have h9 : VB ((((((((((w.setCell ⟨b, 0, none⟩ u0).setCell ⟨b, 1, none⟩ u1).setCell ⟨b, 2, none⟩ u2).setCell ⟨b, 3, none⟩ u3).setCell ⟨b, 4, none⟩ u4).setCell ⟨b, 5, none⟩ u5).setCell ⟨b, 6, none⟩ u6).setCell ⟨b, 7, none⟩ u7).setCell ⟨b, 8, none⟩ u8).setCell ⟨b, 9, none⟩ u9) b u0 u1 u2 u3 u4 u5 u6 u7 u8 u9 v10 := by simpa using (h8).setC (k := 9) u9
  have h10 : VB (((((((((((w.setCell ⟨b, 0, none⟩ u0).setCell ⟨b, 1, none⟩ u1).setCell ⟨b, 2, none⟩ u2).setCell ⟨b, 3, none⟩ u3).setCell ⟨b, 4, none⟩ u4).setCell ⟨b, 5, none⟩ u5).setCell ⟨b, 6, none⟩ u6).setCell ⟨b, 7, none⟩ u7).setCell ⟨b, 8, none⟩ u8).setCell ⟨b, 9, none⟩ u9).setCell ⟨b, 10, none⟩ u10) b u0 u1 u2 u3 u4 u5 u6 u7 u8 u9 u10 := by simpa using (h9).setC (k := 10) u10
  exact h10
theorem VB.page {w : World} {b : Nat} {v0 v1 v2 v3 v4 v5 v6 v7 v8 v9 v10 : Value} (h : VB w b v0 v1 v2 v3 v4 v5 v6 v7 v8 v9 v10) (p0 p1 p2 p3 p4 p5 : Value) : VB ((((((w.setCell ⟨b, 5, none⟩ p0).setCell ⟨b, 6, none⟩ p1).setCell ⟨b, 7, none⟩ p2).setCell ⟨b, 8, none⟩ p3).setCell ⟨b, 9, none⟩ p4).setCell ⟨b, 10, none⟩ p5) b v0 v1 v2 v3 v4 p0 p1 p2 p3 p4 p5 := by
  have h0 : VB (w.setCell ⟨b, 5, none⟩ p0) b v0 v1 v2 v3 v4 p0 v6 v7 v8 v9 v10 := by simpa using (h).setC (k := 5) p0
  have h1 : VB ((w.setCell ⟨b, 5, none⟩ p0).setCell ⟨b, 6, none⟩ p1) b v0 v1 v2 v3 v4 p0 p1 v7 v8 v9 v10 := by simpa using (h0).setC (k := 6) p1
  have h2 : VB (((w.setCell ⟨b, 5, none⟩ p0).setCell ⟨b, 6, none⟩ p1).setCell ⟨b, 7, none⟩ p2) b v0 v1 v2 v3 v4 p0 p1 p2 v8 v9 v10 := by simpa using (h1).setC (k := 7) p2
  have h3 : VB ((((w.setCell ⟨b, 5, none⟩ p0).setCell ⟨b, 6, none⟩ p1).setCell ⟨b, 7, none⟩ p2).setCell ⟨b, 8, none⟩ p3) b v0 v1 v2 v3 v4 p0 p1 p2 p3 v9 v10 := by simpa using (h2).setC (k := 8) p3
  have h4 : VB (((((w.setCell ⟨b, 5, none⟩ p0).setCell ⟨b, 6, none⟩ p1).setCell ⟨b, 7, none⟩ p2).setCell ⟨b, 8, none⟩ p3).setCell ⟨b, 9, none⟩ p4) b v0 v1 v2 v3 v4 p0 p1 p2 p3 p4 v10 := by simpa using (h3).setC (k := 9) p4
  have h5 : VB ((((((w.setCell ⟨b, 5, none⟩ p0).setCell ⟨b, 6, none⟩ p1).setCell ⟨b, 7, none⟩ p2).setCell ⟨b, 8, none⟩ p3).setCell ⟨b, 9, none⟩ p4).setCell ⟨b, 10, none⟩ p5) b v0 v1 v2 v3 v4 p0 p1 p2 p3 p4 p5 := by simpa using (h4).setC (k := 10) p5
  exact h5
theorem VB.m {w : World} {b : Nat} {v0 v1 v2 v3 v4 v5 v6 v7 v8 v9 v10 : Value} (h : VB w b v0 v1 v2 v3 v4 v5 v6 v7 v8 v9 v10) (u : Value) : VB (w.setCell ⟨b, 0, none⟩ u) b u v1 v2 v3 v4 v5 v6 v7 v8 v9 v10 := by simpa using h.setC (k := 0) u
theorem Only.eleven (w : World) (b : Nat) (u0 u1 u2 u3 u4 u5 u6 u7 u8 u9 u10 : Value) : Only (fun k => k = b) w (((((((((((w.setCell ⟨b, 0, none⟩ u0).setCell ⟨b, 1, none⟩ u1).setCell ⟨b, 2, none⟩ u2).setCell ⟨b, 3, none⟩ u3).setCell ⟨b, 4, none⟩ u4).setCell ⟨b, 5, none⟩ u5).setCell ⟨b, 6, none⟩ u6).setCell ⟨b, 7, none⟩ u7).setCell ⟨b, 8, none⟩ u8).setCell ⟨b, 9, none⟩ u9).setCell ⟨b, 10, none⟩ u10) := by
  have st : ∀ (W : World) (i : Nat) (v : Value), Only (fun k => k = b) W (W.setCell ⟨b, i, none⟩ v) := fun W i v => Only.setCell W ⟨b, i, none⟩ v rfl
  exact (((((((((((st _ 0 _).trans (st _ 1 _) (fun _ _ h => h)).trans (st _ 2 _) (fun _ _ h => h)).trans (st _ 3 _) (fun _ _ h => h)).trans (st _ 4 _) (fun _ _ h => h)).trans (st _ 5 _) (fun _ _ h => h)).trans (st _ 6 _) (fun _ _ h => h)).trans (st _ 7 _) (fun _ _ h => h)).trans (st _ 8 _) (fun _ _ h => h)).trans (st _ 9 _) (fun _ _ h => h)).trans (st _ 10 _) (fun _ _ h => h))
theorem Only.pageAt (w : World) (b : Nat) (p0 p1 p2 p3 p4 p5 : Value) : Only (fun k => k = b) w ((((((w.setCell ⟨b, 5, none⟩ p0).setCell ⟨b, 6, none⟩ p1).setCell ⟨b, 7, none⟩ p2).setCell ⟨b, 8, none⟩ p3).setCell ⟨b, 9, none⟩ p4).setCell ⟨b, 10, none⟩ p5) := by
  have st : ∀ (W : World) (i : Nat) (v : Value), Only (fun k => k = b) W (W.setCell ⟨b, i, none⟩ v) := fun W i v => Only.setCell W ⟨b, i, none⟩ v rfl
  exact ((((((st _ 5 _).trans (st _ 6 _) (fun _ _ h => h)).trans (st _ 7 _) (fun _ _ h => h)).trans (st _ 8 _) (fun _ _ h => h)).trans (st _ 9 _) (fun _ _ h => h)).trans (st _ 10 _) (fun _ _ h => h))
end Go.Proofs.Ytpnbhddmdfcjdaa
