/- Loads in regions that draw; a page variable that changes are set in, one by one. -/
import Derived.Test.YtcpgflkjeglgbaaCOpen
import Derived.Test.YtcpgflkjeglgbaaCLawA
import Derived.Deep.RegionHeld3
namespace Go.Proofs.Ytcpgflkjeglgbaa
open Go.RowKit

theorem yieldsIf_load_page {ops : Array Oper} {S : World → Prop} {op : Oper} {a : Act} {v0 v1 v2 v3 v4 v5 : Value} (hw : Region.wanted op (yielded ops a.tmps) = true) (x : Operand) (ho : op.op = .load 24 x)
    (b : Nat) (hx : a.eval x = .pointer (some ⟨b, 0, none⟩)) (hS : ∀ w, S w → Pag w b v0 v1 v2 v3 v4 v5) : YieldsIf Try.prog ops S op (.agg #[v0, v1, v2, v3, v4, v5]) a :=
  .inl ⟨hw, fun w hw' => by
    unfold execOp
    simp only [ho, hx, Instr.loadAt, Instr.sureAddr, Sem.run_bind, Sem.run_pure, Result.andThen_ok, load_page (hS w hw')]⟩
theorem yieldsIf_load_cell {ops : Array Oper} {S : World → Prop} {op : Oper} {a : Act} {v : Value} (hw : Region.wanted op (yielded ops a.tmps) = true) (ty : TypeId) (x : Operand) (ho : op.op = .load ty x)
    (p : Addr) (hx : a.eval x = .pointer (some p)) (hS : ∀ w, S w → w.cell? p = some v) (hl : ∀ w, w.cell? p = some v → (loadVar ty p).run Try.prog w = .ok v w) : YieldsIf Try.prog ops S op v a :=
  .inl ⟨hw, fun w hw' => by
    unfold execOp
    simp only [ho, hx, Instr.loadAt, Instr.sureAddr, Sem.run_bind, Sem.run_pure, Result.andThen_ok, hl w (hS w hw')]⟩
theorem ld_int {w : World} {p : Addr} {v : Value} (h : w.cell? p = some v) : (loadVar 3 p).run Try.prog w = .ok v w := by simp [loadVar, go_sem, h]
theorem ld_status {w : World} {p : Addr} {v : Value} (h : w.cell? p = some v) : (loadVar 25 p).run Try.prog w = .ok v w := by simp [loadVar, go_sem, h]
theorem ld_cops {w : World} {p : Addr} {v : Value} (h : w.cell? p = some v) : (loadVar 40 p).run Try.prog w = .ok v w := by simp [loadVar, go_sem, h]
/-- A page variable in block b, which alone has changed since W1: a page of statuses. -/
structure Var (m : Int) (W1 wr : World) (b : Nat) (f : Int) (p : Pg) (B : Nat) (ao : Option Addr) (cp : Nat) : Prop where
  pg : PgB wr b p B ao cp
  ne : B ≠ b
  ok : OkP m p
  lm : lim m (it0 p) = f
  lsn : p.lsn = 0
  only : Only (fun k => k = b) W1 wr
/-- A page laid into a new variable since wr. -/
structure Laid (wr wc : World) (b5 : Nat) (q : Pg) (B5 : Nat) (ao5 : Option Addr) (cp5 : Nat) : Prop where
  pg : PgB wc b5 q B5 ao5 cp5
  only : Only (fun _ => False) wr wc
  hb : wr.heap.size ≤ b5
  hB : 0 < q.items.length → wr.heap.size ≤ B5
theorem Laid.first {wr w5 : World} {q : Pg} {B5 cp5 : Nat} {ao5 : Option Addr} (hS : Strs w5 B5 ao5 q.items) (hF : Fit ao5 q.items.length cp5) (ho : Only (fun _ => False) wr w5) (hB : 0 < q.items.length → wr.heap.size ≤ B5) :
    Laid wr (w5.alloc (.cells #[.int .i64 q.lsn, .int .i64 q.kind, .int .i64 q.level, .int .i64 q.right, .string q.high, .slice ao5 q.items.length cp5] 24)) w5.heap.size q B5 ao5 cp5 :=
  ⟨PgB.new hS hF, o2 ho (onlyA _ _), ho.size, hB⟩
theorem Laid.then {wr w5 : World} {b5 : Nat} {q : Pg} {B5 cp5 : Nat} {ao5 : Option Addr} {v0 v1 v2 v3 v4 v5 : Value} (hz : Pag w5 b5 v0 v1 v2 v3 v4 v5) (hS : Strs w5 B5 ao5 q.items) (hF : Fit ao5 q.items.length cp5) (ho : Only (fun _ => False) wr w5) (hb : wr.heap.size ≤ b5) (hB : 0 < q.items.length → b5 < B5) :
    Laid wr ((((((w5.setCell ⟨b5, 0, none⟩ (.int .i64 q.lsn)).setCell ⟨b5, 1, none⟩ (.int .i64 q.kind)).setCell ⟨b5, 2, none⟩ (.int .i64 q.level)).setCell ⟨b5, 3, none⟩ (.int .i64 q.right)).setCell ⟨b5, 4, none⟩ (.string q.high)).setCell ⟨b5, 5, none⟩ (.slice ao5 q.items.length cp5)) b5 q B5 ao5 cp5 :=
  ⟨PgB.put hz hS hF (fun h => by have := hB h; omega), ho.trans (Only.six w5 b5 _ _ _ _ _ _) (fun i hi e => by omega), hb, fun h => by have := hB h; omega⟩
theorem Var.more {m : Int} {W1 wr wc : World} {b B cp : Nat} {f : Int} {p : Pg} {ao : Option Addr} (h : Var m W1 wr b f p B ao cp) (ho : Only (fun _ => False) wr wc) : Var m W1 wc b f p B ao cp :=
  ⟨h.pg.more ho, h.ne, h.ok, h.lm, h.lsn, h.only.trans ho (fun _ _ h => h.elim)⟩
theorem Var.put {m : Int} {W1 wr wc : World} {b B cp : Nat} {f : Int} {p : Pg} {ao : Option Addr} (h : Var m W1 wr b f p B ao cp) {b5 B5 cp5 : Nat} {q : Pg} {ao5 : Option Addr} (hl : Laid wr wc b5 q B5 ao5 cp5) (hok : OkP m q) (hlm : lim m (it0 q) = f) (hls : q.lsn = 0) :
    Var m W1 ((((((wc.setCell ⟨b, 0, none⟩ (.int .i64 q.lsn)).setCell ⟨b, 1, none⟩ (.int .i64 q.kind)).setCell ⟨b, 2, none⟩ (.int .i64 q.level)).setCell ⟨b, 3, none⟩ (.int .i64 q.right)).setCell ⟨b, 4, none⟩ (.string q.high)).setCell ⟨b, 5, none⟩ (.slice ao5 q.items.length cp5)) b f q B5 ao5 cp5 := by
  have hlt := h.pg.pag.lt
  have hpos : 0 < q.items.length := by rw [hok.two]; omega
  have hB := hl.hB hpos
  exact ⟨PgB.put (h.pg.pag.more hl.only) hl.pg.strs hl.pg.fit (fun _ => by omega), by omega, hok, hlm, hls, (h.only.trans hl.only (fun _ _ h => h.elim)).trans (Only.six wc b _ _ _ _ _ _) (fun _ _ e => e)⟩
theorem setR_ok {m x : Int} {p : Pg} {s : Nat} (h : setC m p x s = 0) : OkP m (setR m p x s) ∧ lim m (it0 (setR m p x s)) = lim m (it0 p) ∧ (setR m p x s).lsn = p.lsn := by
  obtain ⟨hI, hO, hs⟩ := setC_zero h
  unfold setR
  rw [if_pos h]
  exact ⟨hO.set hI hs, rfl, rfl⟩
end Go.Proofs.Ytcpgflkjeglgbaa
