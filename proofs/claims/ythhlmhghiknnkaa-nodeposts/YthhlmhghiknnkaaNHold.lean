/- Loads in regions that draw: entries, what a node says, pages, single cells. -/
import Derived.Test.YthhlmhghiknnkaaNHead
import Derived.Test.YthhlmhghiknnkaaNList
namespace Go.Proofs.Ythhlmhghiknnkaa
open Go.RowKit

theorem load_eb {w : World} {b o : Nat} {e : En} (h : Eb w b o e) : (loadVar 23 ⟨b, o, none⟩).run Try.prog w = .ok e.agg w := by
  have c0 := h.c0
  have c1 := h.c1
  have c2 := h.c2
  simp [loadVar, go_sem, c0, c1, c2, En.agg]
theorem Ev.eb {w : World} {b : Nat} {e : En} (h : Ev w b e) : Eb w b 0 e := ⟨h.c0, h.c1, h.c2, h.lt⟩
theorem yieldsIf_load_eb {ops : Array Oper} {S : World → Prop} {op : Oper} {a : Act} {e : En} (hw : Region.wanted op (yielded ops a.tmps) = true) (x : Operand) (ho : op.op = .load 23 x)
    {b o : Nat} (hx : a.eval x = .pointer (some ⟨b, o, none⟩)) (hS : ∀ w, S w → Eb w b o e) : YieldsIf Try.prog ops S op (.agg #[.string e.key, .int .i64 e.page, .int .i64 e.slot]) a :=
  .inl ⟨hw, fun w hw' => by
    unfold execOp
    simp only [ho, hx, Instr.loadAt, Instr.sureAddr, Sem.run_bind, Sem.run_pure, Result.andThen_ok, load_eb (hS w hw'), En.agg]⟩
theorem yieldsIf_load_ev {ops : Array Oper} {S : World → Prop} {op : Oper} {a : Act} {e : En} (hw : Region.wanted op (yielded ops a.tmps) = true) (x : Operand) (ho : op.op = .load 23 x)
    {b : Nat} (hx : a.eval x = .pointer (some ⟨b, 0, none⟩)) (hS : ∀ w, S w → Ev w b e) : YieldsIf Try.prog ops S op (.agg #[.string e.key, .int .i64 e.page, .int .i64 e.slot]) a :=
  yieldsIf_load_eb hw x ho hx (fun w h => (hS w h).eb)
theorem yieldsIf_load_cv {ops : Array Oper} {S : World → Prop} {op : Oper} {a : Act} {a1 a2 : Option Addr} {n1 n2 c1 c2 : Nat} {e : En} (hw : Region.wanted op (yielded ops a.tmps) = true) (x : Operand) (ho : op.op = .load 78 x)
    {b : Nat} (hx : a.eval x = .pointer (some ⟨b, 0, none⟩)) (hS : ∀ w, S w → Cv w b (.slice a1 n1 c1) (.slice a2 n2 c2) e) : YieldsIf Try.prog ops S op (.agg #[.slice a1 n1 c1, .slice a2 n2 c2, .string e.key, .int .i64 e.page, .int .i64 e.slot]) a :=
  .inl ⟨hw, fun w hw' => by
    unfold execOp
    simp only [ho, hx, Instr.loadAt, Instr.sureAddr, Sem.run_bind, Sem.run_pure, Result.andThen_ok, load_cv (hS w hw'), cvv]⟩
theorem yieldsIf_load_page {ops : Array Oper} {S : World → Prop} {op : Oper} {a : Act} {v0 v1 v2 v3 v4 v5 : Value} (hw : Region.wanted op (yielded ops a.tmps) = true) (x : Operand) (ho : op.op = .load 38 x)
    (b : Nat) (hx : a.eval x = .pointer (some ⟨b, 0, none⟩)) (hS : ∀ w, S w → Pag w b v0 v1 v2 v3 v4 v5) : YieldsIf Try.prog ops S op (.agg #[v0, v1, v2, v3, v4, v5]) a :=
  .inl ⟨hw, fun w hw' => by
    unfold execOp
    simp only [ho, hx, Instr.loadAt, Instr.sureAddr, Sem.run_bind, Sem.run_pure, Result.andThen_ok, load_page (hS w hw')]⟩
theorem yieldsIf_load_cell {ops : Array Oper} {S : World → Prop} {op : Oper} {a : Act} {v : Value} (hw : Region.wanted op (yielded ops a.tmps) = true) (ty : TypeId) (x : Operand) (ho : op.op = .load ty x)
    (p : Addr) (hx : a.eval x = .pointer (some p)) (hS : ∀ w, S w → w.cell? p = some v) (hl : ∀ w, w.cell? p = some v → (loadVar ty p).run Try.prog w = .ok v w) : YieldsIf Try.prog ops S op v a :=
  .inl ⟨hw, fun w hw' => by
    unfold execOp
    simp only [ho, hx, Instr.loadAt, Instr.sureAddr, Sem.run_bind, Sem.run_pure, Result.andThen_ok, hl w (hS w hw')]⟩
theorem ld_int {w : World} {p : Addr} {v : Value} (h : w.cell? p = some v) : (loadVar 3 p).run Try.prog w = .ok v w := by simp [loadVar, go_sem, h]
theorem ld_string {w : World} {p : Addr} {v : Value} (h : w.cell? p = some v) : (loadVar 9 p).run Try.prog w = .ok v w := by simp [loadVar, go_sem, h]
theorem ld_strings {w : World} {p : Addr} {v : Value} (h : w.cell? p = some v) : (loadVar 36 p).run Try.prog w = .ok v w := by simp [loadVar, go_sem, h]
theorem ld_entries {w : World} {p : Addr} {v : Value} (h : w.cell? p = some v) : (loadVar 35 p).run Try.prog w = .ok v w := by simp [loadVar, go_sem, h]
theorem ld_ints {w : World} {p : Addr} {v : Value} (h : w.cell? p = some v) : (loadVar 57 p).run Try.prog w = .ok v w := by simp [loadVar, go_sem, h]
end Go.Proofs.Ythhlmhghiknnkaa
