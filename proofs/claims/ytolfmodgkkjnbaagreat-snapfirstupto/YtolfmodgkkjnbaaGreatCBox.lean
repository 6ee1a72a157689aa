/- A page that a variable holds. -/
import Derived.Test.YtolfmodgkkjnbaaGreatCWalkG
namespace Go.Proofs.YtolfmodgkkjnbaaGreat
open Go.RowKit

/-- A page in the variable's block b, its items in block B. -/
structure PgB (W : World) (b : Nat) (p : Pg) (B : Nat) (ao : Option Addr) (cp : Nat) : Prop where
  pag : Pag W b (.int .i64 p.lsn) (.int .i64 p.kind) (.int .i64 p.level) (.int .i64 p.right) (.string p.high) (.slice ao p.items.length cp)
  strs : Strs W B ao p.items
  fit : Fit ao p.items.length cp
theorem PgB.kept {S : Nat → Prop} {W W' : World} {b B cp : Nat} {p : Pg} {ao : Option Addr} (h : PgB W b p B ao cp) (ho : Only S W W') (hb : ¬ S b) (hB : 0 < p.items.length → ¬ S B) : PgB W' b p B ao cp :=
  ⟨h.pag.kept ho hb, h.strs.kept ho hB, h.fit⟩
theorem PgB.more {W W' : World} {b B cp : Nat} {p : Pg} {ao : Option Addr} (h : PgB W b p B ao cp) (ho : Only (fun _ => False) W W') : PgB W' b p B ao cp := h.kept ho (fun h => h) (fun _ h => h)
theorem PgB.new {w : World} {p : Pg} {B cp : Nat} {ao : Option Addr} (hS : Strs w B ao p.items) (hF : Fit ao p.items.length cp) :
    PgB (w.alloc (.cells #[.int .i64 p.lsn, .int .i64 p.kind, .int .i64 p.level, .int .i64 p.right, .string p.high, .slice ao p.items.length cp] 30)) w.heap.size p B ao cp :=
  ⟨Pag.new w _ _ _ _ _ _, hS.more (onlyA _ _), hF⟩
theorem PgB.put {w : World} {b : Nat} {v0 v1 v2 v3 v4 v5 : Value} (h : Pag w b v0 v1 v2 v3 v4 v5) {p : Pg} {B cp : Nat} {ao : Option Addr} (hS : Strs w B ao p.items) (hF : Fit ao p.items.length cp) (hB : 0 < p.items.length → B ≠ b) :
    PgB ((((((w.setCell ⟨b, 0, none⟩ (.int .i64 p.lsn)).setCell ⟨b, 1, none⟩ (.int .i64 p.kind)).setCell ⟨b, 2, none⟩ (.int .i64 p.level)).setCell ⟨b, 3, none⟩ (.int .i64 p.right)).setCell ⟨b, 4, none⟩ (.string p.high)).setCell ⟨b, 5, none⟩ (.slice ao p.items.length cp)) b p B ao cp :=
  ⟨h.six _ _ _ _ _ _, hS.kept (Only.six w b _ _ _ _ _ _) hB, hF⟩
/-- A change in a block of its own. -/
structure Opx (W : World) (b : Nat) (c : Bool) (x : Int) (s : Nat) : Prop where
  c0 : W.cell? ⟨b, 0, none⟩ = some (.bool c)
  c1 : W.cell? ⟨b, 1, none⟩ = some (.int .i64 x)
  c2 : W.cell? ⟨b, 2, none⟩ = some (.int .u8 (s : Int))
  lt : b < W.heap.size
theorem Opx.kept {S : Nat → Prop} {W W' : World} {b s : Nat} {c : Bool} {x : Int} (h : Opx W b c x s) (ho : Only S W W') (hb : ¬ S b) : Opx W' b c x s :=
  ⟨(ho.cell (p := ⟨b, 0, none⟩) h.lt hb).trans h.c0, (ho.cell (p := ⟨b, 1, none⟩) h.lt hb).trans h.c1, (ho.cell (p := ⟨b, 2, none⟩) h.lt hb).trans h.c2, Nat.lt_of_lt_of_le h.lt ho.size⟩
theorem Opx.more {W W' : World} {b s : Nat} {c : Bool} {x : Int} (h : Opx W b c x s) (ho : Only (fun _ => False) W W') : Opx W' b c x s := h.kept ho (fun h => h)
end Go.Proofs.YtolfmodgkkjnbaaGreat
