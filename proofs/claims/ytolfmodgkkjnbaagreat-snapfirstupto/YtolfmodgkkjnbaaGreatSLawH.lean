/- A view that a law makes, whatever comes in. -/
import Derived.Test.YtolfmodgkkjnbaaGreatSAwake
namespace Go.Proofs.YtolfmodgkkjnbaaGreat
open Go.RowKit

/-- 3 cells in block b. -/
structure PB (w : World) (b : Nat) (v0 v1 v2 : Value) : Prop where
  c0 : w.cell? ⟨b, 0, none⟩ = some v0
  c1 : w.cell? ⟨b, 1, none⟩ = some v1
  c2 : w.cell? ⟨b, 2, none⟩ = some v2
  f0 : w.frozen? ⟨b, 0, none⟩ = false
  f1 : w.frozen? ⟨b, 1, none⟩ = false
  f2 : w.frozen? ⟨b, 2, none⟩ = false
  lt : b < w.heap.size
theorem PB.kept {S : Nat → Prop} {w w' : World} {b : Nat} {v0 v1 v2 : Value} (h : PB w b v0 v1 v2) (ho : Only S w w') (hS : ¬ S b) : PB w' b v0 v1 v2 :=
  ⟨(ho.cell (p := ⟨b, 0, none⟩) h.lt hS).trans h.c0, (ho.cell (p := ⟨b, 1, none⟩) h.lt hS).trans h.c1, (ho.cell (p := ⟨b, 2, none⟩) h.lt hS).trans h.c2,
   (ho.frozen (p := ⟨b, 0, none⟩) h.lt hS).trans h.f0, (ho.frozen (p := ⟨b, 1, none⟩) h.lt hS).trans h.f1, (ho.frozen (p := ⟨b, 2, none⟩) h.lt hS).trans h.f2, Nat.lt_of_lt_of_le h.lt ho.size⟩
theorem PB.more {w w' : World} {b : Nat} {v0 v1 v2 : Value} (h : PB w b v0 v1 v2) (ho : Only (fun _ => False) w w') : PB w' b v0 v1 v2 := h.kept ho (fun h => h)
theorem PB.new (w : World) (v0 v1 v2 : Value) : PB (w.alloc (.cells #[v0, v1, v2] 24)) w.heap.size v0 v1 v2 :=
  ⟨by simp, by simp, by simp, by simp, by simp, by simp, by simp⟩
theorem PB.setC {w : World} {b : Nat} {v0 v1 v2 : Value} (h : PB w b v0 v1 v2) {k : Nat} (u : Value) : PB (w.setCell ⟨b, k, none⟩ u) b (if k = 0 then u else v0) (if k = 1 then u else v1) (if k = 2 then u else v2) := by
  have cl : ∀ (i : Nat) (v : Value), w.cell? ⟨b, i, none⟩ = some v → (w.setCell ⟨b, k, none⟩ u).cell? ⟨b, i, none⟩ = some (if k = i then u else v) := fun i v hv => by
    by_cases e : k = i
    · subst e; rw [if_pos rfl]; exact World.cell?_setCell_same _ _ _ hv
    · rw [if_neg e]; exact (World.cell?_setCell_other _ _ _ _ (by intro e2; injection e2 with _ e3; exact e e3)).trans hv
  exact ⟨cl 0 _ h.c0, cl 1 _ h.c1, cl 2 _ h.c2, by simpa using h.f0, by simpa using h.f1, by simpa using h.f2, by simpa using h.lt⟩
theorem made_any (w : World) (m fr : Int) (BO : Nat) (aO : Option Addr) (n cap : Nat) (X : Nat → Int) (S : Nat → Nat) (V : Vw) (q : Lo) (hm : I64 m) (hfr : I64 fr) (hS : Sds w BO aO n X S) (h : Sn w V q) :
    Calls Tryz.prog 8 #[.int .i64 m, .int .i64 fr, .slice aO n cap, .agg #[.int .i64 V.m, .int .i64 V.next, .slice q.aA V.act.length q.cA, .int .i64 V.own, .slice q.aR V.run.length q.cR, .int .i64 V.pg.lsn, .int .i64 V.pg.kind, .int .i64 V.pg.level, .int .i64 V.pg.right, .string V.pg.high, .slice q.aP V.pg.items.length q.cP]] w fun e w' => ∃ V' q' b, MdQ w w' e V' q' b := by
  by_cases hI : Idd m fr
  · exact (made_ok w m fr BO aO n cap X S V q hI hS h).mono (fun e w' ⟨B, ao, cp, hq⟩ => ⟨_, _, _, hq⟩)
  · exact (made_no w m fr (.slice aO n cap) V q hm hfr hI h).mono (fun e w' hq => ⟨_, _, _, hq⟩)
/-- All blocks that a view leads to lie ahead of b. -/
def Sn.below (V : Vw) (q : Lo) (b : Nat) : Prop := (0 < V.act.length → q.bA < b) ∧ (0 < V.run.length → q.bR < b) ∧ (0 < V.pg.items.length → q.bP < b)
theorem Sn.old {W : World} {V : Vw} {q : Lo} (h : Sn W V q) : Sn.below V q W.heap.size := ⟨h.act.lt, h.run.lt, h.pg.lt⟩
theorem Sn.below_le {V : Vw} {q : Lo} {a b : Nat} (h : Sn.below V q a) (hab : a ≤ b) : Sn.below V q b := ⟨fun k => Nat.lt_of_lt_of_le (h.1 k) hab, fun k => Nat.lt_of_lt_of_le (h.2.1 k) hab, fun k => Nat.lt_of_lt_of_le (h.2.2 k) hab⟩
theorem Sn.keptAt {W W' : World} {V : Vw} {q : Lo} {b : Nat} (h : Sn W V q) (ho : Only (fun k => k = b) W W') (hb : Sn.below V q b) : Sn W' V q :=
  ⟨h.act.kept ho (fun k e => by have := hb.1 k; omega), h.run.kept ho (fun k e => by have := hb.2.1 k; omega), h.pg.kept ho (fun k e => by have := hb.2.2 k; omega), h.fit, h.m, h.next, h.own⟩
end Go.Proofs.YtolfmodgkkjnbaaGreat
