/- The document's laid. -/
import Derived.Test.YtolfmodgkkjnbaaGreatCWalkG
import Derived.Test.YtolfmodgkkjnbaaGreatCNum
namespace Go.Proofs.YtolfmodgkkjnbaaGreat
open Go.RowKit

/-- Statuses that a slice leads to, in block B. -/
structure Sts (w : World) (B : Nat) (ao : Option Addr) (l : List Nat) : Prop where
  at_ : 0 < l.length → ∃ o, ao = some ⟨B, o, none⟩ ∧ ∀ j (h : j < l.length), w.cell? ⟨B, o + j, none⟩ = some (.int .u8 (l[j] : Int))
  lt : 0 < l.length → B < w.heap.size
  four : ∀ x ∈ l, x < 4
theorem Sts.kept {S : Nat → Prop} {w w' : World} {B : Nat} {ao : Option Addr} {l : List Nat} (h : Sts w B ao l) (ho : Only S w w') (hS : 0 < l.length → ¬ S B) : Sts w' B ao l :=
  ⟨fun h0 => by
    obtain ⟨o, e, hc⟩ := h.at_ h0
    exact ⟨o, e, fun j hj => (ho.cell (p := ⟨B, o + j, none⟩) (h.lt h0) (hS h0)).trans (hc j hj)⟩, fun h0 => Nat.lt_of_lt_of_le (h.lt h0) ho.size, h.four⟩
theorem Sts.more {w w' : World} {B : Nat} {ao : Option Addr} {l : List Nat} (h : Sts w B ao l) (ho : Only (fun _ => False) w w') : Sts w' B ao l := h.kept ho (fun _ h => h)
theorem Sts.nil (w : World) (B : Nat) (ao : Option Addr) : Sts w B ao [] := ⟨fun h => absurd h (by simp), fun h => absurd h (by simp), fun _ h => by cases h⟩
/-- Bytes with the first i of these statuses. -/
def lsTo (n : Nat) (l : List Nat) : Nat → List UInt8
  | 0 => List.replicate n 0
  | i + 1 => stSet (lsTo n l i) i (l.getD i 0)
theorem lsTo_len (n : Nat) (l : List Nat) (i : Nat) : (lsTo n l i).length = n := by
  induction i with
  | zero => simp [lsTo]
  | succ i ih => rw [lsTo, stSet_len]; exact ih
theorem getD_four {l : List Nat} (h : ∀ x ∈ l, x < 4) (i : Nat) : l.getD i 0 < 4 := by
  by_cases hi : i < l.length
  · rw [List.getD_eq_getElem?_getD, List.getElem?_eq_getElem hi]
    exact h _ (List.getElem_mem hi)
  · rw [List.getD_eq_getElem?_getD, List.getElem?_eq_none (by omega)]
    show 0 < 4
    omega
theorem stAt_ls {n : Nat} {l : List Nat} (h4 : ∀ x ∈ l, x < 4) (i : Nat) (hi : i ≤ 4 * n) (j : Nat) : stAt (lsTo n l i) j = if j < i then l.getD j 0 else 0 := by
  induction i with
  | zero => rw [if_neg (by omega)]; exact stAt_zero n j
  | succ i ih =>
    rw [lsTo, stAt_set (by rw [lsTo_len]; omega) (getD_four h4 i), ih (by omega)]
    by_cases e : j = i
    · subst e
      rw [if_pos rfl, if_pos (by omega)]
    · rw [if_neg e]
      by_cases h2 : j < i
      · rw [if_pos h2, if_pos (by omega)]
      · rw [if_neg h2, if_neg (by omega)]
theorem made_bytes (w : World) (n : Nat) (hn : n ≤ 256) : ∃ w1, (Instr.makeSlice 68 (.int .i64 (n : Int)) (.int .i64 (n : Int))).run Tryz.prog w = .ok (.slice (some ⟨w.heap.size, 0, none⟩) n n) w1 ∧ Byt w1 w.heap.size (List.replicate n 0) ∧ Only (fun _ => False) w w1 := by
  obtain ⟨i0, hi, hz0, hz1, hz2⟩ := info_parts Tryz.infoByte
  obtain ⟨w1, hmk, hown, hgr⟩ := run_make_full (P := Tryz.prog) w w.heap.size 68 5 i0 (.int .u8 0) 1 Tryz.underlying68 hi hz0 hz1 .i64 .i64 n (by rw [hz2]; omega) (by unfold maxLen; omega) (Nat.le_refl _)
  have e2 : (madeCells (Value.int .u8 0).cells (n * 1)).toList = cells (List.replicate n 0) := by
    have : (Value.int IntKind.u8 0).cells = #[.int .u8 0] := rfl
    rw [this, toList_madeCells_one]; simp [cells]
  rw [e2] at hown
  refine ⟨w1, hmk, ⟨fun j hj => ?_, fun j hj => hown.frozenAt j, (hown.lt w.heap.size rfl).2⟩, Only.grown hgr (fun k hk => by cases hk)⟩
  rw [hown.cellAt j (by rw [List.length_replicate] at hj; omega)]
  have : (cells (List.replicate n (0 : UInt8)))[j]? = some (.int .u8 ((List.replicate n (0 : UInt8))[j].toNat : Int)) := by
    unfold cells
    rw [List.getElem?_map, List.getElem?_eq_getElem hj]
    rfl
  exact this
theorem Byt.setp {w : World} {g : Nat} {l : List UInt8} (h : Byt w g l) {j n : Nat} (hj : j < l.length) (hn : n < 256) {V : Int} (hV : V = (n : Int)) :
    Byt (w.setCell ⟨g, j, none⟩ (.int .u8 V)) g (l.set j (UInt8.ofNat n)) ∧ Only (fun k => k = g) w (w.setCell ⟨g, j, none⟩ (.int .u8 V)) := by
  obtain ⟨⟨c, f, lt⟩, ho⟩ := h.set hj hn hV
  exact ⟨⟨c, f, lt⟩, ⟨ho.os, ho.tape, ho.output, ho.size, ho.block⟩⟩
/-- What laid leaves. -/
structure LaidQ (w w' : World) (e : Ending) (p : Pg) : Prop where
  ex : ∃ B ao cp, e = .returned (.agg #[.int .i64 p.lsn, .int .i64 p.kind, .int .i64 p.level, .int .i64 p.right, .string p.high, .slice ao p.items.length cp]) ∧ Strs w' B ao p.items ∧ Fit ao p.items.length cp ∧ w.heap.size ≤ B
  only : Only (fun _ => False) w w'
theorem results_cell1 {fn : Func} {p : Tmp} {ty : TypeId} (h : fn.results = #[.cell p ty]) (tmps : Array Value) (P : Program) (w : World) :
    (results fn tmps).run P w = ((asAddr (tmps.getD p undef)).run P w).andThen fun a w₁ => (loadVar ty a).run P w₁ := by
  simp only [results, h]
  simp [Sem.run_bind, Result.andThen]
theorem results_page1 {fn : Func} {p : Tmp} (h : fn.results = #[.cell p 30]) {tmps : Array Value} {w : World} {b : Nat} {v0 v1 v2 v3 v4 v5 : Value} (hp : tmps.getD p undef = .pointer (some ⟨b, 0, none⟩)) (hP : Pag w b v0 v1 v2 v3 v4 v5) :
    (results fn tmps).run Tryz.prog w = .ok (.agg #[v0, v1, v2, v3, v4, v5]) w := by
  have e : (asAddr (.pointer (some ⟨b, 0, none⟩))).run Tryz.prog w = .ok ⟨b, 0, none⟩ w := rfl
  rw [results_cell1 h, hp, e]
  simp only [Result.andThen, load_page hP]
/-- Behind laid's last statement. -/
structure LaidA (w wc : World) (lsn : Int) (g2 : Nat) (S T : ByteArray) : Prop where
  pag : Pag wc w.heap.size (.int .i64 lsn) (.int .i64 1) (.int .i64 0) (.int .i64 0) (.string ⟨#[]⟩) (.slice (some ⟨g2, 0, none⟩) 2 2)
  strs : Strs wc g2 (some ⟨g2, 0, none⟩) [S, T]
  only : Only (fun _ => False) w wc
  new : w.heap.size < g2
theorem LaidA.of {w w9 : World} {lsn : Int} {v0 v1 v2 v3 v4 v5 : Value} {S T : ByteArray} (h : Pag w9 w.heap.size v0 v1 v2 v3 v4 v5) (ho : Only (fun _ => False) w w9) (hs : S.size ≤ 140737488355328) (ht : T.size ≤ 140737488355328) :
    LaidA w (((((((w9.setCell ⟨w.heap.size, 0, none⟩ (.int .i64 lsn)).setCell ⟨w.heap.size, 1, none⟩ (.int .i64 1)).setCell ⟨w.heap.size, 2, none⟩ (.int .i64 0)).setCell ⟨w.heap.size, 3, none⟩ (.int .i64 0)).setCell ⟨w.heap.size, 4, none⟩ (.string ⟨#[]⟩)).setCell ⟨w.heap.size, 5, none⟩ (.slice (some ⟨w9.heap.size, 0, none⟩) 2 2)).alloc (.cells #[.string S, .string T] 9)) lsn w9.heap.size S T := by
  have h6 := Only.six w9 w.heap.size (.int .i64 lsn) (.int .i64 1) (.int .i64 0) (.int .i64 0) (.string ⟨#[]⟩) (.slice (some ⟨w9.heap.size, 0, none⟩) 2 2)
  have hsz : ((((((w9.setCell ⟨w.heap.size, 0, none⟩ (.int .i64 lsn)).setCell ⟨w.heap.size, 1, none⟩ (.int .i64 1)).setCell ⟨w.heap.size, 2, none⟩ (.int .i64 0)).setCell ⟨w.heap.size, 3, none⟩ (.int .i64 0)).setCell ⟨w.heap.size, 4, none⟩ (.string ⟨#[]⟩)).setCell ⟨w.heap.size, 5, none⟩ (.slice (some ⟨w9.heap.size, 0, none⟩) 2 2)).heap.size = w9.heap.size := by simp
  have hS := Strs.two ((((((w9.setCell ⟨w.heap.size, 0, none⟩ (.int .i64 lsn)).setCell ⟨w.heap.size, 1, none⟩ (.int .i64 1)).setCell ⟨w.heap.size, 2, none⟩ (.int .i64 0)).setCell ⟨w.heap.size, 3, none⟩ (.int .i64 0)).setCell ⟨w.heap.size, 4, none⟩ (.string ⟨#[]⟩)).setCell ⟨w.heap.size, 5, none⟩ (.slice (some ⟨w9.heap.size, 0, none⟩) 2 2)) S T hs ht
  rw [hsz] at hS
  exact ⟨(h.six _ _ _ _ _ _).more (onlyA _ _), hS, o2 (ho.trans h6 (fun i hi e => by omega)) (onlyA _ _), h.lt⟩
end Go.Proofs.YtolfmodgkkjnbaaGreat
