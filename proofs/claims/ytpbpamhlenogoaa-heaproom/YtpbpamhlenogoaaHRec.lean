/- A record of a page of versions: stored, loaded and built whole. -/
import Derived.Test.YtpbpamhlenogoaaHPure
import Derived.Deep.MidRow
import Derived.Laws.Tables
namespace Go.Proofs.Ytpbpamhlenogoaa
open Go.RowKit

/-- A record of an Insert or a Mark. -/
structure Hr where
  kind : Int
  xid : Int
  page : Int
  slot : Int
  old : Int
  new : Int
  data : ByteArray
abbrev Hr.none : Hr := ⟨0, 0, 0, 0, 0, 0, ⟨#[]⟩⟩
abbrev Hr.cells (r : Hr) : Array Value :=
  #[.int .i64 0, .int .i64 0, .int .i64 0, .int .u8 r.kind, .int .i64 r.xid, .int .i64 r.page, .int .i64 r.slot, .int .i64 r.old, .int .i64 r.new, .int .i64 0, .string r.data,
    .slice Option.none 0 0, .slice Option.none 0 0, .slice Option.none 0 0, .slice Option.none 0 0, .slice Option.none 0 0]
/-- A record's cells as a list. -/
def Hr.cl (r : Hr) : List Value := r.cells.toList
theorem Try.sizeRecH : (Try.prog.info? 34).map (·.size) = some 16 := by kernel_rfl
theorem only_setCellsH (b : Nat) (vs : List Value) (o : Nat) (w : World) : Only (fun k => k = b) w (w.setCells b o vs) := by
  induction vs generalizing o w with
  | nil => exact Only.refl _ _
  | cons v r ih =>
    rw [World.setCells]
    exact (Only.setCell (S := fun k => k = b) w ⟨b, o, none⟩ v rfl).trans (ih (o + 1) _) (fun _ _ h => h)
/-- A record's block: its cells, and that they may be written. -/
structure Hb (w : World) (b : Nat) (r : Hr) : Prop where
  range : w.rangeAt b 0 r.cl
  there : w.there b 0 16
  lt : b < w.heap.size
theorem Hb.new (w : World) (r : Hr) : Hb (w.alloc (.cells r.cells 34)) w.heap.size r :=
  ⟨fun j v hv => by rw [Nat.zero_add]; simpa [Hr.cl] using hv, fun j hj => by rw [Nat.zero_add]; exact ⟨by simpa using hj, by simp⟩, by simp⟩
theorem Hb.kept {S : Nat → Prop} {w w' : World} {b : Nat} {r : Hr} (h : Hb w b r) (ho : Only S w w') (hS : ¬ S b) : Hb w' b r :=
  ⟨fun j v hv => (ho.cell (p := ⟨b, 0 + j, none⟩) h.lt hS).trans (h.range j v hv), fun j hj => by
    obtain ⟨h1, h2⟩ := h.there j hj
    exact ⟨by rw [ho.cell (p := ⟨b, 0 + j, none⟩) h.lt hS]; exact h1, by rw [ho.frozen (p := ⟨b, 0 + j, none⟩) h.lt hS]; exact h2⟩, Nat.lt_of_lt_of_le h.lt ho.size⟩
theorem Hb.more {w w' : World} {b : Nat} {r : Hr} (h : Hb w b r) (ho : Only (fun _ => False) w w') : Hb w' b r := h.kept ho (fun h => h)
theorem Hb.cell {w : World} {b : Nat} {r : Hr} (h : Hb w b r) (j : Nat) (v : Value) (hv : r.cl[j]? = some v) : w.cell? ⟨b, j, none⟩ = some v := by
  have := h.range j v hv
  rwa [Nat.zero_add] at this
theorem Hb.load {w : World} {b : Nat} {r : Hr} (h : Hb w b r) : (loadVar 34 ⟨b, 0, none⟩).run Try.prog w = .ok (.agg r.cells) w :=
  run_loadVar_mid (P := Try.prog) w b 0 34 r.cl _ h.range Try.underlying34 rfl Try.sizeRecH
theorem Hb.set {w : World} {b : Nat} {q : Hr} (h : Hb w b q) (r : Hr) : Hb (w.setCells b 0 r.cl) b r ∧ Only (fun k => k = b) w (w.setCells b 0 r.cl) := by
  have hr := World.rangeAt_setCells_same w b 0 r.cl (h.there)
  have hs : (w.setCells b 0 r.cl).heap.size = w.heap.size := by
    have go : ∀ (vs : List Value) (o : Nat) (w : World), (w.setCells b o vs).heap.size = w.heap.size := by
      intro vs
      induction vs with
      | nil => intro o w; rfl
      | cons v r ih => intro o w; rw [World.setCells, ih]; simp
    exact go _ _ _
  have hf : ∀ (vs : List Value) (o : Nat) (w : World) (p : Addr), (w.setCells b o vs).frozen? p = w.frozen? p := by
    intro vs
    induction vs with
    | nil => intro o w p; rfl
    | cons v r ih => intro o w p; rw [World.setCells, ih]; simp
  refine ⟨⟨hr, fun j hj => ?_, by rw [hs]; exact h.lt⟩, only_setCellsH _ _ _ _⟩
  have hj' : j < r.cl.length := hj
  exact ⟨by rw [hr j _ (List.getElem?_eq_getElem hj')]; rfl, by rw [hf]; exact (h.there j hj).2⟩
/-- A record was stored into block b. -/
structure StoH (w W : World) (b : Nat) (r : Hr) : Prop where
  only : Only (fun k => k = b) w W
  at_ : Hb W b r
section
variable {ops : Array Oper} {rest : List Oper} {o : Oper} {a : Act} {w : World} {Q : Exit → Act → World → Prop}
theorem wpList_put_hr (hg : o.guard = none) (x y : Operand) (hop : o.op = .store 34 x y) (b : Nat) (hx : a.eval x = .pointer (some ⟨b, 0, none⟩)) (q r : Hr) (hy : a.eval y = .agg r.cells) (hc : Hb w b q)
    (h : ∀ W, Hid (StoH w W b r) → wpList Try.prog ops Q rest (a.put o.dst undef) W) : wpList Try.prog ops Q (o :: rest) a w :=
  wpList_store_mid hg 34 x y hop b 0 r.cells hx hy hc.there Try.sizeRecH (by simp [Value.oneCell']) (h _ ⟨(hc.set r).2, (hc.set r).1⟩)
theorem wpList_load_hr (hg : o.guard = none) (x : Operand) (hop : o.op = .load 34 x) (b : Nat) (hx : a.eval x = .pointer (some ⟨b, 0, none⟩)) (r : Hr) (hc : Hb w b r)
    (h : wpList Try.prog ops Q rest (a.put o.dst (.agg r.cells)) w) : wpList Try.prog ops Q (o :: rest) a w :=
  wpList_load_mid hg 34 x hop b 0 hx r.cl _ hc.range Try.underlying34 rfl Try.sizeRecH h
end
theorem run_build_hnone (w : World) : (Instr.build 34 #[]).run Try.prog w = .ok (.agg Hr.none.cells) w := run_build w 34 #[] _ (by kernel_rfl)
section
variable {ops : Array Oper} {rest : List Oper} {o : Oper} {a : Act} {w : World} {Q : Exit → Act → World → Prop}
theorem wpList_build_hnone (hg : o.guard = none) (hop : o.op = .build 34 #[]) (h : wpList Try.prog ops Q rest (a.put o.dst (.agg Hr.none.cells)) w) : wpList Try.prog ops Q (o :: rest) a w := by
  refine wpList_plain hg fun K hK => ?_
  unfold Oper.wp execOp
  simp only [hop, Array.map_empty, Sem.run_bind, Sem.run_pure, Result.andThen_ok, run_build_hnone]
  exact hK _ _ h
end
theorem run_build_ins (w : World) (x p s : Int) (d : ByteArray) : (Instr.build 34 #[(3, .int .u8 1), (4, .int .i64 x), (5, .int .i64 p), (6, .int .i64 s), (10, .string d)]).run Try.prog w = .ok (.agg (Hr.cells ⟨1, x, p, s, 0, 0, d⟩)) w := run_build w 34 _ _ (by kernel_rfl)
theorem run_build_mark (w : World) (x p s o n : Int) : (Instr.build 34 #[(3, .int .u8 2), (4, .int .i64 x), (5, .int .i64 p), (6, .int .i64 s), (7, .int .i64 o), (8, .int .i64 n)]).run Try.prog w = .ok (.agg (Hr.cells ⟨2, x, p, s, o, n, ⟨#[]⟩⟩)) w := run_build w 34 _ _ (by kernel_rfl)
section
variable {ops : Array Oper} {rest : List Oper} {o : Oper} {a : Act} {w : World} {Q : Exit → Act → World → Prop}
theorem wpList_build_ins (hg : o.guard = none) (a4 a5 a6 a10 : Operand) (hop : o.op = .build 34 #[(3, .const (.int .u8 1)), (4, a4), (5, a5), (6, a6), (10, a10)]) (x p s : Int) (d : ByteArray) (h4 : a.eval a4 = .int .i64 x) (h5 : a.eval a5 = .int .i64 p) (h6 : a.eval a6 = .int .i64 s) (h10 : a.eval a10 = .string d)
    (h : wpList Try.prog ops Q rest (a.put o.dst (.agg (Hr.cells ⟨1, x, p, s, 0, 0, d⟩))) w) : wpList Try.prog ops Q (o :: rest) a w := by
  refine wpList_plain hg fun K hK => ?_
  unfold Oper.wp execOp
  have e : (#[(3, Operand.const (.int .u8 1)), (4, a4), (5, a5), (6, a6), (10, a10)] : Array (Nat × Operand)).map (fun x => (x.1, a.eval x.2)) = #[(3, .int .u8 1), (4, .int .i64 x), (5, .int .i64 p), (6, .int .i64 s), (10, .string d)] := by
    simp only [List.map_toArray, List.map_cons, List.map_nil, h4, h5, h6, h10]
    rfl
  simp only [hop, e, Sem.run_bind, Sem.run_pure, Result.andThen_ok, run_build_ins]
  exact hK _ _ h
theorem wpList_build_mark (hg : o.guard = none) (a4 a5 a6 a7 a8 : Operand) (hop : o.op = .build 34 #[(3, .const (.int .u8 2)), (4, a4), (5, a5), (6, a6), (7, a7), (8, a8)]) (x p s u n : Int) (h4 : a.eval a4 = .int .i64 x) (h5 : a.eval a5 = .int .i64 p) (h6 : a.eval a6 = .int .i64 s) (h7 : a.eval a7 = .int .i64 u) (h8 : a.eval a8 = .int .i64 n)
    (h : wpList Try.prog ops Q rest (a.put o.dst (.agg (Hr.cells ⟨2, x, p, s, u, n, ⟨#[]⟩⟩))) w) : wpList Try.prog ops Q (o :: rest) a w := by
  refine wpList_plain hg fun K hK => ?_
  unfold Oper.wp execOp
  have e : (#[(3, Operand.const (.int .u8 2)), (4, a4), (5, a5), (6, a6), (7, a7), (8, a8)] : Array (Nat × Operand)).map (fun x => (x.1, a.eval x.2)) = #[(3, .int .u8 2), (4, .int .i64 x), (5, .int .i64 p), (6, .int .i64 s), (7, .int .i64 u), (8, .int .i64 n)] := by
    simp only [List.map_toArray, List.map_cons, List.map_nil, h4, h5, h6, h7, h8]
    rfl
  simp only [hop, e, Sem.run_bind, Sem.run_pure, Result.andThen_ok, run_build_mark]
  exact hK _ _ h
end
theorem results_hr {fn : Func} {p u : Tmp} (h : fn.results = #[.cell p 34, .tmp u]) {tmps : Array Value} {w : World} {b : Nat} {r : Hr} (hp : tmps.getD p undef = .pointer (some ⟨b, 0, none⟩)) (hP : Hb w b r) :
    (results fn tmps).run Try.prog w = .ok (.tuple #[.agg r.cells, tmps.getD u undef]) w := by
  have e : (asAddr (.pointer (some ⟨b, 0, none⟩))).run Try.prog w = .ok ⟨b, 0, none⟩ w := rfl
  rw [results_cell_tmp h, hp, e]
  simp only [Result.andThen, hP.load]
end Go.Proofs.Ytpbpamhlenogoaa
