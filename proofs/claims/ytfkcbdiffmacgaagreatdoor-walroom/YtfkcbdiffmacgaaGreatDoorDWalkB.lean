/- Sectors as values: made, stored, loaded; what fall makes of two of them. -/
import Derived.Test.YtfkcbdiffmacgaaGreatDoorDWalkA
import Derived.Deep.RegionHeld3
namespace Go.Proofs.YtfkcbdiffmacgaaGreatDoor
open Go.RowKit

theorem zeros_ex : ∃ l : List UInt8, l = List.replicate 64 0 := ⟨_, rfl⟩
/-- A sector of zeros: a word that no unfolding opens. -/
noncomputable def zeros : List UInt8 := Classical.choose zeros_ex
theorem zeros_eq : zeros = List.replicate 64 0 := Classical.choose_spec zeros_ex
theorem zeros_len : zeros.length = 64 := by simp [zeros_eq]
theorem zero_sec (w : World) : (zeroValue 87).run Tryz.prog w = .ok (sec zeros) w := by
  rw [zeros_eq]
  kernel_rfl
theorem Tryz.infoSec : (Tryz.prog.info? 87).map (·.size) = some 64 := by kernel_rfl
/-- A block that holds a sector. -/
def secObj (l : List UInt8) : Obj := .cells (cells l).toArray 87

section
variable (w : World) {ops : Array Oper} {rest : List Oper} {o : Oper} {a : Act} {Q : Exit → Act → World → Prop}
theorem wpList_alloc_sec (hg : o.guard = none) (hop : o.op = .alloc 87)
    (h : wpList Tryz.prog ops Q rest (a.put o.dst (.pointer (some ⟨w.heap.size, 0, none⟩))) (w.alloc (secObj zeros))) : wpList Tryz.prog ops Q (o :: rest) a w := by
  refine wpList_plain hg fun K' hK' => ?_
  unfold Oper.wp
  have e : (Instr.alloc 87 true (.tuple #[])).run Tryz.prog w = .ok (.pointer (some ⟨w.heap.size, 0, none⟩)) (w.alloc (secObj zeros)) := by
    unfold Instr.alloc
    simp only [Sem.run_bind, zero_sec, Result.andThen_ok]
    rfl
  simp only [execOp, hop, Sem.run_bind, e, Result.andThen_ok, Sem.run_pure]
  exact hK' _ _ h
theorem wpList_box_sec (hg : o.guard = none) (x : Operand) (hop : o.op = .box 87 x) (l : List UInt8) (hx : a.eval x = sec l)
    (h : wpList Tryz.prog ops Q rest (a.put o.dst (.pointer (some ⟨w.heap.size, 0, none⟩))) (w.alloc (secObj l))) : wpList Tryz.prog ops Q (o :: rest) a w := by
  refine wpList_plain hg fun K' hK' => ?_
  unfold Oper.wp
  have e : (Instr.box 87 (sec l)).run Tryz.prog w = .ok (.pointer (some ⟨w.heap.size, 0, none⟩)) (w.alloc (secObj l)) := rfl
  simp only [execOp, hop, hx, Sem.run_bind, e, Result.andThen_ok, Sem.run_pure]
  exact hK' _ _ h
theorem wpList_load_sec (hg : o.guard = none) (x : Operand) (hop : o.op = .load 87 x) (b f : Nat) (hx : a.eval x = .pointer (some ⟨b, f, none⟩)) (l : List UInt8) (hl : l.length = 64) (hc : w.rangeAt b f (cells l))
    (h : wpList Tryz.prog ops Q rest (a.put o.dst (sec l)) w) : wpList Tryz.prog ops Q (o :: rest) a w :=
  wpList_load_mid hg 87 x hop b f hx (cells l) _ hc Tryz.underlying87 rfl (by rw [cells_length, hl]; exact Tryz.infoSec) h
theorem wpList_store_sec (hg : o.guard = none) (x y : Operand) (hop : o.op = .store 87 x y) (b f : Nat) (hx : a.eval x = .pointer (some ⟨b, f, none⟩)) (l : List UInt8) (hy : a.eval y = sec l) (hl : l.length = 64) (hc : w.there b f 64)
    (h : wpList Tryz.prog ops Q rest (a.put o.dst undef) (w.setCells b f (cells l))) : wpList Tryz.prog ops Q (o :: rest) a w :=
  wpList_store_mid hg 87 x y hop b f (cells l).toArray hx hy (by simpa [cells_length, hl] using hc) (by simpa [cells_length, hl] using Tryz.infoSec) (all_oneCell_toArray (cells_one l)) h
end
theorem alloc_range (w : World) (l : List UInt8) : (w.alloc (secObj l)).rangeAt w.heap.size 0 (cells l) := by
  intro j v hv
  have h := cell_of_row (w.alloc (secObj l)) w.heap.size (0 + j) (cells l).toArray 87 (0, 0) (heap_alloc_new w _)
  rw [h]
  simpa using hv
theorem alloc_there (w : World) (l : List UInt8) (hl : l.length = 64) : (w.alloc (secObj l)).there w.heap.size 0 64 := by
  intro j hj
  refine ⟨(alloc_range w l).isSome j (by rw [cells_length, hl]; exact hj), ?_⟩
  have h : (w.alloc (secObj l)).heap[w.heap.size]? = some (.cells (cells l).toArray 87 (0, 0)) := heap_alloc_new w _
  unfold World.frozen?
  simp only [h]
  simp
theorem copy_secs (w : World) (b c k : Nat) (o n : List UInt8) (hn : n.length = 64) (hk : k ≤ 64) (hb : w.rangeAt b 0 (cells o)) (ht : w.there b 0 64) (hc : w.rangeAt c 0 (cells n)) :
    (Builtin.copy_ #[60, 60] 3 #[.slice (some ⟨b, 0, none⟩) k 64, .slice (some ⟨c, 0, none⟩) k 64]).run Tryz.prog w = .ok (.int .i64 (k : Int)) (w.setCells b 0 (cells (n.take k)))
    ∧ (w.setCells b 0 (cells (n.take k))).rangeAt b 0 (cells (n.take k ++ o.drop k)) := by
  have hl : (cells (n.take k)).length = k := by rw [cells_length]; simp; omega
  constructor
  · have h := run_copy_cells (P := Tryz.prog) w 60 60 3 5 b 0 k 64 ⟨c, 0, none⟩ k 64 (cells (n.take k)) Tryz.underlying60 (by kernel_rfl) (by rw [hl]; simp)
      (by intro j v hv
          rw [Addr.add_mid]
          refine hc j v ?_
          have e : cells (n.take k) = (cells n).take k := by unfold cells; rw [List.map_take]
          rw [e, List.getElem?_take] at hv
          split at hv
          · exact hv
          · cases hv)
      (fun j hj => (ht j (by omega)).1) (fun j hj => (ht j (by omega)).2) (cells_one _)
    rw [hl] at h
    exact h
  · intro j v hv
    rw [cells_append] at hv
    by_cases hj : j < k
    · rw [List.getElem?_append_left (by omega)] at hv
      exact World.rangeAt_setCells_same w b 0 _ (fun i hi => ht i (by omega)) j v hv
    · rw [List.getElem?_append_right (by omega), hl] at hv
      have e : cells (o.drop k) = (cells o).drop k := by unfold cells; rw [List.map_drop]
      rw [e, List.getElem?_drop] at hv
      rw [World.cell?_setCells_out b _ 0 w _ (fun _ _ => by right; simp only; omega)]
      refine hb j v ?_
      rw [← hv]
      congr 1
      omega

theorem results_sec {fn : Func} {p : Tmp} (h : fn.results = #[.cell p 87]) (tmps : Array Value) (w : World) (b : Nat) (L : List UInt8) (hl : L.length = 64) (hp : tmps[p]?.getD undef = .pointer (some ⟨b, 0, none⟩)) (hc : w.rangeAt b 0 (cells L)) :
    (results fn tmps).run Tryz.prog w = .ok (sec L) w := by
  have hr := run_loadVar_mid (P := Tryz.prog) w b 0 87 (cells L) _ hc Tryz.underlying87 rfl (by rw [cells_length, hl]; exact Tryz.infoSec)
  simp [results, h, hp, hr, sec, asAddr]
theorem fate_int (f q : Int) (hq : q = if f < 0 then -1 - f else f) : (q % 3 = 1 → keeps f = 64) ∧ (q % 3 = 2 → (q / 3 % 65 : Int) = ((keeps f : Nat) : Int)) ∧ (q % 3 ≠ 1 → q % 3 ≠ 2 → keeps f = 0) := by
  unfold keeps keptOf
  rw [← hq]
  refine ⟨fun h => by rw [if_pos h], fun h => ?_, fun h1 h2 => by rw [if_neg h1, if_neg h2]⟩
  rw [if_neg (by omega), if_pos h]
  omega
end Go.Proofs.YtfkcbdiffmacgaaGreatDoor
