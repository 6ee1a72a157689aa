/- What DiskLasts leans on: rows of texts; what a crash leaves of a sector. -/
import Derived.Test.YtedanlbbpfaleaaDDies
namespace Go.Proofs.Ytedanlbbpfaleaa
open Go.RowKit

/-- A row of texts in block g. -/
def SRow (w : World) (g : Nat) (l : List ByteArray) : Prop := ∃ C, w.heap[g]? = some (.cells C 9 (0, 0)) ∧ C.toList = l.map Value.string
theorem SRow.kept {S : Nat → Prop} {w w' : World} {g : Nat} {l : List ByteArray} (h : SRow w g l) (ho : Only S w w') (hS : ¬ S g) : SRow w' g l := by
  obtain ⟨C, hb, hC⟩ := h
  exact ⟨C, (ho.block g (Array.getElem?_eq_some_iff.1 hb).1 hS).trans hb, hC⟩
theorem SRow.lt {w : World} {g : Nat} {l : List ByteArray} (h : SRow w g l) : g < w.heap.size := by
  obtain ⟨C, hb, _⟩ := h
  exact (Array.getElem?_eq_some_iff.1 hb).1
theorem SRow.cell {w : World} {g : Nat} {l : List ByteArray} (h : SRow w g l) {j : Nat} (hj : j < l.length) : w.cell? ⟨g, j, none⟩ = some (.string (l.getD j ByteArray.empty)) := by
  obtain ⟨C, hb, hC⟩ := h
  rw [cell_of_row w g _ C _ _ hb, ← Array.getElem?_toList, hC]
  simp [List.getD_eq_getElem?_getD, hj]
theorem SRow.frozen {w : World} {g : Nat} {l : List ByteArray} (h : SRow w g l) (j : Nat) : w.frozen? ⟨g, j, none⟩ = false := by
  obtain ⟨C, hb, hC⟩ := h
  simp [World.frozen?, hb]
theorem SRow.set {w : World} {g : Nat} {l : List ByteArray} (h : SRow w g l) (j : Nat) (s : ByteArray) : SRow (w.setCell ⟨g, j, none⟩ (.string s)) g (l.set j s) ∧ Only (fun i => i = g) w (w.setCell ⟨g, j, none⟩ (.string s)) := by
  obtain ⟨C, hb, hC⟩ := h
  refine ⟨⟨C.set! j (.string s), ?_, ?_⟩, Only.setCell (S := fun i => i = g) w ⟨g, j, none⟩ _ rfl⟩
  · simp [World.setCell, Array.getElem?_modify, hb]
  · simp [hC, List.map_set]
theorem Try.infoStr : (Try.prog.info? 9).map (fun i => (i.zero, i.size, i.bytes)) = some (some (.string ⟨#[]⟩), 1, 16) := by kernel_rfl
theorem srow_made (w : World) : ∃ w', (Instr.makeSlice 45 (.int .i64 24) (.int .i64 24)).run Try.prog w = .ok (.slice (some ⟨w.heap.size, 0, none⟩) 24 24) w' ∧ SRow w' w.heap.size (List.replicate 24 ⟨#[]⟩) ∧ Only (fun _ => False) w w' := by
  obtain ⟨i0, hi, hz0, hz1, hz2⟩ := info_parts Try.infoStr
  have hmk := run_make (P := Try.prog) w 45 9 i0 _ Try.underlying45 hi hz0 .i64 .i64 24 24 (by omega) (Int.le_refl _) (by rw [hz2]; omega) (by omega)
  rw [hz1] at hmk
  refine ⟨_, hmk, ⟨_, heap_alloc_new w _, ?_⟩, Only.alloc _ _ _⟩
  have e : (Value.string ⟨#[]⟩).cells = (List.replicate 1 (Value.string ⟨#[]⟩)).toArray := rfl
  have := made_rep 24 1 (Value.string ⟨#[]⟩) (by omega)
  rw [e]
  show (madeCells (List.replicate 1 (Value.string ⟨#[]⟩)).toArray (24 * 1)).toList = _
  rw [this]
  simp
theorem srow_copied {w : World} {b c : Nat} {l m : List ByteArray} (hb : SRow w b l) (hc : SRow w c m) (hl : l.length = 24) (hm : m.length = 24) :
    ∃ w', (∀ ty, (Builtin.copy_ #[45, 45] ty #[.slice (some ⟨b, 0, none⟩) 24 24, .slice (some ⟨c, 0, none⟩) 24 24]).run Try.prog w = .ok (.int .i64 24) w') ∧ SRow w' b m ∧ Only (fun i => i = b) w w' := by
  have hcs : ∀ j v, (m.map Value.string)[j]? = some v → w.cell? ((⟨c, 0, none⟩ : Addr).add j) = some v := by
    intro j v hv
    rw [Addr.add_mid]
    have hj : j < m.length := by
      have := (List.getElem?_eq_some_iff.1 hv).1
      simpa using this
    have := hc.cell hj
    simp only [Nat.zero_add]
    rw [this, ← hv]
    simp [List.getD_eq_getElem?_getD, hj]
  have hml : (m.map Value.string).length = 24 := by simpa using hm
  refine ⟨w.setCells b 0 (m.map Value.string), fun ty => ?_, ?_, Only.setCells (S := fun i => i = b) b rfl _ _ _⟩
  · have h := run_copy_cells (P := Try.prog) w 45 45 ty 9 b 0 24 24 ⟨c, 0, none⟩ 24 24 (m.map Value.string) Try.underlying45 (by kernel_rfl) (by rw [hml]; rfl) hcs
      (fun j hj => by rw [hml] at hj; simp only [Nat.zero_add]; rw [hb.cell (by omega)]; rfl) (fun j _ => hb.frozen _) (by intro v hv; obtain ⟨s, _, rfl⟩ := List.mem_map.1 hv; rfl)
    rw [hml] at h
    exact h
  · obtain ⟨C, hC, hCl⟩ := hb
    obtain ⟨C', h1, h2⟩ := setCells_block b (m.map Value.string) 0 w C _ _ hC
    refine ⟨C', h1, List.ext_getElem? (fun i => ?_)⟩
    have hcs2 : C.size = 24 := by rw [← Array.length_toList, hCl]; simpa using hl
    by_cases hi : i < 24
    · have e1 : C'.toList[i]? = (w.setCells b 0 (m.map Value.string)).cell? ⟨b, i, none⟩ := by rw [cell_of_row _ b i C' _ _ h1, Array.getElem?_toList]
      have e2 := World.cell?_setCells_in b (m.map Value.string) 0 w (fun j hj => by
        rw [hml] at hj
        rw [cell_of_row w b _ C _ _ hC]
        simp [hcs2, hj]) i (by rw [hml]; exact hi)
      rw [Nat.zero_add] at e2
      rw [e1, e2, List.getElem?_eq_getElem (by rw [hml]; exact hi)]
    · rw [List.getElem?_eq_none (l := C'.toList) (by rw [Array.length_toList, h2, hcs2]; omega), List.getElem?_eq_none (by rw [hml]; omega)]
/-- What the fates leave of a sector: a beginning of the new bytes and the end of the old ones. -/
theorem falls_get (f : Nat → Option (List UInt8)) (how : List Int) (p : List Nat) (i : Nat) (o : List (List UInt8)) (hp : p.Pairwise (· < ·)) (hl : ∀ k ∈ p, k < o.length) (k : Nat) :
    ∃ b, b ≤ 64 ∧ (falls f how p i o).getD k [] = if k ∈ p then ((f k).getD []).take b ++ (o.getD k []).drop b else o.getD k [] := by
  induction p generalizing i o with
  | nil => exact ⟨0, by omega, by simp [falls]⟩
  | cons a r ih =>
    obtain ⟨h1, h2⟩ := List.pairwise_cons.1 hp
    obtain ⟨b, hb, e⟩ := ih (i + 1) (o.set a (fell (o.getD a []) ((f a).getD []) (how.getD i 0))) h2 (fun x hx => by simpa using hl x (by simp [hx]))
    show ∃ b, b ≤ 64 ∧ (falls f how r (i + 1) _).getD k [] = _
    rw [e]
    have ha : a < o.length := hl a (by simp)
    by_cases hk : k = a
    · subst hk
      have hn : ¬ k ∈ r := fun hx => by have := h1 k hx; omega
      refine ⟨keeps (how.getD i 0), keeps_le _, ?_⟩
      rw [if_neg hn, getD_set, if_pos ⟨rfl, ha⟩, if_pos (by simp)]
      rfl
    · refine ⟨b, hb, ?_⟩
      have hg : (o.set a (fell (o.getD a []) ((f a).getD []) (how.getD i 0))).getD k [] = o.getD k [] := by rw [getD_set, if_neg (fun h => hk h.1)]
      rw [hg]
      by_cases hr : k ∈ r
      · rw [if_pos hr, if_pos (by simp [hr])]
      · rw [if_neg hr, if_neg (by simp [hr, hk])]
theorem crash_get (D : Dk) (how : List Int) (k : Nat) : ∃ b, b ≤ 64 ∧ (D.crash how).cur k = (D.cur k).take b ++ (D.old.getD k []).drop b := by
  obtain ⟨b, hb, e⟩ := falls_get D.fresh how D.pend 0 D.old (pend_sorted D) (fun x hx => (mem_pend.1 hx).1) k
  have e2 : (D.crash how).cur k = (falls D.fresh how D.pend 0 D.old).getD k [] := rfl
  rw [e2, e]
  by_cases hm : k ∈ D.pend
  · refine ⟨b, hb, ?_⟩
    rw [if_pos hm]
    obtain ⟨c, hc⟩ := Option.isSome_iff_exists.1 (mem_pend.1 hm).2
    unfold Dk.cur
    rw [hc]
    rfl
  · refine ⟨0, by omega, ?_⟩
    rw [if_neg hm]
    simp
end Go.Proofs.Ytedanlbbpfaleaa
