/- A disk in memory: its struct, the row of its sectors, the map of the pending ones. -/
import Derived.Test.YtfkcbdiffmacgaaGreatDoorDMod
import Derived.Deep.MidRow
import Derived.Maps.OwnSet
import Derived.Maps.RangeWalk
namespace Go.Proofs.YtfkcbdiffmacgaaGreatDoor
open Go.RowKit Go.Maps

/-- A sector as a value. -/
def sec (l : List UInt8) : Value := .agg (cells l).toArray
theorem cells_inj {l m : List UInt8} (h : cells l = cells m) : l = m := by
  induction l generalizing m with
  | nil => cases m with
    | nil => rfl
    | cons b m => simp [cells] at h
  | cons a l ih => cases m with
    | nil => simp [cells] at h
    | cons b m =>
      simp only [cells, List.map_cons, List.cons.injEq, Value.int.injEq, true_and] at h
      obtain ⟨h1, h2⟩ := h
      rw [ih h2, show a = b from UInt8.toNat_inj.1 (by omega)]
theorem sec_inj {l m : List UInt8} (h : sec l = sec m) : l = m := by
  unfold sec at h
  injection h with h
  exact cells_inj (by simpa using h)
theorem cells_one (l : List UInt8) : ∀ v ∈ cells l, v.oneCell' = true := by
  intro v hv
  simp only [cells, List.mem_map] at hv
  obtain ⟨b, _, rfl⟩ := hv
  rfl
open Classical in
/-- How a sector reads as a map's element. -/
noncomputable def secElem (v : Value) : Option (DataW Unit × List MemPlace) :=
  if h : ∃ l : List UInt8, l.length = 64 ∧ v = sec l then some (.lit (.string h.choose), []) else none
theorem secElem_mk {l : List UInt8} (hl : l.length = 64) : secElem (sec l) = some (.lit (.string l), []) := by
  have h : ∃ m : List UInt8, m.length = 64 ∧ sec l = sec m := ⟨l, hl, rfl⟩
  unfold secElem
  rw [dif_pos h]
  have := h.choose_spec.2
  rw [← sec_inj this]
theorem secElem_inv {v : Value} {z : DataW Unit × List MemPlace} (h : secElem v = some z) : ∃ l : List UInt8, l.length = 64 ∧ v = sec l ∧ z = (.lit (.string l), []) := by
  unfold secElem at h
  split at h
  · rename_i hx
    injection h with h
    exact ⟨hx.choose, hx.choose_spec.1, hx.choose_spec.2, h.symm⟩
  · cases h

/-- The datum of a map of pending sectors. -/
structure FrsD (D : DataW Unit) (n : Nat) (f : Nat → Option (List UInt8)) : Prop where
  key : ∀ kl, Maps.has D kl = true → ∃ k : Nat, k < n ∧ kl = .int .i64 k
  has : ∀ k : Nat, Maps.has D (.int .i64 (k : Int)) = (f k).isSome
  at_ : ∀ (k : Nat) b, f k = some b → ∀ z, D.atKey (.int .i64 (k : Int)) z = .lit (.string b)
def Frs (w : World) (m n : Nat) (f : Nat → Option (List UInt8)) : Prop := ∃ N D, w.ownsMap Tryz.prog 3 secElem m N D ∧ FrsD D n f

theorem keyed : Keyed Tryz.prog 3 := int_keyed Tryz.underlying3
theorem key_ok {k : Nat} (h : k ≤ 65536) : keyOf Tryz.prog 3 (.int .i64 (k : Int)) = some (.int .i64 (k : Int)) := keyOf_int_mk Tryz.underlying3 (WalkArith.wf_i64 (by omega))
theorem Frs.kept {S : Nat → Prop} {w w' : World} {m n : Nat} {f : Nat → Option (List UInt8)} (h : Frs w m n f) (ho : Only S w w') (hS : ¬ S m) : Frs w' m n f := by
  obtain ⟨N, D, ⟨es, clock, hb, F, hs, hD⟩, hf⟩ := h
  exact ⟨N, D, ⟨es, clock, (ho.block m (Array.getElem?_eq_some_iff.1 hb).1 hS).trans hb, F, hs, hD⟩, hf⟩
theorem Frs.lt {w : World} {m n : Nat} {f : Nat → Option (List UInt8)} (h : Frs w m n f) : m < w.heap.size := by
  obtain ⟨N, D, h, _⟩ := h
  exact h.lt
theorem tight {w : World} {m N : Nat} {D : DataW Unit} (h : w.ownsMap Tryz.prog 3 secElem m N D) : w.ownsMap Tryz.prog 3 secElem m (Maps.size D) D := by
  obtain ⟨es, clock, hb, F, hs, rfl⟩ := h
  exact ⟨es, clock, hb, F, by rw [Maps.size_eq, length_sorted]; simp, rfl⟩
theorem FrsD.size_le {w : World} {m N n : Nat} {D : DataW Unit} {f : Nat → Option (List UInt8)} (h : w.ownsMap Tryz.prog 3 secElem m N D) (hf : FrsD D n f) : Maps.size D ≤ n := by
  obtain ⟨es, rfl, hp, hk⟩ := h.entries keyed
  have h1 : (es.map (·.1)).Nodup := List.pairwise_map.2 hp
  have h2 : es.map (·.1) ⊆ (List.range n).map (fun k : Nat => Lit.int .i64 (k : Int)) := by
    intro x hx
    obtain ⟨p, hp', rfl⟩ := List.mem_map.1 hx
    obtain ⟨k, hk1, hk2⟩ := hf.key p.1 (by rw [Maps.has_eq, List.any_eq_true]; exact ⟨p, hp', WideAt.sameKey_self (hk p hp')⟩)
    rw [hk2]
    exact List.mem_map.2 ⟨k, List.mem_range.2 hk1, rfl⟩
  have := h1.length_le_of_subset h2
  simpa [Maps.size_eq] using this
theorem FrsD.put {D : DataW Unit} {n : Nat} {f : Nat → Option (List UInt8)} (hm : Maps.IsMap D) (h : FrsD D n f) {k : Nat} (hk : k < n) (b : List UInt8) :
    FrsD (D.put (.int .i64 (k : Int)) (.lit (.string b))) n (fun j => if j = k then some b else f j) := by
  have kl : WideAt.IsKeyLit (.int .i64 (k : Int)) := trivial
  refine ⟨?_, ?_, ?_⟩
  · intro x hx
    by_cases e : x = .int .i64 (k : Int)
    · exact ⟨k, hk, e⟩
    · rw [Maps.has_put_other e] at hx
      exact h.key x hx
  · intro j
    by_cases e : j = k
    · subst e
      rw [Maps.has_put_same hm kl]
      simp
    · rw [Maps.has_put_other (by simp; omega), h.has j]
      simp [e]
  · intro j x hx z
    by_cases e : j = k
    · subst e
      simp only [if_true] at hx
      cases hx
      rw [Maps.atKey_put_same hm kl]
    · simp only [if_neg e] at hx
      rw [Maps.atKey_put_other (by simp; omega)]
      exact h.at_ j x hx z
theorem FrsD.empty (n : Nat) : FrsD (.map []) n (fun _ => none) := by
  refine ⟨?_, ?_, ?_⟩
  · intro x hx; simp [Maps.has] at hx
  · intro k; simp [Maps.has]
  · intro k b h; cases h

/-- The row of the sectors in block g. -/
structure OldAt (w : World) (g : Nat) (o : List (List UInt8)) : Prop where
  ex : ∃ C, w.heap[g]? = some (.cells C 87 (0, 0)) ∧ C.toList = cells o.flatten
  o64 : ∀ k, k < o.length → (o.getD k []).length = 64
theorem OldAt.kept {S : Nat → Prop} {w w' : World} {g : Nat} {o : List (List UInt8)} (h : OldAt w g o) (ho : Only S w w') (hS : ¬ S g) : OldAt w' g o := by
  obtain ⟨⟨C, hb, hC⟩, h2⟩ := h
  exact ⟨⟨C, (ho.block g (Array.getElem?_eq_some_iff.1 hb).1 hS).trans hb, hC⟩, h2⟩
theorem OldAt.lt {w : World} {g : Nat} {o : List (List UInt8)} (h : OldAt w g o) : g < w.heap.size := by
  obtain ⟨⟨C, hb, _⟩, _⟩ := h
  exact (Array.getElem?_eq_some_iff.1 hb).1
theorem dflat_len (o : List (List UInt8)) (h : ∀ k, k < o.length → (o.getD k []).length = 64) : o.flatten.length = 64 * o.length := by
  induction o with
  | nil => rfl
  | cons a o ih =>
    have h0 := h 0 (by simp)
    have h1 := ih (fun k hk => by simpa using h (k + 1) (by simpa using hk))
    simp at h0
    simp [h0, h1]
    omega
theorem flat_get (o : List (List UInt8)) (h : ∀ k, k < o.length → (o.getD k []).length = 64) (k j : Nat) (hk : k < o.length) (hj : j < 64) : o.flatten[k * 64 + j]? = (o.getD k [])[j]? := by
  induction o generalizing k with
  | nil => simp at hk
  | cons a o ih =>
    have h0 : a.length = 64 := by simpa using h 0 (by simp)
    have h1 : ∀ k, k < o.length → (o.getD k []).length = 64 := fun k hk => by simpa using h (k + 1) (by simpa using hk)
    cases k with
    | zero =>
      simp only [List.flatten_cons, List.getD_cons_zero]
      rw [List.getElem?_append_left (by omega)]
      congr 1
      omega
    | succ k =>
      simp only [List.flatten_cons, List.getD_cons_succ]
      rw [List.getElem?_append_right (by omega), ← ih h1 k (by simpa using hk)]
      congr 1
      omega
theorem OldAt.cell {w : World} {g : Nat} {o : List (List UInt8)} (h : OldAt w g o) {k j : Nat} (hk : k < o.length) (hj : j < 64) : w.cell? ⟨g, k * 64 + j, none⟩ = (cells (o.getD k []))[j]? := by
  obtain ⟨⟨C, hb, hC⟩, h2⟩ := h
  rw [cell_of_row w g _ C _ _ hb, ← Array.getElem?_toList, hC]
  unfold cells
  rw [List.getElem?_map, flat_get o h2 k j hk hj, List.getElem?_map]
theorem OldAt.frozen {w : World} {g : Nat} {o : List (List UInt8)} (h : OldAt w g o) (j : Nat) : w.frozen? ⟨g, j, none⟩ = false := by
  obtain ⟨⟨C, hb, hC⟩, h2⟩ := h
  simp [World.frozen?, hb]
theorem OldAt.range {w : World} {g : Nat} {o : List (List UInt8)} (h : OldAt w g o) {k : Nat} (hk : k < o.length) : w.rangeAt g (k * 64) (cells (o.getD k [])) := by
  intro j v hv
  have hj : j < (cells (o.getD k [])).length := (List.getElem?_eq_some_iff.1 hv).1
  rw [cells_length, h.o64 k hk] at hj
  rw [h.cell hk hj, hv]
theorem OldAt.there {w : World} {g : Nat} {o : List (List UInt8)} (h : OldAt w g o) {k : Nat} (hk : k < o.length) : w.there g (k * 64) 64 := by
  intro j hj
  refine ⟨?_, h.frozen _⟩
  rw [h.cell hk hj, List.getElem?_eq_getElem (by rw [cells_length, h.o64 k hk]; exact hj)]
  rfl
theorem setCells_block (b : Nat) : ∀ (vs : List Value) (o : Nat) (w : World) (C : Array Value) (t : TypeId) (fr : Nat × Nat), w.heap[b]? = some (.cells C t fr) →
    ∃ C' : Array Value, (w.setCells b o vs).heap[b]? = some (.cells C' t fr) ∧ C'.size = C.size
  | [], _, _, C, _, _, h => ⟨C, h, rfl⟩
  | v :: r, o, w, C, t, fr, h => by
    have h1 : (w.setCell ⟨b, o, none⟩ v).heap[b]? = some (.cells (C.set! o v) t fr) := by
      simp [World.setCell, Array.getElem?_modify, h]
    obtain ⟨C', h2, h3⟩ := setCells_block b r (o + 1) _ _ t fr h1
    exact ⟨C', h2, by simpa using h3⟩
theorem Only.setCells {S : Nat → Prop} (b : Nat) (hb : S b) : ∀ (vs : List Value) (o : Nat) (w : World), Only S w (w.setCells b o vs)
  | [], _, _ => Only.refl _ _
  | v :: r, o, w => (Only.setCell w ⟨b, o, none⟩ v hb).trans (Only.setCells b hb r (o + 1) _) (fun _ _ h => h)
theorem OldAt.set {w : World} {g : Nat} {o : List (List UInt8)} (h : OldAt w g o) {k : Nat} (hk : k < o.length) {b : List UInt8} (hb : b.length = 64) : OldAt (w.setCells g (k * 64) (cells b)) g (o.set k b) := by
  have h64 : ∀ j, j < (o.set k b).length → ((o.set k b).getD j []).length = 64 := by
    intro j hj
    rw [getD_set]
    split
    · exact hb
    · exact h.o64 j (by simpa using hj)
  refine ⟨?_, h64⟩
  obtain ⟨C, hC, hl⟩ := h.ex
  obtain ⟨C', h1, h2⟩ := setCells_block g (cells b) (k * 64) w C _ _ hC
  refine ⟨C', h1, ?_⟩
  have hs : C.size = 64 * o.length := by rw [← Array.length_toList, hl, cells_length, dflat_len o h.o64]
  have hs2 : (cells (o.set k b).flatten).length = 64 * o.length := by rw [cells_length, dflat_len _ h64]; simp
  refine List.ext_getElem? (fun i => ?_)
  by_cases hi : i < 64 * o.length
  · have hq : i / 64 < o.length := by omega
    have hr : i % 64 < 64 := by omega
    have hi' : i = i / 64 * 64 + i % 64 := by omega
    have e1 : C'.toList[i]? = (w.setCells g (k * 64) (cells b)).cell? ⟨g, i, none⟩ := by
      rw [cell_of_row _ g i C' _ _ h1, Array.getElem?_toList]
    have e2 : (cells (o.set k b).flatten)[i]? = (cells ((o.set k b).getD (i / 64) []))[i % 64]? := by
      unfold cells
      rw [List.getElem?_map, hi', flat_get _ h64 _ _ (by simpa using hq) hr, List.getElem?_map, ← hi']
    rw [e1, e2, getD_set]
    by_cases e : i / 64 = k
    · rw [if_pos ⟨e, hk⟩]
      have := World.rangeAt_setCells_same w g (k * 64) (cells b) (by rw [cells_length, hb]; exact h.there hk) (i % 64) ((cells b)[i % 64]'(by rw [cells_length, hb]; exact hr)) (List.getElem?_eq_getElem _)
      rw [List.getElem?_eq_getElem (by rw [cells_length, hb]; exact hr), ← this]
      congr 2
      omega
    · rw [if_neg (fun h => e h.1)]
      have := World.cell?_setCells_out g (cells b) (k * 64) w ⟨g, i, none⟩ (fun _ _ => by rw [cells_length, hb]; simp only; omega)
      rw [this, ← h.cell hq hr, ← hi']
  · rw [List.getElem?_eq_none (l := C'.toList) (by rw [Array.length_toList, h2, hs]; omega), List.getElem?_eq_none (by rw [hs2]; omega)]

/-- A disk in memory: its struct in block d, its sectors in block g, its map in block m. -/
structure Dsk (w : World) (d g m : Nat) (D : Dk) : Prop where
  c0 : w.cell? ⟨d, 0, none⟩ = some (.slice (some ⟨g, 0, none⟩) D.old.length D.old.length)
  c1 : w.cell? ⟨d, 1, none⟩ = some (.map (some m))
  c2 : w.cell? ⟨d, 2, none⟩ = some (.int .i64 D.acts)
  c3 : w.cell? ⟨d, 3, none⟩ = some (.int .i64 D.armed)
  c4 : w.cell? ⟨d, 4, none⟩ = some (.bool D.dead)
  fz : ∀ j, w.frozen? ⟨d, j, none⟩ = false
  lt : d < w.heap.size
  old : OldAt w g D.old
  map : Frs w m D.old.length D.fresh
  ok : D.Ok
  ne1 : d ≠ g
  ne2 : d ≠ m
  ne3 : g ≠ m
/-- The blocks of a disk. -/
def own (d g m : Nat) (k : Nat) : Prop := k = d ∨ k = g ∨ k = m
theorem Dsk.kept {S : Nat → Prop} {w w' : World} {d g m : Nat} {D : Dk} (h : Dsk w d g m D) (ho : Only S w w') (h1 : ¬ S d) (h2 : ¬ S g) (h3 : ¬ S m) : Dsk w' d g m D := by
  obtain ⟨c0, c1, c2, c3, c4, fz, lt, old, map, ok, n1, n2, n3⟩ := h
  exact ⟨(ho.cell (p := ⟨d, 0, none⟩) lt h1).trans c0, (ho.cell (p := ⟨d, 1, none⟩) lt h1).trans c1, (ho.cell (p := ⟨d, 2, none⟩) lt h1).trans c2, (ho.cell (p := ⟨d, 3, none⟩) lt h1).trans c3,
    (ho.cell (p := ⟨d, 4, none⟩) lt h1).trans c4, fun j => (ho.frozen (p := ⟨d, j, none⟩) lt h1).trans (fz j), Nat.lt_of_lt_of_le lt ho.size, old.kept ho h2, map.kept ho h3, ok, n1, n2, n3⟩
theorem Dsk.same {w w' : World} {d g m : Nat} {D : Dk} (h : Dsk w d g m D) (ho : Only (fun _ => False) w w') : Dsk w' d g m D := h.kept ho id id id
theorem Dsk.alloc {w : World} {d g m : Nat} {D : Dk} (h : Dsk w d g m D) (o : Obj) : Dsk (w.alloc o) d g m D := h.same (Only.alloc _ _ _)
end Go.Proofs.YtfkcbdiffmacgaaGreatDoor
