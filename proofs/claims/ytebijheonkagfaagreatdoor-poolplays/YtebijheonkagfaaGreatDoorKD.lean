/- What Sync does. -/
import Derived.Test.YtebijheonkagfaaGreatDoorKBa
import Derived.Deep.MidRow
import Derived.Maps.OwnSet
import Derived.Maps.RangeWalk
import Derived.Deep.RegionHeld3
import Derived.Lib.LazyBuf
namespace Go.Proofs.YtebijheonkagfaaGreatDoor
open Go.RowKit
structure Dk where
  old : List (List UInt8)
  fresh : Nat → Option (List UInt8)
  acts : Int
  armed : Int
  dead : Bool
structure Dk.Ok (D : Dk) : Prop where
  lo : 1 ≤ D.old.length
  hi : D.old.length ≤ 65536
  o64 : ∀ k, k < D.old.length → (D.old.getD k []).length = 64
  f64 : ∀ k b, D.fresh k = some b → k < D.old.length ∧ b.length = 64
  arm0 : 0 ≤ D.armed
  arm1 : D.armed < 9223372036854775808
def Dk.cur (D : Dk) (k : Nat) : List UInt8 := (D.fresh k).getD (D.old.getD k [])
def Dk.act (D : Dk) : Dk := { D with acts := wrap64 (D.acts + 1), armed := if D.armed = 0 then 0 else D.armed - 1, dead := if D.armed = 0 then D.dead else decide (D.armed = 1) }
def Dk.put (D : Dk) (k : Nat) (b : List UInt8) : Dk := { D with fresh := fun j => if j = k then some b else D.fresh j }
def Dk.writes (D : Dk) (k : Nat) : List (List UInt8) → Dk × Int
  | [] => (D, 0)
  | b :: r => if D.armed = 1 then ((D.put k b).act, 5) else Dk.writes (D.put k b).act (k + 1) r
def chunks : Nat → List UInt8 → List (List UInt8)
  | 0, _ => []
  | n + 1, l => l.take 64 :: chunks n (l.drop 64)
def hasB (n : Nat) (a m : Int) : Bool := decide (0 ≤ a) && (decide (0 ≤ m) && decide (m ≤ (n : Int) - a))
def Dk.write (D : Dk) (a : Int) (l : List UInt8) : Dk × Int :=
  if D.dead then (D, 5) else if l.length % 64 = 0 ∧ hasB D.old.length a ((l.length / 64 : Nat) : Int) = true then D.writes a.toNat (chunks (l.length / 64) l) else (D, 20)
def Dk.synced (D : Dk) : Dk := { D with old := (List.range D.old.length).map D.cur, fresh := fun _ => none }
def Dk.sync (D : Dk) : Dk × Int :=
  if D.dead then (D, 5) else if D.armed = 1 then (D.act, 5) else (D.act.synced, 0)
def Dk.arm (D : Dk) (n : Int) : Dk × Int :=
  if D.dead then (D, 5) else if n < 0 then (D, 1) else ({ D with armed := n }, 0)
def Dk.bytes (D : Dk) (k n : Nat) : List UInt8 := ((List.range n).map fun i => D.cur (k + i)).flatten
def Dk.read (D : Dk) (a m : Int) : List UInt8 × Int :=
  if D.dead then ([], 5) else if hasB D.old.length a m = true then (D.bytes a.toNat m.toNat, 0) else ([], 20)
theorem getD_set (l : List (List UInt8)) (k j : Nat) (b : List UInt8) : (l.set k b).getD j [] = if j = k ∧ k < l.length then b else l.getD j [] := by
  simp only [List.getD_eq_getElem?_getD, List.getElem?_set]
  by_cases h : k = j
  · subst h
    by_cases h2 : k < l.length
    · simp [h2]
    · simp [h2]
  · have : ¬ j = k := fun e => h e.symm
    simp [h, this]
theorem chunks_len (n : Nat) (l : List UInt8) : (chunks n l).length = n := by
  induction n generalizing l with
  | zero => rfl
  | succ n ih => simp [chunks, ih]
theorem chunks_get (n : Nat) (l : List UInt8) (i : Nat) (hi : i < n) : (chunks n l)[i]? = some ((l.drop (64 * i)).take 64) := by
  induction n generalizing l i with
  | zero => omega
  | succ n ih =>
    cases i with
    | zero => simp [chunks]
    | succ i =>
      simp only [chunks, List.getElem?_cons_succ]; rw [ih (l.drop 64) i (by omega), List.drop_drop]
      congr 3
      omega
theorem chunks_drop (n : Nat) (l : List UInt8) (i : Nat) (hi : i < n) : (chunks n l).drop i = (l.drop (64 * i)).take 64 :: (chunks n l).drop (i + 1) := by
  have hl := chunks_len n l; rw [List.drop_eq_getElem_cons (by omega)]
  congr 1
  have := chunks_get n l i hi; rw [List.getElem?_eq_getElem (by omega)] at this
  exact Option.some.inj this
theorem Dk.Ok.put {D : Dk} (h : D.Ok) {k : Nat} {b : List UInt8} (hk : k < D.old.length) (hb : b.length = 64) : (D.put k b).Ok := by
  obtain ⟨a, b', c, d, e, f⟩ := h; refine ⟨a, b', c, ?_, e, f⟩; intro j x hx; simp only [Dk.put] at hx ⊢
  split at hx
  · rename_i hj
    cases hx
    exact ⟨by omega, hb⟩
  · exact d j x hx
theorem Dk.Ok.cur64 {D : Dk} (h : D.Ok) {k : Nat} (hk : k < D.old.length) : (D.cur k).length = 64 := by
  unfold Dk.cur
  cases hf : D.fresh k with
  | none => simpa using h.o64 k hk
  | some b => simpa using (h.f64 k b hf).2
theorem Dk.Ok.synced {D : Dk} (h : D.Ok) : D.synced.Ok := by
  refine ⟨by simpa [Dk.synced] using h.lo, by simpa [Dk.synced] using h.hi, ?_, ?_, h.arm0, h.arm1⟩
  · intro k hk
    have hk' : k < D.old.length := by simpa [Dk.synced] using hk
    simp only [Dk.synced, List.getD_eq_getElem?_getD, List.getElem?_map, List.getElem?_range hk', Option.map_some, Option.getD_some]
    exact h.cur64 hk'
  · intro k b hb
    simp [Dk.synced] at hb
def Dk.new (n : Nat) : Dk := { old := List.replicate n (List.replicate 64 0), fresh := fun _ => none, acts := 0, armed := 0, dead := false }
theorem Dk.new_ok {n : Nat} (h1 : 1 ≤ n) (h2 : n ≤ 65536) : (Dk.new n).Ok := by
  refine ⟨by simpa [Dk.new] using h1, by simpa [Dk.new] using h2, ?_, by simp [Dk.new], by simp [Dk.new], by simp [Dk.new]⟩; intro k hk
  have : k < n := by simpa [Dk.new] using hk
  simp [Dk.new, List.getD_eq_getElem?_getD, this]
end Go.Proofs.YtebijheonkagfaaGreatDoor
namespace Go.Proofs.YtebijheonkagfaaGreatDoor
open Go.RowKit Go.Maps
def sec (l : List UInt8) : Value := .agg (cells l).toArray
theorem cells_inj {l m : List UInt8} (h : cells l = cells m) : l = m := by
  induction l generalizing m with
  | nil => cases m with
    | nil => rfl
    | cons b m => simp [cells] at h
  | cons a l ih => cases m with
    | nil => simp [cells] at h
    | cons b m =>
      simp only [cells, List.map_cons, List.cons.injEq, Value.int.injEq, true_and] at h; obtain ⟨h1, h2⟩ := h; rw [ih h2, show a = b from UInt8.toNat_inj.1 (by omega)]
theorem sec_inj {l m : List UInt8} (h : sec l = sec m) : l = m := by
  unfold sec at h
  injection h with h
  exact cells_inj (by simpa using h)
theorem cells_one (l : List UInt8) : ∀ v ∈ cells l, v.oneCell' = true := by
  intro v hv; simp only [cells, List.mem_map] at hv; obtain ⟨b, _, rfl⟩ := hv
  rfl
open Classical in
noncomputable def secElem (v : Value) : Option (DataW Unit × List MemPlace) :=
  if h : ∃ l : List UInt8, l.length = 64 ∧ v = sec l then some (.lit (.string h.choose), []) else none
theorem secElem_mk {l : List UInt8} (hl : l.length = 64) : secElem (sec l) = some (.lit (.string l), []) := by
  have h : ∃ m : List UInt8, m.length = 64 ∧ sec l = sec m := ⟨l, hl, rfl⟩; unfold secElem; rw [dif_pos h]; have := h.choose_spec.2; rw [← sec_inj this]
theorem secElem_inv {v : Value} {z : DataW Unit × List MemPlace} (h : secElem v = some z) : ∃ l : List UInt8, l.length = 64 ∧ v = sec l ∧ z = (.lit (.string l), []) := by
  unfold secElem at h
  split at h
  · rename_i hx
    injection h with h
    exact ⟨hx.choose, hx.choose_spec.1, hx.choose_spec.2, h.symm⟩
  · cases h
structure FrsD (D : DataW Unit) (n : Nat) (f : Nat → Option (List UInt8)) : Prop where
  key : ∀ kl, Maps.has D kl = true → ∃ k : Nat, k < n ∧ kl = .int .i64 k
  has : ∀ k : Nat, Maps.has D (.int .i64 (k : Int)) = (f k).isSome
  at_ : ∀ (k : Nat) b, f k = some b → ∀ z, D.atKey (.int .i64 (k : Int)) z = .lit (.string b)
def Frs (w : World) (m n : Nat) (f : Nat → Option (List UInt8)) : Prop := ∃ N D, w.ownsMap Tryz.prog 3 secElem m N D ∧ FrsD D n f
theorem keyed : Keyed Tryz.prog 3 := int_keyed Tryz.underlying3
theorem key_ok {k : Nat} (h : k ≤ 65536) : keyOf Tryz.prog 3 (.int .i64 (k : Int)) = some (.int .i64 (k : Int)) := keyOf_int_mk Tryz.underlying3 (WalkArith.wf_i64 (by omega))
theorem Frs.kept {S : Nat → Prop} {w w' : World} {m n : Nat} {f : Nat → Option (List UInt8)} (h : Frs w m n f) (ho : Only S w w') (hS : ¬ S m) : Frs w' m n f := by
  obtain ⟨N, D, ⟨es, clock, hb, F, hs, hD⟩, hf⟩ := h
  exact ⟨N, D, ⟨es, clock, (ho.block m (Array.getElem?_eq_some_iff.1 hb).1 hS).trans hb, F, hs, hD⟩, hf⟩
theorem Frs.lt {w : World} {m n : Nat} {f : Nat → Option (List UInt8)} (h : Frs w m n f) : m < w.heap.size := by
  obtain ⟨N, D, h, _⟩ := h
  exact h.lt
theorem tight {w : World} {m N : Nat} {D : DataW Unit} (h : w.ownsMap Tryz.prog 3 secElem m N D) : w.ownsMap Tryz.prog 3 secElem m (Maps.size D) D := by
  obtain ⟨es, clock, hb, F, hs, rfl⟩ := h
  exact ⟨es, clock, hb, F, by rw [Maps.size_eq, length_sorted]; simp, rfl⟩
theorem FrsD.size_le {w : World} {m N n : Nat} {D : DataW Unit} {f : Nat → Option (List UInt8)} (h : w.ownsMap Tryz.prog 3 secElem m N D) (hf : FrsD D n f) : Maps.size D ≤ n := by
  obtain ⟨es, rfl, hp, hk⟩ := h.entries keyed; have h1 : (es.map (·.1)).Nodup := List.pairwise_map.2 hp
  have h2 : es.map (·.1) ⊆ (List.range n).map (fun k : Nat => Lit.int .i64 (k : Int)) := by
    intro x hx; obtain ⟨p, hp', rfl⟩ := List.mem_map.1 hx; obtain ⟨k, hk1, hk2⟩ := hf.key p.1 (by rw [Maps.has_eq, List.any_eq_true]; exact ⟨p, hp', WideAt.sameKey_self (hk p hp')⟩); rw [hk2]
    exact List.mem_map.2 ⟨k, List.mem_range.2 hk1, rfl⟩
  have := h1.length_le_of_subset h2
  simpa [Maps.size_eq] using this
theorem FrsD.put {D : DataW Unit} {n : Nat} {f : Nat → Option (List UInt8)} (hm : Maps.IsMap D) (h : FrsD D n f) {k : Nat} (hk : k < n) (b : List UInt8) :
    FrsD (D.put (.int .i64 (k : Int)) (.lit (.string b))) n (fun j => if j = k then some b else f j) := by
  have kl : WideAt.IsKeyLit (.int .i64 (k : Int)) := trivial; refine ⟨?_, ?_, ?_⟩
  · intro x hx
    by_cases e : x = .int .i64 (k : Int)
    · exact ⟨k, hk, e⟩
    · rw [Maps.has_put_other e] at hx
      exact h.key x hx
  · intro j
    by_cases e : j = k
    · subst e
      rw [Maps.has_put_same hm kl]
      simp
    · rw [Maps.has_put_other (by simp; omega), h.has j]
      simp [e]
  · intro j x hx z
    by_cases e : j = k
    · subst e
      simp only [if_true] at hx
      cases hx
      rw [Maps.atKey_put_same hm kl]
    · simp only [if_neg e] at hx
      rw [Maps.atKey_put_other (by simp; omega)]
      exact h.at_ j x hx z
theorem FrsD.empty (n : Nat) : FrsD (.map []) n (fun _ => none) := by
  refine ⟨?_, ?_, ?_⟩
  · intro x hx; simp [Maps.has] at hx
  · intro k; simp [Maps.has]
  · intro k b h; cases h
structure OldAt (w : World) (g : Nat) (o : List (List UInt8)) : Prop where
  ex : ∃ C, w.heap[g]? = some (.cells C 118 (0, 0)) ∧ C.toList = cells o.flatten
  o64 : ∀ k, k < o.length → (o.getD k []).length = 64
theorem OldAt.kept {S : Nat → Prop} {w w' : World} {g : Nat} {o : List (List UInt8)} (h : OldAt w g o) (ho : Only S w w') (hS : ¬ S g) : OldAt w' g o := by
  obtain ⟨⟨C, hb, hC⟩, h2⟩ := h
  exact ⟨⟨C, (ho.block g (Array.getElem?_eq_some_iff.1 hb).1 hS).trans hb, hC⟩, h2⟩
theorem OldAt.lt {w : World} {g : Nat} {o : List (List UInt8)} (h : OldAt w g o) : g < w.heap.size := by
  obtain ⟨⟨C, hb, _⟩, _⟩ := h
  exact (Array.getElem?_eq_some_iff.1 hb).1
theorem dflat_len (o : List (List UInt8)) (h : ∀ k, k < o.length → (o.getD k []).length = 64) : o.flatten.length = 64 * o.length := by
  induction o with
  | nil => rfl
  | cons a o ih =>
    have h0 := h 0 (by simp); have h1 := ih (fun k hk => by simpa using h (k + 1) (by simpa using hk))
    simp at h0
    simp [h0, h1]
    omega
theorem flat_get (o : List (List UInt8)) (h : ∀ k, k < o.length → (o.getD k []).length = 64) (k j : Nat) (hk : k < o.length) (hj : j < 64) : o.flatten[k * 64 + j]? = (o.getD k [])[j]? := by
  induction o generalizing k with
  | nil => simp at hk
  | cons a o ih =>
    have h0 : a.length = 64 := by simpa using h 0 (by simp)
    have h1 : ∀ k, k < o.length → (o.getD k []).length = 64 := fun k hk => by simpa using h (k + 1) (by simpa using hk)
    cases k with
    | zero =>
      simp only [List.flatten_cons, List.getD_cons_zero]; rw [List.getElem?_append_left (by omega)]
      congr 1
      omega
    | succ k =>
      simp only [List.flatten_cons, List.getD_cons_succ]; rw [List.getElem?_append_right (by omega), ← ih h1 k (by simpa using hk)]
      congr 1
      omega
theorem OldAt.cell {w : World} {g : Nat} {o : List (List UInt8)} (h : OldAt w g o) {k j : Nat} (hk : k < o.length) (hj : j < 64) : w.cell? ⟨g, k * 64 + j, none⟩ = (cells (o.getD k []))[j]? := by
  obtain ⟨⟨C, hb, hC⟩, h2⟩ := h; rw [cell_of_row w g _ C _ _ hb, ← Array.getElem?_toList, hC]; unfold cells; rw [List.getElem?_map, flat_get o h2 k j hk hj, List.getElem?_map]
theorem OldAt.frozen {w : World} {g : Nat} {o : List (List UInt8)} (h : OldAt w g o) (j : Nat) : w.frozen? ⟨g, j, none⟩ = false := by
  obtain ⟨⟨C, hb, hC⟩, h2⟩ := h
  simp [World.frozen?, hb]
theorem OldAt.range {w : World} {g : Nat} {o : List (List UInt8)} (h : OldAt w g o) {k : Nat} (hk : k < o.length) : w.rangeAt g (k * 64) (cells (o.getD k [])) := by
  intro j v hv; have hj : j < (cells (o.getD k [])).length := (List.getElem?_eq_some_iff.1 hv).1; rw [cells_length, h.o64 k hk] at hj; rw [h.cell hk hj, hv]
theorem OldAt.there {w : World} {g : Nat} {o : List (List UInt8)} (h : OldAt w g o) {k : Nat} (hk : k < o.length) : w.there g (k * 64) 64 := by
  intro j hj; refine ⟨?_, h.frozen _⟩; rw [h.cell hk hj, List.getElem?_eq_getElem (by rw [cells_length, h.o64 k hk]; exact hj)]
  rfl
theorem setCells_block (b : Nat) : ∀ (vs : List Value) (o : Nat) (w : World) (C : Array Value) (t : TypeId) (fr : Nat × Nat), w.heap[b]? = some (.cells C t fr) →
    ∃ C' : Array Value, (w.setCells b o vs).heap[b]? = some (.cells C' t fr) ∧ C'.size = C.size
  | [], _, _, C, _, _, h => ⟨C, h, rfl⟩
  | v :: r, o, w, C, t, fr, h => by
    have h1 : (w.setCell ⟨b, o, none⟩ v).heap[b]? = some (.cells (C.set! o v) t fr) := by
      simp [World.setCell, Array.getElem?_modify, h]
    obtain ⟨C', h2, h3⟩ := setCells_block b r (o + 1) _ _ t fr h1
    exact ⟨C', h2, by simpa using h3⟩
theorem Only.setCells {S : Nat → Prop} (b : Nat) (hb : S b) : ∀ (vs : List Value) (o : Nat) (w : World), Only S w (w.setCells b o vs)
  | [], _, _ => Only.refl _ _
  | v :: r, o, w => (Only.setCell w ⟨b, o, none⟩ v hb).trans (Only.setCells b hb r (o + 1) _) (fun _ _ h => h)
theorem OldAt.set {w : World} {g : Nat} {o : List (List UInt8)} (h : OldAt w g o) {k : Nat} (hk : k < o.length) {b : List UInt8} (hb : b.length = 64) : OldAt (w.setCells g (k * 64) (cells b)) g (o.set k b) := by
  have h64 : ∀ j, j < (o.set k b).length → ((o.set k b).getD j []).length = 64 := by
    intro j hj; rw [getD_set]
    split
    · exact hb
    · exact h.o64 j (by simpa using hj)
  refine ⟨?_, h64⟩; obtain ⟨C, hC, hl⟩ := h.ex; obtain ⟨C', h1, h2⟩ := setCells_block g (cells b) (k * 64) w C _ _ hC; refine ⟨C', h1, ?_⟩
  have hs : C.size = 64 * o.length := by rw [← Array.length_toList, hl, cells_length, dflat_len o h.o64]
  have hs2 : (cells (o.set k b).flatten).length = 64 * o.length := by rw [cells_length, dflat_len _ h64]; simp
  refine List.ext_getElem? (fun i => ?_)
  by_cases hi : i < 64 * o.length
  · have hq : i / 64 < o.length := by omega
    have hr : i % 64 < 64 := by omega
    have hi' : i = i / 64 * 64 + i % 64 := by omega
    have e1 : C'.toList[i]? = (w.setCells g (k * 64) (cells b)).cell? ⟨g, i, none⟩ := by
      rw [cell_of_row _ g i C' _ _ h1, Array.getElem?_toList]
    have e2 : (cells (o.set k b).flatten)[i]? = (cells ((o.set k b).getD (i / 64) []))[i % 64]? := by
      unfold cells; rw [List.getElem?_map, hi', flat_get _ h64 _ _ (by simpa using hq) hr, List.getElem?_map, ← hi']
    rw [e1, e2, getD_set]
    by_cases e : i / 64 = k
    · rw [if_pos ⟨e, hk⟩]
      have := World.rangeAt_setCells_same w g (k * 64) (cells b) (by rw [cells_length, hb]; exact h.there hk) (i % 64) ((cells b)[i % 64]'(by rw [cells_length, hb]; exact hr)) (List.getElem?_eq_getElem _); rw [List.getElem?_eq_getElem (by rw [cells_length, hb]; exact hr), ← this]
      congr 2
      omega
    · rw [if_neg (fun h => e h.1)]
      have := World.cell?_setCells_out g (cells b) (k * 64) w ⟨g, i, none⟩ (fun _ _ => by rw [cells_length, hb]; simp only; omega); rw [this, ← h.cell hq hr, ← hi']
  · rw [List.getElem?_eq_none (l := C'.toList) (by rw [Array.length_toList, h2, hs]; omega), List.getElem?_eq_none (by rw [hs2]; omega)]
structure Dsk (w : World) (d g m : Nat) (D : Dk) : Prop where
  c0 : w.cell? ⟨d, 0, none⟩ = some (.slice (some ⟨g, 0, none⟩) D.old.length D.old.length)
  c1 : w.cell? ⟨d, 1, none⟩ = some (.map (some m))
  c2 : w.cell? ⟨d, 2, none⟩ = some (.int .i64 D.acts)
  c3 : w.cell? ⟨d, 3, none⟩ = some (.int .i64 D.armed)
  c4 : w.cell? ⟨d, 4, none⟩ = some (.bool D.dead)
  fz : ∀ j, w.frozen? ⟨d, j, none⟩ = false
  lt : d < w.heap.size
  old : OldAt w g D.old
  map : Frs w m D.old.length D.fresh
  ok : D.Ok
  ne1 : d ≠ g
  ne2 : d ≠ m
  ne3 : g ≠ m
def own (d g m : Nat) (k : Nat) : Prop := k = d ∨ k = g ∨ k = m
theorem Dsk.kept {S : Nat → Prop} {w w' : World} {d g m : Nat} {D : Dk} (h : Dsk w d g m D) (ho : Only S w w') (h1 : ¬ S d) (h2 : ¬ S g) (h3 : ¬ S m) : Dsk w' d g m D := by
  obtain ⟨c0, c1, c2, c3, c4, fz, lt, old, map, ok, n1, n2, n3⟩ := h
  exact ⟨(ho.cell (p := ⟨d, 0, none⟩) lt h1).trans c0, (ho.cell (p := ⟨d, 1, none⟩) lt h1).trans c1, (ho.cell (p := ⟨d, 2, none⟩) lt h1).trans c2, (ho.cell (p := ⟨d, 3, none⟩) lt h1).trans c3,
    (ho.cell (p := ⟨d, 4, none⟩) lt h1).trans c4, fun j => (ho.frozen (p := ⟨d, j, none⟩) lt h1).trans (fz j), Nat.lt_of_lt_of_le lt ho.size, old.kept ho h2, map.kept ho h3, ok, n1, n2, n3⟩
theorem Dsk.same {w w' : World} {d g m : Nat} {D : Dk} (h : Dsk w d g m D) (ho : Only (fun _ => False) w w') : Dsk w' d g m D := h.kept ho id id id
theorem Dsk.alloc {w : World} {d g m : Nat} {D : Dk} (h : Dsk w d g m D) (o : Obj) : Dsk (w.alloc o) d g m D := h.same (Only.alloc _ _ _)
end Go.Proofs.YtebijheonkagfaaGreatDoor
namespace Go.Proofs.YtebijheonkagfaaGreatDoor
open Go.RowKit
theorem usable_any (w : World) (d g m : Nat) (D : Dk) (h : Dsk w d g m D) :
    Calls Tryz.prog 68 #[.pointer (some ⟨d, 0, none⟩)] w fun e w' => e = .returned (.int .i64 (if D.dead then 5 else 0)) ∧ w' = w := by
  have h4 := h.c4
  cases hd : D.dead <;> rw [hd] at h4
  all_goals
    go_enter Tryz.func68, Tryz.ntmps68
    go_wp2
    go_ret
    exact ⟨rfl, rfl⟩
theorem has_any (w : World) (d g m : Nat) (D : Dk) (h : Dsk w d g m D) (a n : Int) (ha : -9223372036854775808 ≤ a ∧ a < 9223372036854775808) :
    Calls Tryz.prog 71 #[.pointer (some ⟨d, 0, none⟩), .int .i64 a, .int .i64 n] w fun e w' => e = .returned (.bool (hasB D.old.length a n)) ∧ w' = w := by
  have h0 := h.c0; have hl := h.ok.hi; obtain ⟨N, hN⟩ : ∃ N, D.old.length = N := ⟨_, rfl⟩; rw [hN] at h0 hl ⊢; have HX : Hid (hasB N a n = (decide (0 ≤ a) && (decide (0 ≤ n) && decide (n ≤ (N : Int) - a)))) := rfl
  by_cases h1 : 0 ≤ a
  · by_cases h2 : 0 ≤ n
    · by_cases h3 : n ≤ (N : Int) - a
      · go_enter Tryz.func71, Tryz.ntmps71
        go_wp2
        go_ret
        refine ⟨?_, rfl⟩; rw [HX.out]
        simp [h1, h2, h3]
      · go_enter Tryz.func71, Tryz.ntmps71
        go_wp2
        go_ret
        refine ⟨?_, rfl⟩; rw [HX.out]
        simp [h1, h2, h3]
    · go_enter Tryz.func71, Tryz.ntmps71
      go_wp2
      go_ret
      refine ⟨?_, rfl⟩; rw [HX.out]
      simp [h1]
      intro h9
      omega
  · go_enter Tryz.func71, Tryz.ntmps71
    go_wp2
    go_ret
    refine ⟨?_, rfl⟩; rw [HX.out]
    simp
    intro h9
    omega
theorem size_any (w : World) (d g m : Nat) (D : Dk) (h : Dsk w d g m D) :
    Calls Tryz.prog 76 #[.pointer (some ⟨d, 0, none⟩)] w fun e w' => e = .returned (.int .i64 (D.old.length : Int)) ∧ w' = w := by
  have h0 := h.c0
  go_enter Tryz.func76, Tryz.ntmps76
  go_wp2
  go_ret
  exact ⟨rfl, rfl⟩
theorem dead_any (w : World) (d g m : Nat) (D : Dk) (h : Dsk w d g m D) :
    Calls Tryz.prog 27 #[.pointer (some ⟨d, 0, none⟩)] w fun e w' => e = .returned (.bool D.dead) ∧ w' = w := by
  have h4 := h.c4
  go_enter Tryz.func27, Tryz.ntmps27
  go_wp2
  go_ret
  exact ⟨rfl, rfl⟩
theorem Dsk.setc {w : World} {d g m : Nat} {D : Dk} (h : Dsk w d g m D) (j : Nat) (u : Value) {D' : Dk}
    (e0 : (if j = 0 then some u else w.cell? ⟨d, 0, none⟩) = some (.slice (some ⟨g, 0, none⟩) D'.old.length D'.old.length))
    (e1 : (if j = 1 then some u else w.cell? ⟨d, 1, none⟩) = some (.map (some m)))
    (e2 : (if j = 2 then some u else w.cell? ⟨d, 2, none⟩) = some (.int .i64 D'.acts))
    (e3 : (if j = 3 then some u else w.cell? ⟨d, 3, none⟩) = some (.int .i64 D'.armed))
    (e4 : (if j = 4 then some u else w.cell? ⟨d, 4, none⟩) = some (.bool D'.dead))
    (ho : D'.old = D.old) (hf : D'.fresh = D.fresh) (ok : D'.Ok) : Dsk (w.setCell ⟨d, j, none⟩ u) d g m D' ∧ Only (own d g m) w (w.setCell ⟨d, j, none⟩ u) := by
  have hset : ∀ i v, w.cell? ⟨d, i, none⟩ = some v → (w.setCell ⟨d, j, none⟩ u).cell? ⟨d, i, none⟩ = if j = i then some u else w.cell? ⟨d, i, none⟩ := by
    intro i v hv
    by_cases e : j = i
    · subst e
      rw [if_pos rfl, World.cell?_setCell_same _ _ _ hv]
    · rw [if_neg e, World.cell?_setCell_other _ _ _ _ (by intro e2; cases e2; exact e rfl)]
  have hO : Only (fun k => k = d) w (w.setCell ⟨d, j, none⟩ u) := Only.setCell w ⟨d, j, none⟩ u rfl; refine ⟨⟨(hset 0 _ h.c0).trans e0, (hset 1 _ h.c1).trans e1, (hset 2 _ h.c2).trans e2, (hset 3 _ h.c3).trans e3, (hset 4 _ h.c4).trans e4, fun i => by simpa using h.fz i, by simpa using h.lt, ?_, ?_, ok, h.ne1, h.ne2, h.ne3⟩, hO.mono (fun k _ e => .inl e)⟩
  · rw [ho]; exact h.old.kept hO (fun e => h.ne1 e.symm)
  · rw [ho, hf]; exact h.map.kept hO (fun e => h.ne2 e.symm)
theorem Dsk.setActs {w : World} {d g m : Nat} {D : Dk} (h : Dsk w d g m D) (x : Int) : Dsk (w.setCell ⟨d, 2, none⟩ (.int .i64 x)) d g m { D with acts := x } ∧ Only (own d g m) w (w.setCell ⟨d, 2, none⟩ (.int .i64 x)) :=
  h.setc 2 _ (by simpa using h.c0) (by simpa using h.c1) (by simp) (by simpa using h.c3) (by simpa using h.c4) rfl rfl ⟨h.ok.lo, h.ok.hi, h.ok.o64, h.ok.f64, h.ok.arm0, h.ok.arm1⟩
theorem Dsk.setArmed {w : World} {d g m : Nat} {D : Dk} (h : Dsk w d g m D) (x : Int) (h0 : 0 ≤ x) (h1 : x < 9223372036854775808) : Dsk (w.setCell ⟨d, 3, none⟩ (.int .i64 x)) d g m { D with armed := x } ∧ Only (own d g m) w (w.setCell ⟨d, 3, none⟩ (.int .i64 x)) :=
  h.setc 3 _ (by simpa using h.c0) (by simpa using h.c1) (by simpa using h.c2) (by simp) (by simpa using h.c4) rfl rfl ⟨h.ok.lo, h.ok.hi, h.ok.o64, h.ok.f64, h0, h1⟩
theorem Dsk.setDead {w : World} {d g m : Nat} {D : Dk} (h : Dsk w d g m D) (x : Bool) : Dsk (w.setCell ⟨d, 4, none⟩ (.bool x)) d g m { D with dead := x } ∧ Only (own d g m) w (w.setCell ⟨d, 4, none⟩ (.bool x)) :=
  h.setc 4 _ (by simpa using h.c0) (by simpa using h.c1) (by simpa using h.c2) (by simpa using h.c3) (by simp) rfl rfl ⟨h.ok.lo, h.ok.hi, h.ok.o64, h.ok.f64, h.ok.arm0, h.ok.arm1⟩
theorem dies_any (w : World) (d g m : Nat) (D : Dk) (h : Dsk w d g m D) :
    Calls Tryz.prog 69 #[.pointer (some ⟨d, 0, none⟩)] w fun e w' => e = .returned (.bool (decide (D.armed = 1))) ∧ Dsk w' d g m D.act ∧ Only (own d g m) w w' := by
  have h2 := h.c2; have h3 := h.c3; have f2 := h.fz 2; have f3 := h.fz 3; have f4 := h.fz 4; have h4 := h.c4; have a0 := h.ok.arm0; have a1 := h.ok.arm1; obtain ⟨x1, y1⟩ := h.setActs (wrap64 (D.acts + 1))
  by_cases ha : D.armed = 0
  · have hb : (D.armed == 0) = true := by simpa using ha
    have HA : Hid (D.armed = 0) := ha; have H : Hid (Dsk w d g m D) := h; have X1 := hide x1; have Y1 := hide y1; clear h x1 y1 ha
    go_enter Tryz.func69, Tryz.ntmps69
    go_wp2
    go_ret
    refine ⟨by simp [HA.out], ?_, Y1.out⟩
    have e : D.act = { D with acts := wrap64 (D.acts + 1) } := by unfold Dk.act; simp [HA.out]
    rw [e]
    exact X1.out
  · obtain ⟨x2, y2⟩ := x1.setArmed (D.armed - 1) (by omega) (by omega)
    obtain ⟨x3, y3⟩ := x2.setDead (decide (D.armed = 1))
    have e : D.act = { { { D with acts := wrap64 (D.acts + 1) } with armed := D.armed - 1 } with dead := decide (D.armed = 1) } := by unfold Dk.act; simp [ha]
    have hb : (D.armed == 0) = false := by simpa using ha
    have hq : (D.armed - 1 == 0) = decide (D.armed = 1) := by
      by_cases h1 : D.armed = 1
      · simp [h1]
      · simp [h1]; omega
    have HQ := hide hq; have Z := hide (And.intro x3 ((y1.trans y2 (fun _ _ h => h)).trans y3 (fun _ _ h => h))); rw [e]
    have hp : 0 < D.armed := by omega
    clear x1 y1 x2 y2 x3 y3 e h ha hq
    go_enter Tryz.func69, Tryz.ntmps69
    go_wp2
    go_ret
    simp only [HQ.out]
    exact ⟨rfl, Z.out.1, Z.out.2⟩
theorem arm_any (w : World) (d g m : Nat) (D : Dk) (h : Dsk w d g m D) (n : Int) (hn : n < 9223372036854775808) :
    Calls Tryz.prog 25 #[.pointer (some ⟨d, 0, none⟩), .int .i64 n] w fun e w' => e = .returned (.int .i64 (D.arm n).2) ∧ Dsk w' d g m (D.arm n).1 ∧ Only (own d g m) w w' := by
  have hu := usable_any w d g m D h; have f3 := h.fz 3; have h3 := h.c3; have H := hide h; clear h
  cases hd : D.dead
  · have HD := hide hd
    simp only [hd] at hu
    by_cases h0 : n < 0
    · have e : D.arm n = (D, 1) := by unfold Dk.arm; simp [hd, h0]
      rw [e]; clear hd e
      go_enter Tryz.func25, Tryz.ntmps25
      go_wp2_with (first | (go_at_call 68; refine hu.mono ?_; rintro e w' ⟨rfl, rfl⟩))
      go_ret
      exact ⟨rfl, H.out, Only.refl _ _⟩
    · have e : D.arm n = ({ D with armed := n }, 0) := by unfold Dk.arm; simp [hd, h0]
      have Z := hide (H.out.setArmed n (by omega) hn); rw [e]; clear hd e
      go_enter Tryz.func25, Tryz.ntmps25
      go_wp2_with (first | (go_at_call 68; refine hu.mono ?_; rintro e w' ⟨rfl, rfl⟩))
      go_ret
      exact ⟨rfl, Z.out.1, Z.out.2⟩
  · have e : D.arm n = (D, 5) := by unfold Dk.arm; simp [hd]
    rw [e]; simp only [hd] at hu; clear hd e
    go_enter Tryz.func25, Tryz.ntmps25
    go_wp2_with (first | (go_at_call 68; refine hu.mono ?_; rintro e w' ⟨rfl, rfl⟩))
    go_ret
    exact ⟨rfl, H.out, Only.refl _ _⟩
theorem zeros_ex : ∃ l : List UInt8, l = List.replicate 64 0 := ⟨_, rfl⟩
noncomputable def zeros : List UInt8 := Classical.choose zeros_ex
theorem zeros_eq : zeros = List.replicate 64 0 := Classical.choose_spec zeros_ex
theorem zeros_len : zeros.length = 64 := by simp [zeros_eq]
theorem zero_sec (w : World) : (zeroValue 118).run Tryz.prog w = .ok (sec zeros) w := by
  rw [zeros_eq]
  kernel_rfl
theorem Tryz.infoSec : (Tryz.prog.info? 118).map (·.size) = some 64 := by kernel_rfl
def secObj (l : List UInt8) : Obj := .cells (cells l).toArray 118
section
variable (w : World) {ops : Array Oper} {rest : List Oper} {o : Oper} {a : Act} {Q : Exit → Act → World → Prop}
theorem wpList_alloc_sec (hg : o.guard = none) (hop : o.op = .alloc 118)
    (h : wpList Tryz.prog ops Q rest (a.put o.dst (.pointer (some ⟨w.heap.size, 0, none⟩))) (w.alloc (secObj zeros))) : wpList Tryz.prog ops Q (o :: rest) a w := by
  refine wpList_plain hg fun K' hK' => ?_
  unfold Oper.wp
  have e : (Instr.alloc 118 true (.tuple #[])).run Tryz.prog w = .ok (.pointer (some ⟨w.heap.size, 0, none⟩)) (w.alloc (secObj zeros)) := by
    unfold Instr.alloc; simp only [Sem.run_bind, zero_sec, Result.andThen_ok]
    rfl
  simp only [execOp, hop, Sem.run_bind, e, Result.andThen_ok, Sem.run_pure]
  exact hK' _ _ h
theorem wpList_load_sec (hg : o.guard = none) (x : Operand) (hop : o.op = .load 118 x) (b f : Nat) (hx : a.eval x = .pointer (some ⟨b, f, none⟩)) (l : List UInt8) (hl : l.length = 64) (hc : w.rangeAt b f (cells l))
    (h : wpList Tryz.prog ops Q rest (a.put o.dst (sec l)) w) : wpList Tryz.prog ops Q (o :: rest) a w :=
  wpList_load_mid hg 118 x hop b f hx (cells l) _ hc Tryz.underlying118 rfl (by rw [cells_length, hl]; exact Tryz.infoSec) h
theorem wpList_store_sec (hg : o.guard = none) (x y : Operand) (hop : o.op = .store 118 x y) (b f : Nat) (hx : a.eval x = .pointer (some ⟨b, f, none⟩)) (l : List UInt8) (hy : a.eval y = sec l) (hl : l.length = 64) (hc : w.there b f 64)
    (h : wpList Tryz.prog ops Q rest (a.put o.dst undef) (w.setCells b f (cells l))) : wpList Tryz.prog ops Q (o :: rest) a w :=
  wpList_store_mid hg 118 x y hop b f (cells l).toArray hx hy (by simpa [cells_length, hl] using hc) (by simpa [cells_length, hl] using Tryz.infoSec) (all_oneCell_toArray (cells_one l)) h
end
theorem alloc_range (w : World) (l : List UInt8) : (w.alloc (secObj l)).rangeAt w.heap.size 0 (cells l) := by
  intro j v hv; have h := cell_of_row (w.alloc (secObj l)) w.heap.size (0 + j) (cells l).toArray 118 (0, 0) (heap_alloc_new w _); rw [h]
  simpa using hv
theorem alloc_there (w : World) (l : List UInt8) (hl : l.length = 64) : (w.alloc (secObj l)).there w.heap.size 0 64 := by
  intro j hj; refine ⟨(alloc_range w l).isSome j (by rw [cells_length, hl]; exact hj), ?_⟩; have h : (w.alloc (secObj l)).heap[w.heap.size]? = some (.cells (cells l).toArray 118 (0, 0)) := heap_alloc_new w _; unfold World.frozen?; simp only [h]
  simp
theorem results_sec {fn : Func} {p : Tmp} (h : fn.results = #[.cell p 118]) (tmps : Array Value) (w : World) (b : Nat) (L : List UInt8) (hl : L.length = 64) (hp : tmps[p]?.getD undef = .pointer (some ⟨b, 0, none⟩)) (hc : w.rangeAt b 0 (cells L)) :
    (results fn tmps).run Tryz.prog w = .ok (sec L) w := by
  have hr := run_loadVar_mid (P := Tryz.prog) w b 0 118 (cells L) _ hc Tryz.underlying118 rfl (by rw [cells_length, hl]; exact Tryz.infoSec)
  simp [results, h, hp, hr, sec, asAddr]
theorem Frs.look {w : World} {m n : Nat} {f : Nat → Option (List UInt8)} (h : Frs w m n f) (hn : n ≤ 65536) {k : Nat} (hk : k < n) :
    (Instr.lookup 77 (.map (some m)) (.int .i64 (k : Int)) true).run Tryz.prog w = .ok (.tuple #[sec ((f k).getD zeros), .bool (f k).isSome]) w
    ∧ (Instr.lookup 77 (.map (some m)) (.int .i64 (k : Int)) false).run Tryz.prog w = .ok (sec ((f k).getD zeros)) w := by
  obtain ⟨N, D, hown, hD⟩ := h; have hz := secElem_mk zeros_len; obtain ⟨v, ps, h1, h2⟩ := hown.look_ok keyed Tryz.underlying77 (zero_sec w) hz (key_ok (k := k) (by omega)); obtain ⟨v', ps', h3, h4⟩ := hown.lookup keyed Tryz.underlying77 (zero_sec w) hz (key_ok (k := k) (by omega)); rw [hD.has k] at h1
  have e : D.atKey (.int .i64 (k : Int)) (.lit (.string zeros)) = .lit (.string ((f k).getD zeros)) := by
    cases hf : f k with
    | none => 
      rw [Maps.atKey_of_not_has (by rw [hD.has k, hf]; rfl)]
      rfl
    | some b => rw [hD.at_ k b hf]; rfl
  rw [e] at h2 h4
  have key : ∀ v ps, secElem v = some (DataW.lit (.string ((f k).getD zeros)), ps) → v = sec ((f k).getD zeros) := by
    intro v ps hv; obtain ⟨l, hl, rfl, hz2⟩ := secElem_inv hv; simp only [Prod.mk.injEq, DataW.lit.injEq, Lit.string.injEq] at hz2; rw [hz2.1]
  rw [key v ps h2] at h1; rw [key v' ps' h4] at h3
  exact ⟨h1, h3⟩
set_option maxRecDepth 100000 in
set_option maxHeartbeats 800000 in
theorem sector_any (w : World) (d g m : Nat) (D : Dk) (h : Dsk w d g m D) (k : Nat) (hk : k < D.old.length) :
    Calls Tryz.prog 72 #[.pointer (some ⟨d, 0, none⟩), .int .i64 (k : Int)] w fun e w' => e = .returned (sec (D.cur k)) ∧ Only (fun _ => False) w w' := by
  have hi := h.ok.hi; obtain ⟨lk, _⟩ := (h.alloc (secObj zeros)).map.look hi hk; have c1 := (h.alloc (secObj zeros)).c1; have hO : Only (fun _ => False) w ((w.alloc (secObj zeros)).alloc (secObj zeros)) := (Only.alloc _ _ _).trans (Only.alloc _ _ _) (fun _ _ h => h)
  cases hf : D.fresh k with
  | some b =>
    rw [hf] at lk; simp only [Option.getD_some, Option.isSome_some] at lk; have hb := (h.ok.f64 k b hf).2
    have e : D.cur k = b := by unfold Dk.cur; rw [hf]; rfl
    rw [e]; have HT5 := hide (alloc_there (w.alloc (secObj zeros)) zeros zeros_len); have HT4 := hide (World.there_setCells (World.there_alloc (alloc_there w zeros zeros_len) (secObj zeros)) (w.heap.size + 1) 0 (cells b)); have H := hide h; have HO := hide hO; clear h hf e hO
    go_enter Tryz.func72, Tryz.ntmps72
    go_wp2_with (first
      | (refine wpList_alloc_sec _ rfl rfl ?_)
      | (refine wpList_load_sec _ rfl (.tmp 5) rfl _ _ rfl b hb (World.rangeAt_setCells_same _ _ _ _ (by rw [cells_length, hb]; simpa using HT5.out)) ?_)
      | (refine wpList_store_sec _ rfl (.tmp 5) (.tmp 14) rfl _ _ rfl b rfl hb (by simpa using HT5.out) ?_)
      | (refine wpList_store_sec _ rfl (.tmp 4) (.tmp 17) rfl _ _ rfl b rfl hb HT4.out ?_))
    refine bodyPost_ret (results_sec rfl _ _ w.heap.size b hb rfl (World.rangeAt_setCells_same _ _ _ _ (by rw [cells_length, hb]; exact HT4.out))) rfl ?_; refine ⟨rfl, (HO.out.trans (Only.setCells (S := fun i => i = w.heap.size + 1) _ rfl _ _ _) (fun i hi e => by omega)).trans (Only.setCells (S := fun i => i = w.heap.size) _ rfl _ _ _) (fun i hi e => by omega)⟩
  | none =>
    rw [hf] at lk; simp only [Option.getD_none, Option.isSome_none] at lk
    have e : D.cur k = D.old.getD k [] := by unfold Dk.cur; rw [hf]; rfl
    rw [e]; obtain ⟨b, hbd⟩ : ∃ b, D.old.getD k [] = b := ⟨_, rfl⟩
    have hb : b.length = 64 := by rw [← hbd]; exact h.ok.o64 k hk
    rw [hbd]; have hO2 := hO.trans (Only.setCells (S := fun i => i = w.heap.size + 1) (w.heap.size + 1) rfl (cells zeros) 0 ((w.alloc (secObj zeros)).alloc (secObj zeros))) (fun i hi e => by omega); have h2 := h.same hO2; have c0 := h2.c0; have hr := h2.old.range hk; rw [hbd] at hr; have HR := hide hr; have HT5 := hide (alloc_there (w.alloc (secObj zeros)) zeros zeros_len); have HT4 := hide (World.there_setCells (World.there_alloc (alloc_there w zeros zeros_len) (secObj zeros)) (w.heap.size + 1) 0 (cells zeros)); have HO := hide hO2
    have hk1 : (k : Int) < (D.old.length : Int) := by omega
    have hk0 : (0 : Int) ≤ (k : Int) := by omega
    clear h hf e hO hr h2 hO2 hbd
    go_enter Tryz.func72, Tryz.ntmps72
    go_wp2_with (first
      | (refine wpList_alloc_sec _ rfl rfl ?_)
      | (refine wpList_load_sec _ rfl (.tmp 23) rfl _ _ rfl b hb HR.out ?_)
      | (refine wpList_store_sec _ rfl (.tmp 5) (.tmp 14) rfl _ _ rfl zeros rfl zeros_len (by simpa using HT5.out) ?_)
      | (refine wpList_store_sec _ rfl (.tmp 4) (.tmp 24) rfl _ _ rfl b rfl hb HT4.out ?_))
    refine bodyPost_ret (results_sec rfl _ _ w.heap.size b hb rfl (World.rangeAt_setCells_same _ _ _ _ (by rw [cells_length, hb]; exact HT4.out))) rfl ?_; refine ⟨rfl, HO.out.trans (Only.setCells (S := fun i => i = w.heap.size) _ rfl _ _ _) (fun i hi e => by omega)⟩
theorem Tryz.dinfoByte : (Tryz.prog.info? 5).map (fun i => (i.zero, i.size, i.bytes)) = some (some (.int .u8 0), 1, 1) := by kernel_rfl
theorem wpList_bytes {P : Program} (w : World) {ops : Array Oper} {rest : List Oper} {o : Oper} {a : Act} {Q : Exit → Act → World → Prop} (hgd : o.guard = none) (s x : Operand) (t : TypeId)
    (ho : o.op = .call { callee := .builtin .append, args := #[s, x], argTypes := #[t, t] })
    (base : Nat) (i : TypeInfo) (ht : P.underlying t = some (.slice 5)) (hi : P.info? 5 = some i) (hz : i.zero = some (.int .u8 0)) (hsize : i.size = 1) (hby : i.bytes = 1)
    (v : Value) (row : Option Nat) (l : List UInt8) (hs : a.eval s = v) (hown : Row w base v row l)
    (b f c ln : Nat) (n : List UInt8) (hln : n.length = ln) (hx : a.eval x = .slice (some ⟨b, f, none⟩) ln c) (hd : w.rangeAt b f (cells n)) (hn : 0 < n.length)
    (h63 : l.length + n.length ≤ 158329674399744) (hbase : base ≤ w.heap.size)
    (h : ∀ v' w' row', Row w' base v' row' (l ++ n) → Only (fun k => some k = row) w w' → (row' = row ∨ row' = some w.heap.size) → wpList P ops Q rest (a.put o.dst v') w') : wpList P ops Q (o :: rest) a w := by
  subst hln; obtain ⟨v', w', hr, h2, h3, h5⟩ := append_bytes (P := P) w base t o.type 5 i ht hi hz hsize hby v l.length (cells l) hown.own ⟨b, f, none⟩ n.length c (cells n) (cells_length n) (fun j u hu => by rw [Addr.add_mid]; exact hd j u hu) (cells_one n) h63 hn hbase
  refine wpList_plain hgd fun K hK => ?_
  unfold Oper.wp execOp; simp only [ho, resolve, invoke, builtin, Sem.run_bind, Sem.run_pure, Result.andThen_ok, List.map_toArray, List.map_cons, List.map_nil, hs, hx, hr]; refine hK _ _ (h v' w' v'.ownBlock ⟨?_, rfl⟩ (Only.grown h3 (fun k hk => hk.symm.trans hown.at_)) (by rw [← hown.at_]; exact h5))
  have e : l.length + n.length = (l ++ n).length := by simp
  rw [cells_append, ← e]
  exact h2
theorem dbytes_back (w : World) (base : Nat) (v : Value) (row : Option Nat) (l : List UInt8) (hr : Row w base v row l) : (convert 80 9 v).run Tryz.prog w = .ok (.string ⟨l.toArray⟩) w := by
  rcases hr.own.2 with ⟨rfl, hn⟩ | ⟨g, cap, cur, rfl, hb, hg, hn, hm, hs, htake⟩
  · have e : l = [] := List.eq_nil_of_length_eq_zero hn
    subst e; rw [run_convert_bytes_nil w 80 5 Tryz.underlying80 Tryz.underlying5 0 0 9 Tryz.underlying9]
    rfl
  · refine run_convert_bytes_back w 80 9 5 ⟨g, 0, none⟩ cap l Tryz.underlying80 Tryz.underlying5 Tryz.underlying9 ?_
    intro j hj; refine hr.own.cells (g := g) rfl j _ ?_; unfold cells
    simp [List.getElem?_eq_getElem hj]
theorem bytes_snoc (D : Dk) (k j : Nat) : D.bytes k (j + 1) = D.bytes k j ++ D.cur (k + j) := by
  unfold Dk.bytes; rw [List.range_succ, List.map_append, List.flatten_append]
  simp
theorem bytes_len {D : Dk} (h : D.Ok) (k j : Nat) (hj : k + j ≤ D.old.length) : (D.bytes k j).length = 64 * j := by
  induction j with
  | zero => rfl
  | succ j ih =>
    rw [bytes_snoc, List.length_append, ih (by omega), h.cur64 (by omega)]
    omega
noncomputable def secVar (w : World) (b : List UInt8) : World := (w.alloc (secObj zeros)).setCells w.heap.size 0 (cells b)
theorem secVar_only (w : World) (b : List UInt8) : Only (fun _ => False) w (secVar w b) :=
  (Only.alloc _ _ _).trans (Only.setCells (S := fun i => i = w.heap.size) _ rfl _ _ _) (fun i hi e => by omega)
theorem secVar_range (w : World) (b : List UInt8) (hb : b.length = 64) : (secVar w b).rangeAt w.heap.size 0 (cells b) :=
  World.rangeAt_setCells_same _ _ _ _ (by rw [cells_length, hb]; exact alloc_there w zeros zeros_len)
theorem read_bad (w : World) (d g m : Nat) (D : Dk) (h : Dsk w d g m D) (a n : Int) (ha : -9223372036854775808 ≤ a ∧ a < 9223372036854775808) (hb : D.dead = true ∨ hasB D.old.length a n = false) :
    Calls Tryz.prog 28 #[.pointer (some ⟨d, 0, none⟩), .int .i64 a, .int .i64 n] w fun e w' => e = .returned (.tuple #[.string ⟨#[]⟩, .int .i64 (if D.dead then 5 else 20)]) ∧ w' = w := by
  have hu := usable_any w d g m D h; have hh := has_any w d g m D h a n ha
  cases hd : D.dead
  · rw [hd] at hb hu
    have e : hasB D.old.length a n = false := by rcases hb with h | h; cases h; exact h
    rw [e] at hh; clear hd hb h e ha
    go_enter Tryz.func28, Tryz.ntmps28
    go_wp2_with (first | (go_at_call 68; refine hu.mono ?_; rintro e w' ⟨rfl, rfl⟩) | (go_at_call 71; refine hh.mono ?_; rintro e w' ⟨rfl, rfl⟩))
    go_ret2
    exact ⟨rfl, rfl⟩
  · rw [hd] at hu
    clear hd hb h ha
    go_enter Tryz.func28, Tryz.ntmps28
    go_wp2_with (first | (go_at_call 68; refine hu.mono ?_; rintro e w' ⟨rfl, rfl⟩))
    go_ret2
    exact ⟨rfl, rfl⟩
set_option maxRecDepth 100000 in
set_option maxHeartbeats 800000 in
theorem read_ok (w : World) (d g m : Nat) (D : Dk) (h : Dsk w d g m D) (a n : Nat) (hd : D.dead = false) (hn : a + n ≤ D.old.length) :
    Calls Tryz.prog 28 #[.pointer (some ⟨d, 0, none⟩), .int .i64 (a : Int), .int .i64 (n : Int)] w fun e w' => e = .returned (.tuple #[.string ⟨(D.bytes a n).toArray⟩, .int .i64 0]) ∧ Only (fun _ => False) w w' := by
  have hu := usable_any w d g m D h; have hh := has_any w d g m D h a n (by have := h.ok.hi; omega)
  have e : hasB D.old.length a n = true := by unfold hasB; simp; omega
  rw [e] at hh; rw [hd] at hu; have h64 := h.ok.hi; have H := hide h; have HD := hide hd
  have hsec := fun w' (ho : Only (fun _ => False) w w') k (hk : k < D.old.length) => sector_any w' d g m D (h.same ho) k hk
  have HS := hide hsec; obtain ⟨i0, hi, hz0, hz1, hz2⟩ := info_parts Tryz.dinfoByte; clear h hd e hsec
  go_enter Tryz.func28, Tryz.ntmps28
  go_wp2_with (first
    | (go_at_call 68; refine hu.mono ?_; rintro e w' ⟨rfl, hw⟩; obtain rfl := hw.symm)
    | (go_at_call 71; refine hh.mono ?_; rintro e w' ⟨rfl, hw⟩; obtain rfl := hw.symm)
    | (at_make; refine wpList_make_own _ rfl _ _ 80 rfl w.heap.size 5 i0 (.int .u8 0) 1 Tryz.underlying80 hi hz0 hz1 .i64 .i64 _ (n * 64) rfl rfl (by omega) (by rw [hz2]; omega) (by unfold maxLen; omega) (Nat.le_refl _) ?_; intro w0 hown0 hgrow0))
  have hO0 : Only (fun _ => False) w w0 := Only.grown hgrow0 (fun k hk => by cases hk); have HO0 := hide hO0; have HR0 : Hid (Row w0 w.heap.size (.slice (some ⟨w.heap.size, 0, none⟩) 0 (n * 64)) (some w.heap.size) []) := ⟨hown0, rfl⟩; have hs0 := hgrow0.size; clear hO0 hown0 hgrow0 hu hh
  go_wp2
  go_loopw [9, 10] (fun x y wr => ∃ (j : Nat) (row : Option Nat), j ≤ n ∧ y = .int .i64 ((a + j : Nat) : Int) ∧ Hid (Row wr w.heap.size x row (D.bytes a j)) ∧ Hid (Only (fun _ => False) w wr)) (fun _ y _ => a + n - (intOf y).toNat)
  case atStart => exact ⟨0, some w.heap.size, by omega, by go_num, HR0, HO0⟩
  case round =>
    obtain ⟨j, row, hj, rfl, HR, HO⟩ := hrel
    by_cases hlt : j < n
    · have hc := HS.out wr HO.out (a + j) (by omega)
      have hcl := H.out.ok.cur64 (k := a + j) (by omega); have hbl := bytes_len H.out.ok a j (by omega); obtain ⟨b, hb⟩ : ∃ b, D.cur (a + j) = b := ⟨_, rfl⟩; rw [hb] at hc hcl; have HB := hide hb; clear hb; have hwr := HO.out.size
      go_wp2_with (first
        | (go_at_call 72; refine hc.mono ?_; rintro e w1 ⟨rfl, hO1⟩)
        | (refine wpList_alloc_sec _ rfl rfl ?_)
        | (refine wpList_store_sec _ rfl (.tmp 11) (.tmp 35) rfl _ _ rfl b rfl hcl (alloc_there _ zeros zeros_len) ?_)
        | (at_builtin; go_must (refine wpList_bytes _ rfl (.tmp 36) (.tmp 37) 80 rfl w.heap.size i0 Tryz.underlying80 hi hz0 hz1 hz2 _ row (D.bytes a j) rfl ((HR.out.kept hO1 (fun _ _ h => h)).kept (secVar_only w1 b) (fun _ _ h => h)) w1.heap.size 0 64 64 b hcl rfl (secVar_range w1 b hcl) (by omega) (by omega) (by have := hO1.size; have := (secVar_only w1 b).size; unfold secVar at this; omega) ?_); intro v2 w2 row2 hR2 hO2 hrow2))
      have hx2 := HR.out.lt
      have hO3 : Only (fun _ => False) w w2 := by
        have h1 := (HO.out.trans hO1 (fun _ _ h => h)).trans (secVar_only w1 b) (fun _ _ h => h); refine h1.trans hO2 (fun i hi e => ?_); have := (hx2 i e.symm).1
        omega
      go_roundw
      case rel => exact ⟨j + 1, row2, by omega, by go_num, by rw [bytes_snoc, HB.out]; exact hide hR2, hide hO3⟩
      case measure => simp [intOf]; omega
    · have ej : j = n := by omega
      subst ej; have hcv := dbytes_back wr _ _ row _ HR.out
      go_wp2
      go_ret2
      exact ⟨rfl, HO.out⟩
theorem dread_any (w : World) (d g m : Nat) (D : Dk) (h : Dsk w d g m D) (a n : Int) (ha : -9223372036854775808 ≤ a ∧ a < 9223372036854775808) :
    Calls Tryz.prog 28 #[.pointer (some ⟨d, 0, none⟩), .int .i64 a, .int .i64 n] w fun e w' => e = .returned (.tuple #[.string ⟨(D.read a n).1.toArray⟩, .int .i64 (D.read a n).2]) ∧ Only (fun _ => False) w w' := by
  by_cases hb : D.dead = true ∨ hasB D.old.length a n = false
  · refine (read_bad w d g m D h a n ha hb).mono ?_
    rintro e w' ⟨rfl, rfl⟩; refine ⟨?_, Only.refl _ _⟩; unfold Dk.read
    rcases hb with hb | hb
    · simp [hb]
    · cases hd : D.dead <;> simp [hb]
  · have hd : D.dead = false := by simpa using fun e => hb (.inl e)
    have hh : hasB D.old.length a n = true := by simpa using fun e => hb (.inr e)
    have e : D.read a n = (D.bytes a.toNat n.toNat, 0) := by unfold Dk.read; simp [hd, hh]
    unfold hasB at hh
    simp at hh
    obtain ⟨a', rfl⟩ := Int.eq_ofNat_of_zero_le hh.1; obtain ⟨n', rfl⟩ := Int.eq_ofNat_of_zero_le hh.2.1; rw [e]
    exact read_ok w d g m D h a' n' hd (by omega)
theorem Tryz.infoSecs : (Tryz.prog.info? 118).map (fun i => (i.zero, i.size, i.bytes)) = some (some (sec (List.replicate 64 0)), 64, 64) := by kernel_rfl
theorem made_rep (n K : Nat) (v : Value) (hK : 0 < K) : (madeCells (List.replicate K v).toArray (n * K)).toList = List.replicate (n * K) v := by
  unfold madeCells; refine List.ext_getElem? (fun i => ?_)
  by_cases hi : i < n * K
  · have : i % K < K := Nat.mod_lt _ hK
    simp [hi, this]
  · simp [hi]
theorem flat_rep (n K : Nat) (v : UInt8) : (List.replicate n (List.replicate K v)).flatten = List.replicate (n * K) v := by simp
theorem made_secs (n : Nat) : (madeCells (sec (List.replicate 64 0)).cells (n * 64)).toList = cells (List.replicate n (List.replicate 64 (0 : UInt8))).flatten := by
  have e1 : (sec (List.replicate 64 0)).cells = (List.replicate 64 (Value.int .u8 0)).toArray := by
    simp [sec, Value.cells, cells]
  rw [e1, flat_rep, made_rep n 64 _ (by omega)]; unfold cells; rw [List.map_replicate]
  rfl
theorem dsk_new (w : World) (n : Nat) (C : Array Value) (hC : C.toList = cells (List.replicate n (List.replicate 64 (0 : UInt8))).flatten) (h1 : 1 ≤ n) (h2 : n ≤ 65536) :
    Dsk (((w.alloc (.cells C 118)).alloc (.map #[] 0)).alloc (.cells #[.slice (some ⟨w.heap.size, 0, none⟩) n n, .map (some (w.heap.size + 1)), .int .i64 0, .int .i64 0, .bool false] 79)) (w.heap.size + 2) w.heap.size (w.heap.size + 1) (Dk.new n)
    ∧ Only (fun _ => False) w (((w.alloc (.cells C 118)).alloc (.map #[] 0)).alloc (.cells #[.slice (some ⟨w.heap.size, 0, none⟩) n n, .map (some (w.heap.size + 1)), .int .i64 0, .int .i64 0, .bool false] 79)) := by
  have hl : (Dk.new n).old.length = n := by simp [Dk.new]
  have s1 : (w.alloc (.cells C 118)).heap.size = w.heap.size + 1 := by simp
  have s2 : ((w.alloc (.cells C 118)).alloc (.map #[] 0)).heap.size = w.heap.size + 2 := by simp
  obtain ⟨W, hW⟩ : ∃ W, W = (w.alloc (.cells C 118)).alloc (.map #[] 0) := ⟨_, rfl⟩
  have a1 : Only (fun _ => False) w W := by rw [hW]; exact (Only.alloc _ _ _).trans (Only.alloc _ _ _) (fun _ _ h => h)
  have hold : OldAt W w.heap.size (Dk.new n).old := by
    refine ⟨⟨C, ?_, hC⟩, (Dk.new_ok h1 h2).o64⟩; rw [hW, Below.heap_alloc _ _ _ (by simp)]
    exact heap_alloc_new w _
  have hmap : Frs W (w.heap.size + 1) (Dk.new n).old.length (Dk.new n).fresh := by
    refine ⟨0, .map [], ?_, FrsD.empty _⟩; have := World.ownsMap_made (w.alloc (.cells C 118)) Tryz.prog 3 secElem; rw [s1, ← hW] at this
    exact this
  rw [← hW] at s2 ⊢; have a2 : Only (fun _ => False) W (W.alloc (.cells #[.slice (some ⟨w.heap.size, 0, none⟩) n n, .map (some (w.heap.size + 1)), .int .i64 0, .int .i64 0, .bool false] 79)) := Only.alloc _ _ _; rw [← s2]; refine ⟨⟨?_, ?_, ?_, ?_, ?_, ?_, by simp, hold.kept a2 id, hmap.kept a2 id, Dk.new_ok h1 h2, by omega, by omega, by omega⟩, a1.trans a2 (fun _ _ h => h)⟩
  · simp [hl]
  · simp
  · simp [Dk.new]
  · simp [Dk.new]
  · simp [Dk.new]
  · intro j
    simp
set_option maxRecDepth 100000 in
set_option maxHeartbeats 800000 in
theorem new_ok (w : World) (n : Nat) (h1 : 1 ≤ n) (h2 : n ≤ 65536) : Calls Tryz.prog 4 #[.int .i64 (n : Int)] w fun e w' =>
    e = .returned (.tuple #[.pointer (some ⟨w.heap.size + 2, 0, none⟩), .int .i64 0]) ∧ Dsk w' (w.heap.size + 2) w.heap.size (w.heap.size + 1) (Dk.new n) ∧ Only (fun _ => False) w w' := by
  obtain ⟨i0, hi, hz0, hz1, hz2⟩ := info_parts Tryz.infoSecs; have hmk := run_make (P := Tryz.prog) w 76 118 i0 _ Tryz.underlying76 hi hz0 .i64 .i64 n n (by omega) (Int.le_refl _) (by rw [hz2]; omega) (by omega); rw [hz1] at hmk; simp only [Int.toNat_natCast] at hmk; have hms := made_secs n; obtain ⟨C, hC⟩ : ∃ C, madeCells (sec (List.replicate 64 0)).cells (n * 64) = C := ⟨_, rfl⟩; rw [hC] at hmk hms; have HMS := hide hms; clear hC hms hi hz0 hz1 hz2; have hmm := @run_makeMap Tryz.prog
  go_enter Tryz.func4, Tryz.ntmps4
  go_wp2
  go_ret2
  exact ⟨rfl, dsk_new w n C HMS.out h1 h2⟩
theorem Frs.put {w : World} {m n : Nat} {f : Nat → Option (List UInt8)} (h : Frs w m n f) (hn : n ≤ 65536) {k : Nat} (hk : k < n) {b : List UInt8} (hb : b.length = 64) :
    ∃ w', (Instr.mapUpdate 77 (.map (some m)) (.int .i64 (k : Int)) (sec b)).run Tryz.prog w = .ok () w' ∧ Frs w' m n (fun j => if j = k then some b else f j) ∧ Only (fun i => i = m) w w' := by
  obtain ⟨N, D, hown, hD⟩ := h; have hs := FrsD.size_le hown hD; obtain ⟨w', h1, h2, h3⟩ := (tight hown).update keyed Tryz.underlying77 (by unfold maxLen; omega) (key_ok (k := k) (by omega)) (secElem_mk hb)
  exact ⟨w', h1, ⟨_, _, h2, hD.put hown.isMap hk b⟩, Only.grown h3 (fun i hi => by cases hi; rfl)⟩
theorem Dsk.put {w w' : World} {d g m : Nat} {D : Dk} (h : Dsk w d g m D) {k : Nat} {b : List UInt8} (hk : k < D.old.length) (hb : b.length = 64) (hf : Frs w' m D.old.length (fun j => if j = k then some b else D.fresh j)) (ho : Only (fun i => i = m) w w') : Dsk w' d g m (D.put k b) := by
  obtain ⟨c0, c1, c2, c3, c4, fz, lt, old, map, ok, n1, n2, n3⟩ := h
  exact ⟨(ho.cell (p := ⟨d, 0, none⟩) lt n2).trans c0, (ho.cell (p := ⟨d, 1, none⟩) lt n2).trans c1, (ho.cell (p := ⟨d, 2, none⟩) lt n2).trans c2, (ho.cell (p := ⟨d, 3, none⟩) lt n2).trans c3,
    (ho.cell (p := ⟨d, 4, none⟩) lt n2).trans c4, fun j => (ho.frozen (p := ⟨d, j, none⟩) lt n2).trans (fz j), Nat.lt_of_lt_of_le lt ho.size, old.kept ho n3, hf, ok.put hk hb, n1, n2, n3⟩
theorem copy_text (w : World) (b : Nat) (s : ByteArray) (hs : 64 ≤ s.size) (ht : w.there b 0 64) :
    (Builtin.copy_ #[80, 9] 3 #[.slice (some ⟨b, 0, none⟩) 64 64, .string s]).run Tryz.prog w = .ok (.int .i64 64) (w.setCells b 0 (cells (s.data.toList.take 64))) := by
  have hmin : Nat.min s.size 64 = 64 := Nat.min_eq_right hs
  have hl : (cells (s.data.toList.take 64)).length = 64 := by rw [cells_length, List.length_take, ← Lib.size_eq]; omega
  have hz : ∀ w, (Go.sizeOf 5).run Tryz.prog w = .ok 1 w := Tryz.sizeOf5; have hst := run_storeCells_cells (P := Tryz.prog) b 0 (cells (s.data.toList.take 64)) 0 w (by rw [hl]; intro j hj; simpa using (ht j hj).1) (by rw [hl]; intro j hj; simpa using (ht j hj).2) (cells_one _)
  have e : (s.data.toList.map fun x => Value.int .u8 (x.toNat : Int)).take 64 = cells (s.data.toList.take 64) := by unfold cells; rw [List.map_take]
  simp [Builtin.copy_, run_underlying Tryz.underlying80, Builtin.lenOf, Builtin.firstCells, hz, hmin]
  rw [e, hst]
  rfl
theorem write_dead (w : World) (d g m : Nat) (D : Dk) (h : Dsk w d g m D) (hd : D.dead = true) (u v : Value) : Calls Tryz.prog 41 #[.pointer (some ⟨d, 0, none⟩), u, v] w fun e w' => e = .returned (.int .i64 5) ∧ w' = w := by
  have hu := usable_any w d g m D h; rw [hd] at hu; clear hd h
  go_enter Tryz.func41, Tryz.ntmps41
  go_wp2_with (first | (go_at_call 68; refine hu.mono ?_; rintro e w' ⟨rfl, rfl⟩))
  go_ret
  exact ⟨rfl, rfl⟩
theorem write_bad (w : World) (d g m : Nat) (D : Dk) (h : Dsk w d g m D) (hd : D.dead = false) (a : Int) (s : ByteArray) (ha : -9223372036854775808 ≤ a ∧ a < 9223372036854775808) (hs : s.size < 9223372036854775808) (hb : s.size % 64 ≠ 0 ∨ hasB D.old.length a ((s.size / 64 : Nat) : Int) = false) :
    Calls Tryz.prog 41 #[.pointer (some ⟨d, 0, none⟩), .int .i64 a, .string s] w fun e w' => e = .returned (.int .i64 20) ∧ w' = w := by
  have hu := usable_any w d g m D h; have hh := has_any w d g m D h a ((s.size / 64 : Nat) : Int) ha; rw [hd] at hu
  by_cases h1 : s.size % 64 = 0
  · have e : hasB D.old.length a ((s.size / 64 : Nat) : Int) = false := by rcases hb with h | h; exact absurd h1 h; exact h
    rw [e] at hh
    have h1' : (s.size : Int) % 64 = 0 := by omega
    clear hd h hb e ha
    go_enter Tryz.func41, Tryz.ntmps41
    go_wp2_with (first | (go_at_call 68; refine hu.mono ?_; rintro e w' ⟨rfl, rfl⟩) | (go_at_call 71; refine hh.mono ?_; rintro e w' ⟨rfl, rfl⟩))
    go_ret
    exact ⟨rfl, rfl⟩
  · have h1' : ¬ (s.size : Int) % 64 = 0 := by omega
    clear hd h hb ha h1
    go_enter Tryz.func41, Tryz.ntmps41
    go_wp2_with (first | (go_at_call 68; refine hu.mono ?_; rintro e w' ⟨rfl, rfl⟩))
    go_ret
    exact ⟨rfl, rfl⟩
theorem writes_step (D : Dk) (k : Nat) (b : List UInt8) (r : List (List UInt8)) : D.writes k (b :: r) = if D.armed = 1 then ((D.put k b).act, 5) else Dk.writes (D.put k b).act (k + 1) r := rfl
set_option maxRecDepth 100000 in
set_option maxHeartbeats 1600000 in
theorem write_ok (w : World) (d g m : Nat) (D : Dk) (h : Dsk w d g m D) (hd : D.dead = false) (a n : Nat) (s : ByteArray) (hs : s.size = n * 64) (hn : a + n ≤ D.old.length) :
    Calls Tryz.prog 41 #[.pointer (some ⟨d, 0, none⟩), .int .i64 (a : Int), .string s] w fun e w' =>
      e = .returned (.int .i64 (D.writes a (chunks n s.data.toList)).2) ∧ Dsk w' d g m (D.writes a (chunks n s.data.toList)).1 ∧ Only (own d g m) w w' := by
  have hu := usable_any w d g m D h; have h64 := h.ok.hi; have hh := has_any w d g m D h a n (by omega)
  have e : hasB D.old.length a n = true := by unfold hasB; simp; omega
  rw [e] at hh; rw [hd] at hu; have H := hide h; have HD := hide hd
  have hq : (s.size : Int) / 64 = (n : Int) := by omega
  have hr : (s.size : Int) % 64 = 0 := by omega
  obtain ⟨R, hR⟩ : ∃ R, D.writes a (chunks n s.data.toList) = R := ⟨_, rfl⟩; rw [hR]; have HR := hide hR; clear h hd e hR
  go_enter Tryz.func41, Tryz.ntmps41
  go_wp2_with (first
    | (go_at_call 68; refine hu.mono ?_; rintro e w' ⟨rfl, hw⟩; obtain rfl := hw.symm)
    | (go_at_call 71; refine hh.mono ?_; rintro e w' ⟨rfl, hw⟩; obtain rfl := hw.symm))
  clear hu hh
  go_loopw [31] (fun y wr => ∃ (j : Nat) (E : Dk), j ≤ n ∧ y = .int .i64 (j : Int) ∧ E.old.length = D.old.length ∧ Hid (Dsk wr d g m E) ∧ Hid (E.writes (a + j) ((chunks n s.data.toList).drop j) = R) ∧ Hid (Only (own d g m) w wr)) (fun y _ => n - (intOf y).toNat)
  case atStart => exact ⟨0, D, by omega, rfl, rfl, H, HR, hide (Only.refl _ _)⟩
  case round =>
    obtain ⟨j, E, hj, rfl, hl, HE, HW, HO⟩ := hrel
    by_cases hlt : j < n
    · have hx : (s.extract (j * 64) (n * 64)).data.toList.take 64 = (s.data.toList.drop (64 * j)).take 64 := by
        rw [ByteArray.data_extract, Array.toList_extract, List.extract_eq_take_drop]; rw [List.take_take]
        congr 1
        · omega
        · rw [Nat.mul_comm]
      obtain ⟨c, hc⟩ : ∃ c, (s.data.toList.drop (64 * j)).take 64 = c := ⟨_, rfl⟩; have hcp := copy_text (wr.alloc (secObj zeros)).drew wr.heap.size (s.extract (j * 64) (n * 64)) (by simp; omega) (by simp only [World.there_drew]; exact alloc_there wr zeros zeros_len); rw [hx, hc] at hcp
      have hl2 : c.length = 64 := by
        rw [← hc]
        simp
        have : s.data.size = n * 64 := hs
        omega
      have HC := hide hc; clear hx hc
      have hj1 : (j : Int) * 64 ≤ (n : Int) * 64 := by omega
      go_wp2_with (first
        | (refine wpList_alloc_sec _ rfl rfl ?_))
      go_frame
      go_region
      obtain ⟨X, hX⟩ : ∃ X, X = (wr.alloc (secObj zeros)).drew.setCells wr.heap.size 0 (cells c) := ⟨_, rfl⟩; rw [← hX]
      have hO1 : Only (fun _ => False) wr X := by
        rw [hX]
        exact ((Only.alloc _ _ _).trans (Only.drew _ _) (fun _ _ h => h)).trans (Only.setCells (S := fun i => i = wr.heap.size) _ rfl _ _ _) (fun i hi e => by omega)
      have hrg : X.rangeAt wr.heap.size 0 (cells c) := by
        rw [hX]
        exact World.rangeAt_setCells_same _ _ _ _ (by rw [cells_length, hl2]; simp only [World.there_drew]; exact alloc_there wr zeros zeros_len)
      clear hX hcp
      have hrd : X.drew.rangeAt wr.heap.size 0 (cells c) := by simpa using hrg
      have hus := Tryz.underlying118
      have his : (Tryz.prog.info? 118).map (·.size) = some (cells c).length := by rw [cells_length, hl2]; exact Tryz.infoSec
      have hls : (cells c).length = 64 := by rw [cells_length, hl2]
      have hon := cells_one c
      have hwm : wr.heap.size ≠ m := by have := HE.out.map.lt; omega
      have hE2 := (HE.out.same hO1).same (Only.drew _ X); have c1 := hE2.c1; obtain ⟨X2, hmu, hfr, hO2⟩ := hE2.map.put (by omega) (k := a + j) (by omega) hl2; have hE3 := hE2.put (by omega) hl2 hfr hO2; have HO3 : Hid (Only (own d g m) w X2) := ((HO.out.trans hO1 (fun _ _ h => h.elim)).trans (Only.drew (fun _ => False) _) (fun _ _ h => h.elim)).trans hO2 (fun i _ e => .inr (.inr e)); have hdi := dies_any X2 d g m _ hE3; have c12 := hE3.c1
      have hr2 : X2.rangeAt wr.heap.size 0 (cells c) := by
        intro i v hv; rw [hO2.cell (p := ⟨wr.heap.size, 0 + i, none⟩) (World.block_lt_of_cell? _ _ (hrd i v hv)) hwm]
        exact hrd i v hv
      have HE3 := hide hE3; have hws := writes_step E (a + j) c ((chunks n s.data.toList).drop (j + 1))
      have hwr : E.writes (a + j) (c :: (chunks n s.data.toList).drop (j + 1)) = R := by
        rw [← HW.out, chunks_drop n _ j hlt, HC.out]
      rw [hwr] at hws; have HWS := hide hws; clear hO1 hrg hE2 hfr hO2 hE3 hws hwr; have ea : (E.put (a + j) c).armed = E.armed := rfl; rw [ea] at hdi
      have hmu' : Sem.run Tryz.prog (Instr.mapUpdate 77 (.map (some m)) (.int .i64 (IntKind.i64.wrap ((a : Int) + (j : Int)))) (.agg (cells c).toArray)) X.drew = .ok () X2 := by
        have : IntKind.i64.wrap ((a : Int) + (j : Int)) = ((a + j : Nat) : Int) := by rw [IntKind.wrap_i64]; omega
        rw [this]
        exact hmu
      clear hmu
      by_cases h1 : E.armed = 1
      · have hw2 : R = ((E.put (a + j) c).act, 5) := by have := HWS.out; rwa [if_pos h1] at this
        simp only [h1, decide_true] at hdi; have HW2 := hide hw2; clear h1 hw2
        go_wp2_with fail
        go_region_held3 (fun w' => w'.cell? ⟨d, 1, none⟩ = some (.map (some m)) ∧ w'.rangeAt wr.heap.size 0 (cells c)) (first | exact ⟨c1, hrd⟩ | exact ⟨c12, hr2⟩ | go_keep_ranges) (fail)
        go_wp2_with (first | (go_at_call 69; refine hdi.mono ?_; rintro e w3 ⟨rfl, hE4, hO4⟩))
        go_ret
        rw [HW2.out]
        exact ⟨rfl, hE4, HO3.out.trans hO4 (fun _ _ h => h)⟩
      · have hw2 : Dk.writes (E.put (a + j) c).act (a + j + 1) ((chunks n s.data.toList).drop (j + 1)) = R := by have := HWS.out; rw [if_neg h1] at this; exact this.symm
        simp only [h1, decide_false] at hdi; have HW2 := hide hw2; clear h1 hw2
        go_wp2_with fail
        go_region_held3 (fun w' => w'.cell? ⟨d, 1, none⟩ = some (.map (some m)) ∧ w'.rangeAt wr.heap.size 0 (cells c)) (first | exact ⟨c1, hrd⟩ | exact ⟨c12, hr2⟩ | go_keep_ranges) (fail)
        go_wp2_with (first | (go_at_call 69; refine hdi.mono ?_; rintro e w3 ⟨rfl, hE4, hO4⟩))
        go_roundw
        case rel => exact ⟨j + 1, (E.put (a + j) c).act, by omega, by go_num, hl, hide hE4, HW2, hide (HO3.out.trans hO4 (fun _ _ h => h))⟩
        case measure => simp [intOf]; omega
    · have ej : j = n := by omega
      subst ej
      have e : R = (E, 0) := by
        rw [← HW.out, List.drop_of_length_le (by rw [chunks_len]; omega)]
        rfl
      subst e
      go_wp2
      go_ret
      exact ⟨rfl, HE.out, HO.out⟩
theorem write_any (w : World) (d g m : Nat) (D : Dk) (h : Dsk w d g m D) (a : Int) (s : ByteArray) (ha : -9223372036854775808 ≤ a ∧ a < 9223372036854775808) (hs : s.size < 9223372036854775808) :
    Calls Tryz.prog 41 #[.pointer (some ⟨d, 0, none⟩), .int .i64 a, .string s] w fun e w' =>
      e = .returned (.int .i64 (D.write a s.data.toList).2) ∧ Dsk w' d g m (D.write a s.data.toList).1 ∧ Only (own d g m) w w' := by
  have hl : s.data.toList.length = s.size := by simp
  cases hd : D.dead
  · by_cases hb : s.size % 64 = 0 ∧ hasB D.old.length a ((s.size / 64 : Nat) : Int) = true
    · have e : D.write a s.data.toList = D.writes a.toNat (chunks (s.size / 64) s.data.toList) := by unfold Dk.write; simp only [hl, hd, if_pos hb]; rfl
      rw [e]; obtain ⟨h1, h2⟩ := hb; unfold hasB at h2
      simp at h2
      obtain ⟨a', rfl⟩ := Int.eq_ofNat_of_zero_le h2.1
      exact write_ok w d g m D h hd a' (s.size / 64) s (by omega) (by omega)
    · have e : D.write a s.data.toList = (D, 20) := by unfold Dk.write; simp only [hl, hd, if_neg hb]; rfl
      rw [e]; refine (write_bad w d g m D h hd a s ha hs ?_).mono ?_
      · by_cases h1 : s.size % 64 = 0
        · right; simpa using fun e => hb ⟨h1, e⟩
        · exact .inl h1
      · rintro e w' ⟨rfl, rfl⟩
        exact ⟨rfl, h, Only.refl _ _⟩
  · have e : D.write a s.data.toList = (D, 5) := by unfold Dk.write; simp [hd]
    rw [e]; refine (write_dead w d g m D h hd _ _).mono ?_; rintro e w' ⟨rfl, rfl⟩
    exact ⟨rfl, h, Only.refl _ _⟩
end Go.Proofs.YtebijheonkagfaaGreatDoor
namespace Go.Proofs.YtebijheonkagfaaGreatDoor
open Go.RowKit Go.Maps
theorem Frs.clear {w : World} {m n : Nat} {f : Nat → Option (List UInt8)} (h : Frs w m n f) :
    ∃ w', (∀ ty, (Builtin.clear_ #[77] ty #[.map (some m)]).run Tryz.prog w = .ok (.tuple #[]) w') ∧ Frs w' m n (fun _ => none) ∧ Only (fun i => i = m) w w' := by
  obtain ⟨N, D, ⟨es, clock, hb, F, hs, hD⟩, hf⟩ := h; refine ⟨ChangeMaps.setBlock w m (.map #[] clock), fun ty => ?_, ⟨0, .map [], ⟨#[], clock, ?_, ⟨by simp, MapKept.stamped_empty _, by simp⟩, Nat.le_refl _, rfl⟩, FrsD.empty n⟩, ?_⟩
  · simp [Builtin.clear_, run_underlying Tryz.underlying77, MapKept.run_getObj_map hb, MapKept.run_setObj_map _ hb, ChangeMaps.setBlock]
  · exact ChangeMaps.heap_setBlock_same hb _
  · exact ⟨rfl, rfl, rfl, by simp [ChangeMaps.setBlock], fun i _ hi => ChangeMaps.heap_setBlock_other hb _ (fun e => hi e)⟩
def mergeL (E : Dk) (left : Lit → Bool) : List (List UInt8) :=
  (List.range E.old.length).map fun k => if (E.fresh k).isSome && !left (.int .i64 (k : Int)) then (E.fresh k).getD [] else E.old.getD k []
theorem mergeL_len (E : Dk) (left : Lit → Bool) : (mergeL E left).length = E.old.length := by simp [mergeL]
theorem mergeL_get (E : Dk) (left : Lit → Bool) (k : Nat) (hk : k < E.old.length) : (mergeL E left).getD k [] = if (E.fresh k).isSome && !left (.int .i64 (k : Int)) then (E.fresh k).getD [] else E.old.getD k [] := by
  simp only [mergeL, List.getD_eq_getElem?_getD, List.getElem?_map, List.getElem?_range hk, Option.map_some, Option.getD_some]
theorem list_ext {l m : List (List UInt8)} (h : l.length = m.length) (he : ∀ k, k < l.length → l.getD k [] = m.getD k []) : l = m := by
  refine List.ext_getElem h (fun k h1 h2 => ?_); have := he k h1
  simpa [List.getD_eq_getElem?_getD, h1, h2] using this
theorem mergeL_start (E : Dk) (left : Lit → Bool) (h : ∀ k : Nat, left (.int .i64 (k : Int)) = (E.fresh k).isSome) : mergeL E left = E.old := by
  refine list_ext (mergeL_len _ _) (fun k hk => ?_); rw [mergeL_len] at hk; rw [mergeL_get E left k hk, h k]
  cases (E.fresh k).isSome <;> simp
theorem mergeL_end (E : Dk) (left : Lit → Bool) (h : ∀ kl, left kl = false) : mergeL E left = E.synced.old := by
  refine list_ext (by simp [mergeL, Dk.synced]) (fun k hk => ?_); rw [mergeL_len] at hk; rw [mergeL_get E left k hk, h]; simp only [Dk.synced, List.getD_eq_getElem?_getD, List.getElem?_map, List.getElem?_range hk, Option.map_some, Option.getD_some, Dk.cur]
  cases hf : E.fresh k <;> simp
theorem mergeL_step (E : Dk) (left : Lit → Bool) (k : Nat) (b : List UInt8) (hk : k < E.old.length) (hf : E.fresh k = some b) : (mergeL E left).set k b = mergeL E (fun z => left z && !z.sameKey (.int .i64 (k : Int))) := by
  refine list_ext (by simp [mergeL]) (fun j hj => ?_)
  have hj' : j < E.old.length := by simpa [mergeL] using hj
  rw [getD_set, mergeL_get E _ j hj', mergeL_get E _ j hj', mergeL_len]
  by_cases e : j = k
  · subst e
    rw [if_pos ⟨rfl, hk⟩, WideAt.sameKey_self (a := .int .i64 (j : Int)) trivial]
    simp [hf]
  · rw [if_neg (fun h => e h.1)]
    have : (Lit.int .i64 (j : Int)).sameKey (.int .i64 (k : Int)) = false := sameKey_ne (by simp; omega); rw [this]
    simp
def Dk.withOld (E : Dk) (o : List (List UInt8)) : Dk := { E with old := o }
theorem Dk.Ok.withOld {E : Dk} (h : E.Ok) {o : List (List UInt8)} (hl : o.length = E.old.length) (h64 : ∀ k, k < o.length → (o.getD k []).length = 64) : (E.withOld o).Ok :=
  ⟨by simpa [Dk.withOld, hl] using h.lo, by simpa [Dk.withOld, hl] using h.hi, h64, fun k b hb => by simpa [Dk.withOld, hl] using h.f64 k b hb, h.arm0, h.arm1⟩
theorem Dsk.setOld {w : World} {d g m : Nat} {D : Dk} (h : Dsk w d g m D) {k : Nat} {b : List UInt8} (hk : k < D.old.length) (hb : b.length = 64) : Dsk (w.setCells g (k * 64) (cells b)) d g m (D.withOld (D.old.set k b)) := by
  have ho : Only (fun i => i = g) w (w.setCells g (k * 64) (cells b)) := Only.setCells (S := fun i => i = g) g rfl _ _ _; obtain ⟨c0, c1, c2, c3, c4, fz, lt, old, map, ok, n1, n2, n3⟩ := h
  have hl : (D.old.set k b).length = D.old.length := by simp
  refine ⟨(ho.cell (p := ⟨d, 0, none⟩) lt n1).trans (by simpa [Dk.withOld] using c0), (ho.cell (p := ⟨d, 1, none⟩) lt n1).trans c1, (ho.cell (p := ⟨d, 2, none⟩) lt n1).trans c2, (ho.cell (p := ⟨d, 3, none⟩) lt n1).trans c3,
    (ho.cell (p := ⟨d, 4, none⟩) lt n1).trans c4, fun j => (ho.frozen (p := ⟨d, j, none⟩) lt n1).trans (fz j), Nat.lt_of_lt_of_le lt ho.size, old.set hk hb, ?_, ok.withOld hl ?_, n1, n2, n3⟩
  · have := map.kept ho (fun e => n3 e.symm)
    simpa [Dk.withOld] using this
  · exact (old.set hk hb).o64
theorem Dsk.cleared {w w' : World} {d g m : Nat} {D : Dk} (h : Dsk w d g m D) (hf : Frs w' m D.old.length (fun _ => none)) (ho : Only (fun i => i = m) w w') : Dsk w' d g m { D with fresh := fun _ => none } := by
  obtain ⟨c0, c1, c2, c3, c4, fz, lt, old, map, ok, n1, n2, n3⟩ := h
  exact ⟨(ho.cell (p := ⟨d, 0, none⟩) lt n2).trans c0, (ho.cell (p := ⟨d, 1, none⟩) lt n2).trans c1, (ho.cell (p := ⟨d, 2, none⟩) lt n2).trans c2, (ho.cell (p := ⟨d, 3, none⟩) lt n2).trans c3,
    (ho.cell (p := ⟨d, 4, none⟩) lt n2).trans c4, fun j => (ho.frozen (p := ⟨d, j, none⟩) lt n2).trans (fz j), Nat.lt_of_lt_of_le lt ho.size, old.kept ho n3, hf, ⟨ok.lo, ok.hi, ok.o64, (fun k b hb => by cases hb), ok.arm0, ok.arm1⟩, n1, n2, n3⟩
theorem Only.toGrown {w w' : World} {x : Nat} (h : Only (fun i => i = x) w w') : w.grownBy w' (some x) := ⟨h.os, h.tape, h.output, h.size, fun i hi hne => h.block i hi (fun e => hne (by rw [e]))⟩
theorem Only.toGrown0 {w w' : World} (h : Only (fun _ => False) w w') : w.grownBy w' none := ⟨h.os, h.tape, h.output, h.size, fun i hi _ => h.block i hi (fun e => e)⟩
theorem withOld_twice (E : Dk) (a b : List (List UInt8)) : (E.withOld a).withOld b = E.withOld b := rfl
theorem inv_key : ∀ key kl, keyOf Tryz.prog 3 key = some kl → ∃ x : Int, key = Value.int .i64 x := fun key kl hk => by
  obtain ⟨x, rfl, _⟩ := Maps.keyOf_int_inv Tryz.underlying3 hk
  exact ⟨x, rfl⟩
theorem inv_sec : ∀ v y, secElem v = some y → ∃ c : List UInt8, v = sec c := fun v y hv => by
  obtain ⟨l, _, rfl, _⟩ := secElem_inv hv
  exact ⟨l, rfl⟩
theorem entry_is {D : DataW Unit} {n : Nat} {f : Nat → Option (List UInt8)} (hD : FrsD D n f) {x : Int} {c : List UInt8} {kl : Lit} {yd : DataW Unit} {yp : List MemPlace} (hkey : keyOf Tryz.prog 3 (Value.int .i64 x) = some kl) (hv : secElem (sec c) = some (yd, yp)) (hat : ∀ zd, D.atKey kl zd = yd) :
    ∃ k : Nat, k < n ∧ x = (k : Int) ∧ kl = .int .i64 (k : Int) ∧ f k = some c ∧ c.length = 64 := by
  obtain ⟨x', ex, rfl, _⟩ := Maps.keyOf_int_inv Tryz.underlying3 hkey
  cases ex
  have hh := Maps.has_true_of_atKey hat; obtain ⟨k, hk, e⟩ := hD.key _ hh
  cases e
  obtain ⟨l, hl, e2, e3⟩ := secElem_inv hv; obtain rfl := sec_inj e2; simp only [Prod.mk.injEq] at e3
  have hs : (f k).isSome = true := by rw [← hD.has k]; exact hh
  obtain ⟨b, hb⟩ := Option.isSome_iff_exists.1 hs; have h1 := hD.at_ k b hb (.lit (.string [])); rw [hat, e3.1] at h1; simp only [DataW.lit.injEq, Lit.string.injEq] at h1
  exact ⟨k, hk, rfl, rfl, by rw [hb, h1], hl⟩
theorem sync_dead (w : World) (d g m : Nat) (D : Dk) (h : Dsk w d g m D) (hd : D.dead = true) : Calls Tryz.prog 21 #[.pointer (some ⟨d, 0, none⟩)] w fun e w' => e = .returned (.int .i64 5) ∧ w' = w := by
  have hu := usable_any w d g m D h; rw [hd] at hu; clear hd h
  go_enter Tryz.func21, Tryz.ntmps21
  go_wp2_with (first | (go_at_call 68; refine hu.mono ?_; rintro e w' ⟨rfl, rfl⟩))
  go_ret
  exact ⟨rfl, rfl⟩
theorem sync_dies (w : World) (d g m : Nat) (D : Dk) (h : Dsk w d g m D) (hd : D.dead = false) (h1 : D.armed = 1) : Calls Tryz.prog 21 #[.pointer (some ⟨d, 0, none⟩)] w fun e w' => e = .returned (.int .i64 5) ∧ Dsk w' d g m D.act ∧ Only (own d g m) w w' := by
  have hu := usable_any w d g m D h; have hdi := dies_any w d g m D h; rw [hd] at hu; simp only [h1, decide_true] at hdi; clear hd h h1
  go_enter Tryz.func21, Tryz.ntmps21
  go_wp2_with (first | (go_at_call 68; refine hu.mono ?_; rintro e w' ⟨rfl, hw⟩; obtain rfl := hw.symm) | (go_at_call 69; refine hdi.mono ?_; rintro e w3 ⟨rfl, hE4, hO4⟩))
  go_ret
  exact ⟨rfl, hE4, hO4⟩
set_option maxRecDepth 100000 in
set_option maxHeartbeats 1600000 in
theorem sync_ok (w : World) (d g m : Nat) (D : Dk) (h : Dsk w d g m D) (hd : D.dead = false) (h1 : D.armed ≠ 1) : Calls Tryz.prog 21 #[.pointer (some ⟨d, 0, none⟩)] w fun e w' => e = .returned (.int .i64 0) ∧ Dsk w' d g m D.act.synced ∧ Only (own d g m) w w' := by
  have hu := usable_any w d g m D h; have hdi := dies_any w d g m D h; rw [hd] at hu; simp only [h1, decide_false] at hdi; have hlt := And.intro h.lt (And.intro h.old.lt h.map.lt); clear hd h h1
  go_enter Tryz.func21, Tryz.ntmps21
  go_wp2_with (first | (go_at_call 68; refine hu.mono ?_; rintro e w' ⟨rfl, hw⟩; obtain rfl := hw.symm))
  refine hdi.mono ?_; rintro e w1 ⟨rfl, hE, hO1⟩; clear hu hdi; obtain ⟨E, hEq⟩ : ∃ E, D.act = E := ⟨_, rfl⟩; have hc1 := hE.c1; obtain ⟨N, DD, hown, hD⟩ := hE.map; have hs1 := hO1.size; rw [hEq] at hE hD; have HE := hide hE; have HD := hide hD; have HO1 := hide hO1; have HEq := hide hEq; clear hE hD hO1 hEq
  go_wp2_with (first
    | (at_range; refine wpList_range_own _ rfl _ 77 rfl 3 118 keyed Tryz.underlying77 _ m N _ rfl hown ?_; intro w0 hrg0 hg0 hs0))
  go_frame
  have hO0 : Only (fun _ => False) w1 w0 := Only.grown hg0 (fun k hk => by cases hk); have hst : mergeL E (has DD) = E.old := mergeL_start E _ HD.out.has
  have HS0 : Hid (Dsk w0 d g m (E.withOld (mergeL E (has DD)))) := by
    unfold Hid; rw [hst]
    exact HE.out.same hO0
  have HOw : Hid (Only (own d g m) w w0) := HO1.out.trans hO0 (fun _ _ h => h.elim); have HR0 := hide hrg0; obtain ⟨r, hr⟩ : ∃ r, w1.heap.size = r := ⟨_, rfl⟩; rw [hr] at HR0 hs1 ⊢; clear hst hO0 hg0 hs0 hrg0 hr hc1 hown
  go_loopw [18] (fun _ wr => ∃ (left : Lit → Bool) (cnt : Nat), Hid (wr.ranges Tryz.prog 3 secElem m r N DD left cnt) ∧ Hid (Dsk wr d g m (E.withOld (mergeL E left))) ∧ Hid (Only (own d g m) w wr)) (fun _ wr => wr.rangeLeft m r)
  case atStart => exact ⟨_, _, HR0, HS0, HOw⟩
  case round =>
    obtain ⟨left, cnt, HR, HS, HO⟩ := hrel
    go_wp2_with (first
      | (at_next; refine wpList_next_ranges _ rfl _ rfl 3 keyed secElem (Value.int .i64) sec inv_key inv_sec m r N _ _ _ rfl HR.out ?_ ?_))
    · intro _ hl0
      obtain ⟨w2, hcl, hfr, hO2⟩ := HS.out.map.clear; have hc1 := HS.out.c1; have hS2 := HS.out.cleared hfr hO2; rw [mergeL_end E left hl0] at hS2; have HF := hide (And.intro hS2 (HO.out.trans hO2 (fun i _ e => .inr (.inr e)))); clear hfr hO2 hS2
      go_wp2
      go_ret
      rw [HEq.out]
      exact ⟨rfl, HF.out.1, HF.out.2⟩
    · intro x c kl yd yp w2 cnt2 hkey hlk hv hat hrg2 hcl hg2 hs2 hen
      obtain ⟨k, hk, rfl, rfl, hf, hc64⟩ := entry_is HD.out hkey hv hat; have hO2 : Only (fun i => i = r) wr w2 := Only.grown hg2 (fun i hi => by cases hi; rfl); have hS2 := HS.out.kept hO2 (by omega) (by omega) (by omega); have HR2 := hide hrg2; have HS2 := hide hS2; have HO2 : Hid (Only (own d g m) w w2) := HO.out.trans hO2 (fun i hi e => by omega); have HM : Hid (cnt2 < cnt) := hcl; have HL : Hid (wr.rangeLeft m r = cnt) := HR.out.left_eq; clear hkey hlk hv hat hrg2 hcl hg2 hs2 hO2 hS2
      go_wp2_with (first
        | (refine wpList_alloc_sec _ rfl rfl ?_)
        | (refine wpList_store_sec _ rfl (.tmp 5) (.tmp 22) rfl _ _ rfl c rfl hc64 (alloc_there _ zeros zeros_len) ?_))
      go_frame
      obtain ⟨X, hX⟩ : ∃ X, X = (w2.alloc (secObj zeros)).setCells w2.heap.size 0 (cells c) := ⟨_, rfl⟩; rw [← hX]
      have hO3 : Only (fun _ => False) w2 X := by rw [hX]; exact secVar_only w2 c
      have hrg : X.rangeAt w2.heap.size 0 (cells c) := by rw [hX]; exact secVar_range w2 c hc64
      clear hX; have hS3 := HS2.out.same hO3; have hml : (E.withOld (mergeL E left)).old.length = E.old.length := mergeL_len E left; have c0 := hS3.c0; rw [hml] at c0; have hth : X.there g (k * 64) 64 := hS3.old.there (by rw [hml]; exact hk)
      have hne : w2.heap.size ≠ g := by have := HS2.out.old.lt; omega
      have hus := Tryz.underlying118
      have his : (Tryz.prog.info? 118).map (·.size) = some (cells c).length := by rw [cells_length, hc64]; exact Tryz.infoSec
      have hls : (cells c).length = 64 := by rw [cells_length, hc64]
      have hon := cells_one c
      have hk0 : (0 : Int) ≤ (k : Int) := by omega
      have hk1 : (k : Int) < (E.old.length : Int) := by omega
      have hS4 := (hS3.same (Only.drew _ X)).setOld (k := k) (by rw [hml]; exact hk) hc64
      have e4 : (E.withOld (mergeL E left)).withOld ((mergeL E left).set k c) = E.withOld (mergeL E (fun z => left z && !z.sameKey (.int .i64 (k : Int)))) := by rw [mergeL_step E left k c hk hf, withOld_twice]
      have hS5 : Dsk (X.drew.setCells g (k * 64) (cells c)) d g m (E.withOld (mergeL E (fun z => left z && !z.sameKey (.int .i64 (k : Int))))) := by rw [← e4]; exact hS4
      have hO4 : Only (fun i => i = g) X.drew (X.drew.setCells g (k * 64) (cells c)) := Only.setCells (S := fun i => i = g) g rfl _ _ _; have hR5 := ((HR2.out.kept hO3.toGrown0 (by simp) (by simp)).kept (Only.drew (fun _ => False) X).toGrown0 (by simp) (by simp)).kept hO4.toGrown (fun e => HS2.out.ne3 (Option.some.inj e).symm) (fun e => by have := Option.some.inj e; omega); have HO5 : Hid (Only (own d g m) w (X.drew.setCells g (k * 64) (cells c))) := ((HO2.out.trans hO3 (fun _ _ h => h.elim)).trans (Only.drew (fun _ => False) X) (fun _ _ h => h.elim)).trans hO4 (fun i _ e => .inr (.inl e)); have HS5 := hide hS5; have HR5 := hide hR5; have hc0' : X.drew.cell? ⟨d, 0, none⟩ = some (.slice (some ⟨g, 0, none⟩) E.old.length E.old.length) := c0
      have hrd : X.drew.rangeAt w2.heap.size 0 (cells c) := by simpa using hrg
      have htd : X.drew.there g (k * 64) 64 := by simpa using hth
      have hdg := HS2.out.ne1; have cz0 : (X.drew.setCells g (k * 64) (cells c)).cell? ⟨d, 0, none⟩ = some (.slice (some ⟨g, 0, none⟩) E.old.length E.old.length) := (hO4.cell (p := ⟨d, 0, none⟩) (World.block_lt_of_cell? _ _ hc0') hdg).trans hc0'; have rz0 : (X.drew.setCells g (k * 64) (cells c)).rangeAt w2.heap.size 0 (cells c) := World.rangeAt_setCells_apart hrd _ _ _ (.inl hne); have tz0 : (X.drew.setCells g (k * 64) (cells c)).there g (k * 64) 64 := World.there_setCells htd _ _ _; clear hO3 hS3 hS4 e4 hS5 hO4 hR5 hml hf hrg hth c0
      go_region_held3 (fun w' => w'.cell? ⟨d, 0, none⟩ = some (.slice (some ⟨g, 0, none⟩) E.old.length E.old.length) ∧ w'.rangeAt w2.heap.size 0 (cells c) ∧ w'.there g (k * 64) 64) (first | exact ⟨hc0', hrd, htd⟩ | exact ⟨cz0, rz0, tz0⟩) (fail)
      go_wp2_with fail
      go_roundw
      case rel => exact ⟨_, _, HR5, HS5, HO5⟩
      case measure => rw [HR5.out.left_eq, HL.out]; exact HM.out
theorem sync_any (w : World) (d g m : Nat) (D : Dk) (h : Dsk w d g m D) : Calls Tryz.prog 21 #[.pointer (some ⟨d, 0, none⟩)] w fun e w' => e = .returned (.int .i64 D.sync.2) ∧ Dsk w' d g m D.sync.1 ∧ Only (own d g m) w w' := by
  unfold Dk.sync
  cases hd : D.dead
  · by_cases h1 : D.armed = 1
    · simp only [h1, if_true]
      exact sync_dies w d g m D h hd h1
    · simp only [h1, if_false]
      exact sync_ok w d g m D h hd h1
  · refine (sync_dead w d g m D h hd).mono ?_
    rintro e w' ⟨rfl, rfl⟩
    exact ⟨rfl, h, Only.refl _ _⟩
end Go.Proofs.YtebijheonkagfaaGreatDoor
