/- The map of open transactions, and the table, in memory. -/
import Derived.Test.YtmcghpeamnmbpaaOGrow
import Derived.Maps.OwnSet
import Derived.Maps.RangeWalk
namespace Go.Proofs.Ytmcghpeamnmbpaa
open Go.RowKit Go.Maps

/-- A pointer to a block's head. -/
def pv (b : Nat) : Value := .pointer (some ⟨b, 0, none⟩)
/-- How a pointer reads as a map's element: as itself. -/
def ptrElem (v : Value) : Option (DataW Value × List MemPlace) := some (.held v, [])
set_option maxRecDepth 100000 in
theorem zero_ptr (w : World) : (zeroValue 67).run Try.prog w = .ok (.pointer none) w := rfl
theorem keyedI : Keyed Try.prog 3 := int_keyed Try.underlying3
theorem keyI {x : Int} (h : N64 x) : keyOf Try.prog 3 (.int .i64 x) = some (.int .i64 x) := keyOf_int_mk Try.underlying3 (WalkArith.wf_i64 (by unfold N64 at h; omega))
/-- Where each session's transaction lies. -/
abbrev Gm := Int → Option Nat
def Gm.none : Gm := fun _ => Option.none
def Gm.set (g : Gm) (a : Int) (b : Nat) : Gm := fun j => if j = a then some b else g j
def Gm.drop (g : Gm) (a : Int) : Gm := fun j => if j = a then Option.none else g j
def Gm.v (g : Gm) (a : Int) : Value := match g a with
  | some b => pv b
  | Option.none => .pointer Option.none
/-- The datum of the map. -/
structure OpD (D : DataW Value) (g : Gm) : Prop where
  key : ∀ kl, Maps.has D kl = true → ∃ x : Int, kl = .int .i64 x
  has : ∀ x : Int, Maps.has D (.int .i64 x) = (g x).isSome
  at_ : ∀ (x : Int) b, g x = some b → ∀ z, D.atKey (.int .i64 x) z = .held (pv b)
def Opm (w : World) (m n : Nat) (g : Gm) : Prop := ∃ D, w.ownsMap Try.prog 3 ptrElem m n D ∧ OpD D g
theorem Opm.kept {S : Nat → Prop} {w w' : World} {m n : Nat} {g : Gm} (h : Opm w m n g) (ho : Only S w w') (hS : ¬ S m) : Opm w' m n g := by
  obtain ⟨D, ⟨es, clock, hb, F, hs, hD⟩, hf⟩ := h
  exact ⟨D, ⟨es, clock, (ho.block m (Array.getElem?_eq_some_iff.1 hb).1 hS).trans hb, F, hs, hD⟩, hf⟩
theorem Opm.lt {w : World} {m n : Nat} {g : Gm} (h : Opm w m n g) : m < w.heap.size := by
  obtain ⟨D, h, _⟩ := h
  exact h.lt
theorem Opm.mono {w : World} {m n n' : Nat} {g : Gm} (h : Opm w m n g) (hn : n ≤ n') : Opm w m n' g := by
  obtain ⟨D, h, hf⟩ := h
  exact ⟨D, h.mono hn, hf⟩
theorem OpD.empty : OpD (.map []) Gm.none := by
  refine ⟨?_, ?_, ?_⟩
  · intro x hx; simp [Maps.has] at hx
  · intro k; simp [Maps.has, Gm.none]
  · intro k b h; cases h
theorem OpD.put {D : DataW Value} {g : Gm} (hm : Maps.IsMap D) (h : OpD D g) (k : Int) (b : Nat) :
    OpD (D.put (.int .i64 k) (.held (pv b))) (g.set k b) := by
  have kl : WideAt.IsKeyLit (.int .i64 k) := trivial
  unfold Gm.set
  refine ⟨?_, ?_, ?_⟩
  · intro x hx
    by_cases e : x = .int .i64 k
    · exact ⟨k, e⟩
    · rw [Maps.has_put_other e] at hx
      exact h.key x hx
  · intro j
    by_cases e : j = k
    · subst e
      rw [Maps.has_put_same hm kl]
      simp
    · rw [Maps.has_put_other (by simpa using e), h.has j]
      simp [e]
  · intro j x hx z
    by_cases e : j = k
    · subst e
      simp only [if_true] at hx
      cases hx
      rw [Maps.atKey_put_same hm kl]
    · simp only [if_neg e] at hx
      rw [Maps.atKey_put_other (by simpa using e)]
      exact h.at_ j x hx z
theorem OpD.del {D : DataW Value} {g : Gm} (h : OpD D g) (k : Int) : OpD (D.del (.int .i64 k)) (g.drop k) := by
  unfold Gm.drop
  refine ⟨?_, ?_, ?_⟩
  · intro x hx
    by_cases e : x = .int .i64 k
    · exact ⟨k, e⟩
    · rw [Maps.has_del_other e] at hx
      exact h.key x hx
  · intro j
    by_cases e : j = k
    · subst e
      rw [Maps.has_del_same]
      simp
    · rw [Maps.has_del_other (by simpa using e), h.has j]
      simp [e]
  · intro j x hx z
    by_cases e : j = k
    · subst e
      simp at hx
    · simp only [if_neg e] at hx
      rw [Maps.atKey_del_other (by simpa using e)]
      exact h.at_ j x hx z
theorem Opm.look {w : World} {m n : Nat} {g : Gm} (h : Opm w m n g) {k : Int} (hk : N64 k) :
    (Instr.lookup 61 (.map (some m)) (.int .i64 k) true).run Try.prog w = .ok (.tuple #[g.v k, .bool (g k).isSome]) w
    ∧ (Instr.lookup 61 (.map (some m)) (.int .i64 k) false).run Try.prog w = .ok (g.v k) w := by
  obtain ⟨D, hown, hD⟩ := h
  have hz : ptrElem (.pointer none) = some (.held (.pointer none), []) := rfl
  obtain ⟨v, ps, h1, h2⟩ := hown.look_ok keyedI Try.underlying61 (zero_ptr w) hz (keyI hk)
  obtain ⟨v', ps', h3, h4⟩ := hown.lookup keyedI Try.underlying61 (zero_ptr w) hz (keyI hk)
  rw [hD.has k] at h1
  have e : D.atKey (.int .i64 k) (.held (.pointer none)) = .held (g.v k) := by
    unfold Gm.v
    cases hf : g k with
    | none =>
      rw [Maps.atKey_of_not_has (by rw [hD.has k, hf]; rfl)]
    | some b => rw [hD.at_ k b hf]
  rw [e] at h2 h4
  unfold ptrElem at h2 h4
  simp only [Option.some.injEq, Prod.mk.injEq, DataW.held.injEq] at h2 h4
  rw [h2.1] at h1
  rw [h4.1] at h3
  exact ⟨h1, h3⟩
theorem Opm.put {w : World} {m n : Nat} {g : Gm} (h : Opm w m n g) (hn : n < maxLen) {k : Int} (hk : N64 k) (b : Nat) :
    ∃ w', (Instr.mapUpdate 61 (.map (some m)) (.int .i64 k) (.pointer (some ⟨b, 0, none⟩))).run Try.prog w = .ok () w' ∧ Opm w' m (n + 1) (g.set k b) ∧ Only (fun i => i = m) w w' := by
  obtain ⟨D, hown, hD⟩ := h
  obtain ⟨w', h1, h2, h3⟩ := hown.update keyedI Try.underlying61 hn (keyI hk) (show ptrElem (pv b) = some (.held (pv b), []) from rfl)
  exact ⟨w', h1, ⟨_, h2, hD.put hown.isMap k b⟩, Only.grown h3 (fun i hi => by cases hi; rfl)⟩
theorem Opm.cut {w : World} {m n : Nat} {g : Gm} (h : Opm w m n g) {k : Int} (hk : N64 k) :
    ∃ w', (∀ ty, (Builtin.delete_ #[61, 3] ty #[.map (some m), .int .i64 k]).run Try.prog w = .ok (.tuple #[]) w') ∧ Opm w' m n (g.drop k) ∧ Only (fun i => i = m) w w' := by
  obtain ⟨D, hown, hD⟩ := h
  obtain ⟨w', h1, h2, h3⟩ := hown.drop keyedI Try.underlying61 (keyI hk) 3
  refine ⟨w', fun ty => ?_, ⟨_, h2, hD.del k⟩, Only.grown h3.grown (fun i hi => by cases hi; rfl)⟩
  exact h1
theorem Opm.new (w : World) : Opm (w.alloc (.map #[] 0)) w.heap.size 0 Gm.none := ⟨.map [], World.ownsMap_made w Try.prog 3 ptrElem, OpD.empty⟩
/-- A block's cells, none of them frozen. -/
structure Cb (w : World) (b : Nat) (vs : List Value) : Prop where
  c : ∀ i v, vs[i]? = some v → w.cell? ⟨b, i, none⟩ = some v
  f : ∀ i, w.frozen? ⟨b, i, none⟩ = false
  lt : b < w.heap.size
theorem Cb.kept {S : Nat → Prop} {w w' : World} {b : Nat} {vs : List Value} (h : Cb w b vs) (ho : Only S w w') (hS : ¬ S b) : Cb w' b vs :=
  ⟨fun i v hv => (ho.cell (p := ⟨b, i, none⟩) h.lt hS).trans (h.c i v hv), fun i => (ho.frozen (p := ⟨b, i, none⟩) h.lt hS).trans (h.f i), Nat.lt_of_lt_of_le h.lt ho.size⟩
theorem Cb.more {w w' : World} {b : Nat} {vs : List Value} (h : Cb w b vs) (ho : Only (fun _ => False) w w') : Cb w' b vs := h.kept ho id
theorem Cb.new (w : World) (vs : List Value) (ty : TypeId) : Cb (w.alloc (.cells vs.toArray ty)) w.heap.size vs := by
  refine ⟨fun i v hv => ?_, fun i => ?_, by simp⟩
  · simp only [World.cell?, World.alloc]
    simpa using hv
  · have : (w.alloc (.cells vs.toArray ty)).heap[w.heap.size]? = some (.cells vs.toArray ty (0, 0)) := heap_alloc_new w _
    unfold World.frozen?
    simp only
    rw [this]
    simp
theorem Cb.at (w : World) (b : Nat) (hb : b = w.heap.size) (vs : List Value) (ty : TypeId) : Cb (w.alloc (.cells vs.toArray ty)) b vs := by subst hb; exact Cb.new w vs ty
theorem Cb.set {w : World} {b : Nat} {vs : List Value} (h : Cb w b vs) (i : Nat) (u : Value) : Cb (w.setCell ⟨b, i, none⟩ u) b (vs.set i u) := by
  refine ⟨fun j v hv => ?_, fun j => by rw [World.frozen?_setCell]; exact h.f j, by simpa [World.setCell] using h.lt⟩
  by_cases e : j = i
  · subst e
    rw [List.getElem?_set] at hv
    simp only [if_true] at hv
    split at hv
    · rename_i hj
      cases hv
      exact World.cell?_setCell_same _ _ _ (h.c j vs[j] (by simp [hj]))
    · cases hv
  · rw [List.getElem?_set_ne (Ne.symm e)] at hv
    exact (World.cell?_setCell_other _ _ _ _ (by intro e2; injection e2; omega)).trans (h.c j v hv)
theorem Only.put (w : World) (b i : Nat) (u : Value) : Only (fun k => k = b) w (w.setCell ⟨b, i, none⟩ u) := Only.setCell w ⟨b, i, none⟩ u rfl
theorem Only.puts {b : Nat} {w w1 : World} (h : Only (fun k => k = b) w w1) (i : Nat) (u : Value) : Only (fun k => k = b) w (w1.setCell ⟨b, i, none⟩ u) := h.trans (Only.put w1 b i u) (fun _ _ h => h)
theorem Only.six (w : World) (b : Nat) (v0 v1 v2 v3 v4 v5 : Value) : Only (fun k => k = b) w ((((((w.setCell ⟨b, 0, none⟩ v0).setCell ⟨b, 1, none⟩ v1).setCell ⟨b, 2, none⟩ v2).setCell ⟨b, 3, none⟩ v3).setCell ⟨b, 4, none⟩ v4).setCell ⟨b, 5, none⟩ v5) :=
  ((((((Only.put w b 0 v0).puts 1 v1).puts 2 v2).puts 3 v3).puts 4 v4).puts 5 v5)
theorem Cb.six {w : World} {b : Nat} {u0 u1 u2 u3 u4 u5 : Value} (h : Cb w b [u0, u1, u2, u3, u4, u5]) (v0 v1 v2 v3 v4 v5 : Value) : Cb ((((((w.setCell ⟨b, 0, none⟩ v0).setCell ⟨b, 1, none⟩ v1).setCell ⟨b, 2, none⟩ v2).setCell ⟨b, 3, none⟩ v3).setCell ⟨b, 4, none⟩ v4).setCell ⟨b, 5, none⟩ v5) b [v0, v1, v2, v3, v4, v5] :=
  (((((h.set 0 v0).set 1 v1).set 2 v2).set 3 v3).set 4 v4).set 5 v5
/-- A transaction's cells, its list at s. -/
def txc (s : Sp) (t : Tx) : List Value := [.int .i64 t.nx, .slice s.ao t.act.length s.cp, .int .i64 t.xid, .int .i64 t.fst, .int .i64 t.lst, .int .i64 t.und]
/-- A transaction in block b. -/
def Txm (w : World) (b : Nat) (s : Sp) (t : Tx) : Prop := Cb w b (txc s t)
theorem Txm.lt {w : World} {b : Nat} {s : Sp} {t : Tx} (h : Txm w b s t) : b < w.heap.size := Cb.lt h
theorem Txm.kept {S : Nat → Prop} {w w' : World} {b : Nat} {s : Sp} {t : Tx} (h : Txm w b s t) (ho : Only S w w') (hS : ¬ S b) : Txm w' b s t := Cb.kept h ho hS
theorem Txm.c0 {w : World} {b : Nat} {s : Sp} {t : Tx} (h : Txm w b s t) : w.cell? ⟨b, 0, none⟩ = some (.int .i64 t.nx) := Cb.c h 0 _ rfl
theorem Txm.c1 {w : World} {b : Nat} {s : Sp} {t : Tx} (h : Txm w b s t) : w.cell? ⟨b, 1, none⟩ = some (.slice s.ao t.act.length s.cp) := Cb.c h 1 _ rfl
theorem Txm.c2 {w : World} {b : Nat} {s : Sp} {t : Tx} (h : Txm w b s t) : w.cell? ⟨b, 2, none⟩ = some (.int .i64 t.xid) := Cb.c h 2 _ rfl
theorem Txm.c3 {w : World} {b : Nat} {s : Sp} {t : Tx} (h : Txm w b s t) : w.cell? ⟨b, 3, none⟩ = some (.int .i64 t.fst) := Cb.c h 3 _ rfl
theorem Txm.c4 {w : World} {b : Nat} {s : Sp} {t : Tx} (h : Txm w b s t) : w.cell? ⟨b, 4, none⟩ = some (.int .i64 t.lst) := Cb.c h 4 _ rfl
theorem Txm.c5 {w : World} {b : Nat} {s : Sp} {t : Tx} (h : Txm w b s t) : w.cell? ⟨b, 5, none⟩ = some (.int .i64 t.und) := Cb.c h 5 _ rfl
end Go.Proofs.Ytmcghpeamnmbpaa
