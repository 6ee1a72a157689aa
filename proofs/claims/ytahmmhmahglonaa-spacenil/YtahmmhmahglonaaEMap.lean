/- Which pages have how much room, as a function; it in memory. -/
import Derived.Test.YtahmmhmahglonaaDBase
import Derived.Maps.OwnSet
import Derived.Maps.RangeWalk
namespace Go.Proofs.Ytahmmhmahglonaa
open Go.RowKit Go.Maps

/-- Numbers of 64 bits. -/
def N64 (x : Int) : Prop := -9223372036854775808 ≤ x ∧ x < 9223372036854775808
/-- How a number reads as a map's element. -/
def intElem (v : Value) : Option (DataW Unit × List MemPlace) := match v with
  | .int .i64 n => some (.lit (.int .i64 n), [])
  | _ => none
theorem intElem_mk (n : Int) : intElem (.int .i64 n) = some (.lit (.int .i64 n), []) := rfl
theorem intElem_inv {v : Value} {z : DataW Unit × List MemPlace} (h : intElem v = some z) : ∃ n : Int, v = .int .i64 n ∧ z = (.lit (.int .i64 n), []) := by
  unfold intElem at h
  split at h
  · injection h with h
    exact ⟨_, rfl, h.symm⟩
  · cases h
set_option maxRecDepth 100000 in
theorem zero_int (w : World) : (zeroValue 3).run Try.prog w = .ok (.int .i64 0) w := rfl
theorem keyedI : Keyed Try.prog 3 := int_keyed Try.underlying3
theorem keyI {x : Int} (h : N64 x) : keyOf Try.prog 3 (.int .i64 x) = some (.int .i64 x) := keyOf_int_mk Try.underlying3 (WalkArith.wf_i64 (by unfold N64 at h; omega))
/-- What is known: a page's room. -/
abbrev Kn := Int → Option Int
def Kn.none : Kn := fun _ => Option.none
def Kn.set (f : Kn) (p r : Int) : Kn := fun j => if j = p then some r else f j
def Kn.drop (f : Kn) (p : Int) : Kn := fun j => if j = p then Option.none else f j
/-- All pages are numbers of 64 bits. -/
def Kn.Ok (f : Kn) : Prop := ∀ x b, f x = some b → N64 x
theorem Kn.Ok.none : Kn.none.Ok := fun _ _ h => by cases h
theorem Kn.Ok.set {f : Kn} (h : f.Ok) {p : Int} (hp : N64 p) (r : Int) : (f.set p r).Ok := fun x b e => by
  unfold Kn.set at e
  split at e
  · rename_i e1; rw [e1]; exact hp
  · exact h x b e
theorem Kn.Ok.drop {f : Kn} (h : f.Ok) (p : Int) : (f.drop p).Ok := fun x b e => by
  unfold Kn.drop at e
  split at e
  · cases e
  · exact h x b e
/-- The datum of the map. -/
structure SpD (D : DataW Unit) (f : Kn) : Prop where
  key : ∀ kl, Maps.has D kl = true → ∃ x : Int, kl = .int .i64 x
  has : ∀ x : Int, Maps.has D (.int .i64 x) = (f x).isSome
  at_ : ∀ (x : Int) b, f x = some b → ∀ z, D.atKey (.int .i64 x) z = .lit (.int .i64 b)
def Sps (w : World) (m n : Nat) (f : Kn) : Prop := ∃ D, w.ownsMap Try.prog 3 intElem m n D ∧ SpD D f
theorem Sps.kept {S : Nat → Prop} {w w' : World} {m n : Nat} {f : Kn} (h : Sps w m n f) (ho : Only S w w') (hS : ¬ S m) : Sps w' m n f := by
  obtain ⟨D, ⟨es, clock, hb, F, hs, hD⟩, hf⟩ := h
  exact ⟨D, ⟨es, clock, (ho.block m (Array.getElem?_eq_some_iff.1 hb).1 hS).trans hb, F, hs, hD⟩, hf⟩
theorem Sps.lt {w : World} {m n : Nat} {f : Kn} (h : Sps w m n f) : m < w.heap.size := by
  obtain ⟨D, h, _⟩ := h
  exact h.lt
theorem Sps.mono {w : World} {m n n' : Nat} {f : Kn} (h : Sps w m n f) (hn : n ≤ n') : Sps w m n' f := by
  obtain ⟨D, h, hf⟩ := h
  exact ⟨D, h.mono hn, hf⟩
theorem SpD.empty : SpD (.map []) Kn.none := by
  refine ⟨?_, ?_, ?_⟩
  · intro x hx; simp [Maps.has] at hx
  · intro k; simp [Maps.has, Kn.none]
  · intro k b h; cases h
theorem SpD.put {D : DataW Unit} {f : Kn} (hm : Maps.IsMap D) (h : SpD D f) (k b : Int) :
    SpD (D.put (.int .i64 k) (.lit (.int .i64 b))) (f.set k b) := by
  have kl : WideAt.IsKeyLit (.int .i64 k) := trivial
  unfold Kn.set
  refine ⟨?_, ?_, ?_⟩
  · intro x hx
    by_cases e : x = .int .i64 k
    · exact ⟨k, e⟩
    · rw [Maps.has_put_other e] at hx
      exact h.key x hx
  · intro j
    by_cases e : j = k
    · subst e
      rw [Maps.has_put_same hm kl]
      simp
    · rw [Maps.has_put_other (by simpa using e), h.has j]
      simp [e]
  · intro j x hx z
    by_cases e : j = k
    · subst e
      simp only [if_true] at hx
      cases hx
      rw [Maps.atKey_put_same hm kl]
    · simp only [if_neg e] at hx
      rw [Maps.atKey_put_other (by simpa using e)]
      exact h.at_ j x hx z
theorem SpD.del {D : DataW Unit} {f : Kn} (h : SpD D f) (k : Int) : SpD (D.del (.int .i64 k)) (f.drop k) := by
  unfold Kn.drop
  refine ⟨?_, ?_, ?_⟩
  · intro x hx
    by_cases e : x = .int .i64 k
    · exact ⟨k, e⟩
    · rw [Maps.has_del_other e] at hx
      exact h.key x hx
  · intro j
    by_cases e : j = k
    · subst e
      rw [Maps.has_del_same]
      simp
    · rw [Maps.has_del_other (by simpa using e), h.has j]
      simp [e]
  · intro j x hx z
    by_cases e : j = k
    · subst e
      simp at hx
    · simp only [if_neg e] at hx
      rw [Maps.atKey_del_other (by simpa using e)]
      exact h.at_ j x hx z
theorem Sps.look {w : World} {m n : Nat} {f : Kn} (h : Sps w m n f) {k : Int} (hk : N64 k) :
    (Instr.lookup 41 (.map (some m)) (.int .i64 k) true).run Try.prog w = .ok (.tuple #[.int .i64 ((f k).getD 0), .bool (f k).isSome]) w := by
  obtain ⟨D, hown, hD⟩ := h
  have hz := intElem_mk 0
  obtain ⟨v, ps, h1, h2⟩ := hown.look_ok keyedI Try.underlying41 (zero_int w) hz (keyI hk)
  rw [hD.has k] at h1
  have e : D.atKey (.int .i64 k) (.lit (.int .i64 0)) = .lit (.int .i64 ((f k).getD 0)) := by
    cases hf : f k with
    | none =>
      rw [Maps.atKey_of_not_has (by rw [hD.has k, hf]; rfl)]
      rfl
    | some b => rw [hD.at_ k b hf]; rfl
  rw [e] at h2
  obtain ⟨l, rfl, hz2⟩ := intElem_inv h2
  simp only [Prod.mk.injEq, DataW.lit.injEq, Lit.int.injEq, true_and] at hz2
  rw [← hz2.1] at h1
  exact h1
theorem Sps.put {w : World} {m n : Nat} {f : Kn} (h : Sps w m n f) (hn : n < maxLen) {k : Int} (hk : N64 k) (b : Int) :
    ∃ w', (Instr.mapUpdate 41 (.map (some m)) (.int .i64 k) (.int .i64 b)).run Try.prog w = .ok () w' ∧ Sps w' m (n + 1) (f.set k b) ∧ Only (fun i => i = m) w w' := by
  obtain ⟨D, hown, hD⟩ := h
  obtain ⟨w', h1, h2, h3⟩ := hown.update keyedI Try.underlying41 hn (keyI hk) (intElem_mk b)
  exact ⟨w', h1, ⟨_, h2, hD.put hown.isMap k b⟩, Only.grown h3 (fun i hi => by cases hi; rfl)⟩
theorem Sps.cut {w : World} {m n : Nat} {f : Kn} (h : Sps w m n f) {k : Int} (hk : N64 k) :
    ∃ w', (∀ ty, (Builtin.delete_ #[41, 3] ty #[.map (some m), .int .i64 k]).run Try.prog w = .ok (.tuple #[]) w') ∧ Sps w' m n (f.drop k) ∧ Only (fun i => i = m) w w' := by
  obtain ⟨D, hown, hD⟩ := h
  obtain ⟨w', h1, h2, h3⟩ := hown.drop keyedI Try.underlying41 (keyI hk) 3
  refine ⟨w', fun ty => ?_, ⟨_, h2, hD.del k⟩, Only.grown h3.grown (fun i hi => by cases hi; rfl)⟩
  exact h1
theorem Sps.new (w : World) : Sps (w.alloc (.map #[] 0)) w.heap.size 0 Kn.none := ⟨.map [], World.ownsMap_made w Try.prog 3 intElem, SpD.empty⟩
/-- A space.Map in memory: its struct in block t, its map in m. -/
structure Spm (w : World) (t m n : Nat) (f : Kn) : Prop where
  c0 : w.cell? ⟨t, 0, none⟩ = some (.map (some m))
  lt : t < w.heap.size
  own : Sps w m n f
  ne : t ≠ m
  ok : f.Ok
theorem Spm.kept {S : Nat → Prop} {w w' : World} {t m n : Nat} {f : Kn} (H : Spm w t m n f) (ho : Only S w w') (h0 : ¬ S t) (h1 : ¬ S m) : Spm w' t m n f :=
  ⟨(ho.cell (p := ⟨t, 0, none⟩) H.lt h0).trans H.c0, Nat.lt_of_lt_of_le H.lt ho.size, H.own.kept ho h1, H.ne, H.ok⟩
theorem Spm.more {w w' : World} {t m n : Nat} {f : Kn} (H : Spm w t m n f) (ho : Only (fun _ => False) w w') : Spm w' t m n f := H.kept ho id id
theorem Spm.mono {w : World} {t m n n' : Nat} {f : Kn} (H : Spm w t m n f) (hn : n ≤ n') : Spm w t m n' f := ⟨H.c0, H.lt, H.own.mono hn, H.ne, H.ok⟩
theorem Spm.put {w w' : World} {t m n n' : Nat} {f g : Kn} (H : Spm w t m n f) (ho : Only (fun i => i = m) w w') (hf : Sps w' m n' g) (hk : g.Ok) : Spm w' t m n' g :=
  ⟨(ho.cell (p := ⟨t, 0, none⟩) H.lt H.ne).trans H.c0, Nat.lt_of_lt_of_le H.lt ho.size, hf, H.ne, hk⟩
theorem Spm.sizes {w : World} {t m n : Nat} {f : Kn} (H : Spm w t m n f) : t < w.heap.size ∧ m < w.heap.size := ⟨H.lt, H.own.lt⟩
end Go.Proofs.Ytahmmhmahglonaa
