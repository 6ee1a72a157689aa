/- The two maps of a table in memory. -/
import Derived.Test.YtmmhmgndokaklaaLPure
import Derived.Maps.OwnSet
import Derived.Maps.RangeWalk
import Derived.Maps.StringElems
namespace Go.Proofs.Ytmmhmgndokaklaa
open Go.RowKit Go.Maps

theorem ba_inj {a b : ByteArray} (h : a.data.toList = b.data.toList) : a = b := by
  obtain ⟨⟨a⟩⟩ := a
  obtain ⟨⟨b⟩⟩ := b
  simp at h
  rw [h]
/-- How a number reads as a map's element. -/
def intElem (v : Value) : Option (DataW Unit × List MemPlace) := match v with
  | .int .i64 n => some (.lit (.int .i64 n), [])
  | _ => none
theorem intElem_mk (n : Int) : intElem (.int .i64 n) = some (.lit (.int .i64 n), []) := rfl
theorem intElem_inv {v : Value} {z : DataW Unit × List MemPlace} (h : intElem v = some z) : ∃ n : Int, v = .int .i64 n ∧ z = (.lit (.int .i64 n), []) := by
  unfold intElem at h
  split at h
  · injection h with h
    exact ⟨_, rfl, h.symm⟩
  · cases h
/-- What somebody waits for, as a value. -/
def wv (k : ByteArray) : Value := .agg #[.string k]
open Classical in
/-- How it reads as a map's element. -/
noncomputable def waitElem (v : Value) : Option (DataW Unit × List MemPlace) :=
  if h : ∃ k : ByteArray, v = wv k then some (.lit (.string h.choose.data.toList), []) else none
theorem wv_inj {a b : ByteArray} (h : wv a = wv b) : a = b := by
  unfold wv at h
  simpa using h
theorem waitElem_mk (k : ByteArray) : waitElem (wv k) = some (.lit (.string k.data.toList), []) := by
  have h : ∃ j : ByteArray, wv k = wv j := ⟨k, rfl⟩
  unfold waitElem
  rw [dif_pos h, ← wv_inj h.choose_spec]
theorem waitElem_inv {v : Value} {z : DataW Unit × List MemPlace} (h : waitElem v = some z) : ∃ k : ByteArray, v = wv k ∧ z = (.lit (.string k.data.toList), []) := by
  unfold waitElem at h
  split at h
  · rename_i hx
    injection h with h
    exact ⟨hx.choose, hx.choose_spec, h.symm⟩
  · cases h
set_option maxRecDepth 100000 in
theorem zero_int (w : World) : (zeroValue 3).run Try.prog w = .ok (.int .i64 0) w := rfl
set_option maxRecDepth 100000 in
theorem zero_wait (w : World) : (zeroValue 58).run Try.prog w = .ok (wv ⟨#[]⟩) w := rfl
theorem keyedS : Keyed Try.prog 9 := string_keyed Try.underlying9
theorem keyedI : Keyed Try.prog 3 := int_keyed Try.underlying3
theorem keyS {k : ByteArray} (h : k.size ≤ maxLen) : keyOf Try.prog 9 (.string k) = some (.string k.data.toList) := WideMaps.keyOf_string_mk Try.underlying9 h
theorem keyI {x : Int} (h : N64 x) : keyOf Try.prog 3 (.int .i64 x) = some (.int .i64 x) := keyOf_int_mk Try.underlying3 (WalkArith.wf_i64 (by unfold N64 at h; omega))

/-- The datum of the holders. -/
structure HdD (D : DataW Unit) (f : ByteArray → Option Int) : Prop where
  key : ∀ kl, Maps.has D kl = true → ∃ k : ByteArray, kl = .string k.data.toList
  has : ∀ k : ByteArray, Maps.has D (.string k.data.toList) = (f k).isSome
  at_ : ∀ (k : ByteArray) b, f k = some b → ∀ z, D.atKey (.string k.data.toList) z = .lit (.int .i64 b)
/-- The datum of those who wait. -/
structure WtD (D : DataW Unit) (f : Int → Option ByteArray) : Prop where
  key : ∀ kl, Maps.has D kl = true → ∃ x : Int, kl = .int .i64 x
  has : ∀ x : Int, Maps.has D (.int .i64 x) = (f x).isSome
  at_ : ∀ (x : Int) b, f x = some b → ∀ z, D.atKey (.int .i64 x) z = .lit (.string b.data.toList)
def Hds (w : World) (m n : Nat) (f : ByteArray → Option Int) : Prop := ∃ D, w.ownsMap Try.prog 9 intElem m n D ∧ HdD D f
def Wts (w : World) (m n : Nat) (f : Int → Option ByteArray) : Prop := ∃ D, w.ownsMap Try.prog 3 waitElem m n D ∧ WtD D f
theorem Hds.kept {S : Nat → Prop} {w w' : World} {m n : Nat} {f : ByteArray → Option Int} (h : Hds w m n f) (ho : Only S w w') (hS : ¬ S m) : Hds w' m n f := by
  obtain ⟨D, ⟨es, clock, hb, F, hs, hD⟩, hf⟩ := h
  exact ⟨D, ⟨es, clock, (ho.block m (Array.getElem?_eq_some_iff.1 hb).1 hS).trans hb, F, hs, hD⟩, hf⟩
theorem Wts.kept {S : Nat → Prop} {w w' : World} {m n : Nat} {f : Int → Option ByteArray} (h : Wts w m n f) (ho : Only S w w') (hS : ¬ S m) : Wts w' m n f := by
  obtain ⟨D, ⟨es, clock, hb, F, hs, hD⟩, hf⟩ := h
  exact ⟨D, ⟨es, clock, (ho.block m (Array.getElem?_eq_some_iff.1 hb).1 hS).trans hb, F, hs, hD⟩, hf⟩
theorem Hds.lt {w : World} {m n : Nat} {f : ByteArray → Option Int} (h : Hds w m n f) : m < w.heap.size := by
  obtain ⟨D, h, _⟩ := h
  exact h.lt
theorem Wts.lt {w : World} {m n : Nat} {f : Int → Option ByteArray} (h : Wts w m n f) : m < w.heap.size := by
  obtain ⟨D, h, _⟩ := h
  exact h.lt
theorem Hds.mono {w : World} {m n n' : Nat} {f : ByteArray → Option Int} (h : Hds w m n f) (hn : n ≤ n') : Hds w m n' f := by
  obtain ⟨D, h, hf⟩ := h
  exact ⟨D, h.mono hn, hf⟩
theorem Wts.mono {w : World} {m n n' : Nat} {f : Int → Option ByteArray} (h : Wts w m n f) (hn : n ≤ n') : Wts w m n' f := by
  obtain ⟨D, h, hf⟩ := h
  exact ⟨D, h.mono hn, hf⟩
theorem HdD.empty : HdD (.map []) (fun _ => none) := by
  refine ⟨?_, ?_, ?_⟩
  · intro x hx; simp [Maps.has] at hx
  · intro k; simp [Maps.has]
  · intro k b h; cases h
theorem WtD.empty : WtD (.map []) (fun _ => none) := by
  refine ⟨?_, ?_, ?_⟩
  · intro x hx; simp [Maps.has] at hx
  · intro k; simp [Maps.has]
  · intro k b h; cases h
theorem HdD.put {D : DataW Unit} {f : ByteArray → Option Int} (hm : Maps.IsMap D) (h : HdD D f) (k : ByteArray) (b : Int) :
    HdD (D.put (.string k.data.toList) (.lit (.int .i64 b))) (fun j => if j = k then some b else f j) := by
  have kl : WideAt.IsKeyLit (.string k.data.toList) := trivial
  refine ⟨?_, ?_, ?_⟩
  · intro x hx
    by_cases e : x = .string k.data.toList
    · exact ⟨k, e⟩
    · rw [Maps.has_put_other e] at hx
      exact h.key x hx
  · intro j
    by_cases e : j = k
    · subst e
      rw [Maps.has_put_same hm kl]
      simp
    · rw [Maps.has_put_other (by intro e1; injection e1 with e1; exact e (ba_inj e1)), h.has j]
      simp [e]
  · intro j x hx z
    by_cases e : j = k
    · subst e
      simp only [if_true] at hx
      cases hx
      rw [Maps.atKey_put_same hm kl]
    · simp only [if_neg e] at hx
      rw [Maps.atKey_put_other (by intro e1; injection e1 with e1; exact e (ba_inj e1))]
      exact h.at_ j x hx z
theorem HdD.del {D : DataW Unit} {f : ByteArray → Option Int} (h : HdD D f) (k : ByteArray) : HdD (D.del (.string k.data.toList)) (fun j => if j = k then none else f j) := by
  refine ⟨?_, ?_, ?_⟩
  · intro x hx
    by_cases e : x = .string k.data.toList
    · exact ⟨k, e⟩
    · rw [Maps.has_del_other e] at hx
      exact h.key x hx
  · intro j
    by_cases e : j = k
    · subst e
      rw [Maps.has_del_same]
      simp
    · rw [Maps.has_del_other (by intro e1; injection e1 with e1; exact e (ba_inj e1)), h.has j]
      simp [e]
  · intro j x hx z
    by_cases e : j = k
    · subst e
      simp at hx
    · simp only [if_neg e] at hx
      rw [Maps.atKey_del_other (by intro e1; injection e1 with e1; exact e (ba_inj e1))]
      exact h.at_ j x hx z
theorem WtD.put {D : DataW Unit} {f : Int → Option ByteArray} (hm : Maps.IsMap D) (h : WtD D f) (k : Int) (b : ByteArray) :
    WtD (D.put (.int .i64 k) (.lit (.string b.data.toList))) (fun j => if j = k then some b else f j) := by
  have kl : WideAt.IsKeyLit (.int .i64 k) := trivial
  refine ⟨?_, ?_, ?_⟩
  · intro x hx
    by_cases e : x = .int .i64 k
    · exact ⟨k, e⟩
    · rw [Maps.has_put_other e] at hx
      exact h.key x hx
  · intro j
    by_cases e : j = k
    · subst e
      rw [Maps.has_put_same hm kl]
      simp
    · rw [Maps.has_put_other (by simpa using e), h.has j]
      simp [e]
  · intro j x hx z
    by_cases e : j = k
    · subst e
      simp only [if_true] at hx
      cases hx
      rw [Maps.atKey_put_same hm kl]
    · simp only [if_neg e] at hx
      rw [Maps.atKey_put_other (by simpa using e)]
      exact h.at_ j x hx z
theorem WtD.del {D : DataW Unit} {f : Int → Option ByteArray} (h : WtD D f) (k : Int) : WtD (D.del (.int .i64 k)) (fun j => if j = k then none else f j) := by
  refine ⟨?_, ?_, ?_⟩
  · intro x hx
    by_cases e : x = .int .i64 k
    · exact ⟨k, e⟩
    · rw [Maps.has_del_other e] at hx
      exact h.key x hx
  · intro j
    by_cases e : j = k
    · subst e
      rw [Maps.has_del_same]
      simp
    · rw [Maps.has_del_other (by simpa using e), h.has j]
      simp [e]
  · intro j x hx z
    by_cases e : j = k
    · subst e
      simp at hx
    · simp only [if_neg e] at hx
      rw [Maps.atKey_del_other (by simpa using e)]
      exact h.at_ j x hx z
theorem Hds.look {w : World} {m n : Nat} {f : ByteArray → Option Int} (h : Hds w m n f) {k : ByteArray} (hk : k.size ≤ maxLen) :
    (Instr.lookup 48 (.map (some m)) (.string k) true).run Try.prog w = .ok (.tuple #[.int .i64 ((f k).getD 0), .bool (f k).isSome]) w
    ∧ (Instr.lookup 48 (.map (some m)) (.string k) false).run Try.prog w = .ok (.int .i64 ((f k).getD 0)) w := by
  obtain ⟨D, hown, hD⟩ := h
  have hz := intElem_mk 0
  obtain ⟨v, ps, h1, h2⟩ := hown.look_ok keyedS Try.underlying48 (zero_int w) hz (keyS hk)
  obtain ⟨v', ps', h3, h4⟩ := hown.lookup keyedS Try.underlying48 (zero_int w) hz (keyS hk)
  rw [hD.has k] at h1
  have e : D.atKey (.string k.data.toList) (.lit (.int .i64 0)) = .lit (.int .i64 ((f k).getD 0)) := by
    cases hf : f k with
    | none =>
      rw [Maps.atKey_of_not_has (by rw [hD.has k, hf]; rfl)]
      rfl
    | some b => rw [hD.at_ k b hf]; rfl
  rw [e] at h2 h4
  have key : ∀ v ps, intElem v = some (DataW.lit (.int .i64 ((f k).getD 0)), ps) → v = .int .i64 ((f k).getD 0) := by
    intro v ps hv
    obtain ⟨l, rfl, hz2⟩ := intElem_inv hv
    simp only [Prod.mk.injEq, DataW.lit.injEq, Lit.int.injEq, true_and] at hz2
    rw [hz2.1]
  rw [key v ps h2] at h1
  rw [key v' ps' h4] at h3
  exact ⟨h1, h3⟩
theorem Wts.look {w : World} {m n : Nat} {f : Int → Option ByteArray} (h : Wts w m n f) {x : Int} (hx : N64 x) :
    (Instr.lookup 49 (.map (some m)) (.int .i64 x) true).run Try.prog w = .ok (.tuple #[wv ((f x).getD ⟨#[]⟩), .bool (f x).isSome]) w := by
  obtain ⟨D, hown, hD⟩ := h
  have hz := waitElem_mk ⟨#[]⟩
  obtain ⟨v, ps, h1, h2⟩ := hown.look_ok keyedI Try.underlying49 (zero_wait w) hz (keyI hx)
  rw [hD.has x] at h1
  have e : D.atKey (.int .i64 x) (.lit (.string (ByteArray.mk #[]).data.toList)) = .lit (.string ((f x).getD ⟨#[]⟩).data.toList) := by
    cases hf : f x with
    | none =>
      rw [Maps.atKey_of_not_has (by rw [hD.has x, hf]; rfl)]
      rfl
    | some b => rw [hD.at_ x b hf]; rfl
  rw [e] at h2
  obtain ⟨l, rfl, hz2⟩ := waitElem_inv h2
  simp only [Prod.mk.injEq, DataW.lit.injEq, Lit.string.injEq] at hz2
  rw [← ba_inj hz2.1] at h1
  exact h1
theorem Hds.put {w : World} {m n : Nat} {f : ByteArray → Option Int} (h : Hds w m n f) (hn : n < maxLen) {k : ByteArray} (hk : k.size ≤ maxLen) (b : Int) :
    ∃ w', (Instr.mapUpdate 48 (.map (some m)) (.string k) (.int .i64 b)).run Try.prog w = .ok () w' ∧ Hds w' m (n + 1) (fun j => if j = k then some b else f j) ∧ Only (fun i => i = m) w w' := by
  obtain ⟨D, hown, hD⟩ := h
  obtain ⟨w', h1, h2, h3⟩ := hown.update keyedS Try.underlying48 hn (keyS hk) (intElem_mk b)
  exact ⟨w', h1, ⟨_, h2, hD.put hown.isMap k b⟩, Only.grown h3 (fun i hi => by cases hi; rfl)⟩
theorem Wts.put {w : World} {m n : Nat} {f : Int → Option ByteArray} (h : Wts w m n f) (hn : n < maxLen) {x : Int} (hx : N64 x) (b : ByteArray) :
    ∃ w', (Instr.mapUpdate 49 (.map (some m)) (.int .i64 x) (.agg #[.string b])).run Try.prog w = .ok () w' ∧ Wts w' m (n + 1) (fun j => if j = x then some b else f j) ∧ Only (fun i => i = m) w w' := by
  obtain ⟨D, hown, hD⟩ := h
  obtain ⟨w', h1, h2, h3⟩ := hown.update keyedI Try.underlying49 hn (keyI hx) (waitElem_mk b)
  exact ⟨w', h1, ⟨_, h2, hD.put hown.isMap x b⟩, Only.grown h3 (fun i hi => by cases hi; rfl)⟩
theorem Hds.drop {w : World} {m n : Nat} {f : ByteArray → Option Int} (h : Hds w m n f) {k : ByteArray} (hk : k.size ≤ maxLen) :
    ∃ w', (∀ ty, (Builtin.delete_ #[48, 9] ty #[.map (some m), .string k]).run Try.prog w = .ok (.tuple #[]) w') ∧ Hds w' m n (fun j => if j = k then none else f j) ∧ Only (fun i => i = m) w w' := by
  obtain ⟨D, hown, hD⟩ := h
  obtain ⟨w', h1, h2, h3⟩ := hown.drop keyedS Try.underlying48 (keyS hk) 3
  refine ⟨w', fun ty => ?_, ⟨_, h2, hD.del k⟩, Only.grown h3.grown (fun i hi => by cases hi; rfl)⟩
  exact h1
theorem Wts.drop {w : World} {m n : Nat} {f : Int → Option ByteArray} (h : Wts w m n f) {x : Int} (hx : N64 x) :
    ∃ w', (∀ ty, (Builtin.delete_ #[49, 3] ty #[.map (some m), .int .i64 x]).run Try.prog w = .ok (.tuple #[]) w') ∧ Wts w' m n (fun j => if j = x then none else f j) ∧ Only (fun i => i = m) w w' := by
  obtain ⟨D, hown, hD⟩ := h
  obtain ⟨w', h1, h2, h3⟩ := hown.drop keyedI Try.underlying49 (keyI hx) 3
  refine ⟨w', fun ty => ?_, ⟨_, h2, hD.del x⟩, Only.grown h3.grown (fun i hi => by cases hi; rfl)⟩
  exact h1
theorem Hds.new (w : World) : Hds (w.alloc (.map #[] 0)) w.heap.size 0 (fun _ => none) := ⟨.map [], World.ownsMap_made w Try.prog 9 intElem, HdD.empty⟩
theorem Wts.new (w : World) : Wts (w.alloc (.map #[] 0)) w.heap.size 0 (fun _ => none) := ⟨.map [], World.ownsMap_made w Try.prog 3 waitElem, WtD.empty⟩
/-- A table in memory: its struct in block t, its maps in h and m. -/
structure Tab (w : World) (t h m n : Nat) (T : Tb) : Prop where
  c0 : w.cell? ⟨t, 0, none⟩ = some (.map (some h))
  c1 : w.cell? ⟨t, 1, none⟩ = some (.map (some m))
  lt : t < w.heap.size
  hold : Hds w h n T.hold
  wait : Wts w m n T.wait
  ne1 : t ≠ h
  ne2 : t ≠ m
  ne3 : h ≠ m
  ok : T.Ok
/-- What a call on it may change. -/
def tw (h m : Nat) (i : Nat) : Prop := i = h ∨ i = m
theorem Tab.kept {S : Nat → Prop} {w w' : World} {t h m n : Nat} {T : Tb} (H : Tab w t h m n T) (ho : Only S w w') (h0 : ¬ S t) (h1 : ¬ S h) (h2 : ¬ S m) : Tab w' t h m n T :=
  ⟨(ho.cell (p := ⟨t, 0, none⟩) H.lt h0).trans H.c0, (ho.cell (p := ⟨t, 1, none⟩) H.lt h0).trans H.c1, Nat.lt_of_lt_of_le H.lt ho.size, H.hold.kept ho h1, H.wait.kept ho h2, H.ne1, H.ne2, H.ne3, H.ok⟩
theorem Tab.more {w w' : World} {t h m n : Nat} {T : Tb} (H : Tab w t h m n T) (ho : Only (fun _ => False) w w') : Tab w' t h m n T := H.kept ho id id id
theorem Tab.mono {w : World} {t h m n n' : Nat} {T : Tb} (H : Tab w t h m n T) (hn : n ≤ n') : Tab w t h m n' T :=
  ⟨H.c0, H.c1, H.lt, H.hold.mono hn, H.wait.mono hn, H.ne1, H.ne2, H.ne3, H.ok⟩
theorem Tab.setHold {w w' : World} {t h m n n' : Nat} {T : Tb} {f : ByteArray → Option Int} (H : Tab w t h m n T) (ho : Only (fun i => i = h) w w') (hf : Hds w' h n' f) (hn : n ≤ n') (hk : ({ T with hold := f } : Tb).Ok) : Tab w' t h m n' { T with hold := f } :=
  ⟨(ho.cell (p := ⟨t, 0, none⟩) H.lt H.ne1).trans H.c0, (ho.cell (p := ⟨t, 1, none⟩) H.lt H.ne1).trans H.c1, Nat.lt_of_lt_of_le H.lt ho.size, hf, (H.wait.kept ho (fun e => H.ne3 e.symm)).mono hn, H.ne1, H.ne2, H.ne3, hk⟩
theorem Tab.setWait {w w' : World} {t h m n n' : Nat} {T : Tb} {f : Int → Option ByteArray} (H : Tab w t h m n T) (ho : Only (fun i => i = m) w w') (hf : Wts w' m n' f) (hn : n ≤ n') (hk : ({ T with wait := f } : Tb).Ok) : Tab w' t h m n' { T with wait := f } :=
  ⟨(ho.cell (p := ⟨t, 0, none⟩) H.lt H.ne2).trans H.c0, (ho.cell (p := ⟨t, 1, none⟩) H.lt H.ne2).trans H.c1, Nat.lt_of_lt_of_le H.lt ho.size, (H.hold.kept ho H.ne3).mono hn, hf, H.ne1, H.ne2, H.ne3, hk⟩
end Go.Proofs.Ytmmhmgndokaklaa
