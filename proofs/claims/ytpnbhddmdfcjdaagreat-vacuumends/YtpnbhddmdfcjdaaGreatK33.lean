/- Parts. -/
import Derived.Test.YtpnbhddmdfcjdaaGreatK32
import Derived.Maps.OwnSet
import Derived.Maps.Ext
set_option maxRecDepth 100000
namespace Go.Proofs.YtpnbhddmdfcjdaaGreat
open Go.RowKit
structure WkOk (V : Vw) (h pg : Int) (l : List ByteArray) (k : Nat) (K : Wk) : Prop where
  gn : ∀ x ∈ K.gn, x.page = pg ∧ ∃ (j : Nat) (hj : j < l.length), x.slot = (j : Int) ∧ j < k ∧ gnS V h l[j] = true ∧ x.key = keyB l[j]
  rise : ∀ (i j : Nat) (hj : j < K.gn.length) (hij : i < j), (K.gn[i]'(by omega)).slot < K.gn[j].slot
  fr : ∀ x ∈ K.fr, ∃ (j : Nat) (hj : j < l.length), x = (j : Int) ∧ j < k ∧ gnS V h l[j] = false ∧ fzS V h l[j] = true
  of : ∀ x ∈ K.of, ∃ (j : Nat) (hj : j < l.length), x = (j : Int) ∧ j < k ∧ gnS V h l[j] = false ∧ ofS V l[j] = true
  risF : ∀ (i j : Nat) (hj : j < K.fr.length) (hij : i < j), (K.fr[i]'(by omega)) < K.fr[j]
  risO : ∀ (i j : Nat) (hj : j < K.of.length) (hij : i < j), (K.of[i]'(by omega)) < K.of[j]
theorem rise_app {α : Type} {f : α → Int} {L : List α} {x : α} {k : Int} (h : ∀ (i j : Nat) (hj : j < L.length) (hij : i < j), f (L[i]'(by omega)) < f L[j]) (hx : f x = k) (hl : ∀ y ∈ L, f y < k) :
    ∀ (i j : Nat) (hj : j < (L ++ [x]).length) (hij : i < j), f ((L ++ [x])[i]'(by omega)) < f (L ++ [x])[j] := by
  intro i j hj hij
  have hj2 : j < L.length + 1 := by rw [List.length_append] at hj; exact hj
  have hi : i < L.length := by omega
  rw [List.getElem_append_left hi]
  by_cases q : j < L.length
  · rw [List.getElem_append_left q]
    exact h i j q hij
  · have e : j = L.length := by omega
    subst e
    rw [List.getElem_append_right (Nat.le_refl _)]
    simp only [Nat.sub_self, List.getElem_singleton, hx]
    exact hl _ (List.getElem_mem hi)
theorem wkN_ok (V : Vw) (h pg : Int) (l : List ByteArray) : ∀ k, k ≤ l.length → WkOk V h pg l k (wkN V h pg l k) := by
  intro k
  induction k with
  | zero =>
    intro _
    refine ⟨?_, fun i j hj _ => absurd hj (Nat.not_lt_zero _), ?_, ?_, fun i j hj _ => absurd hj (Nat.not_lt_zero _), fun i j hj _ => absurd hj (Nat.not_lt_zero _)⟩
    · intro x hx; cases hx
    · intro x hx; cases hx
    · intro x hx; cases hx
  | succ k ih =>
    intro hk
    have ih := ih (by omega)
    have hkl : k < l.length := by omega
    rw [wkN_step hkl]
    obtain ⟨K, hK⟩ : ∃ K, wkN V h pg l k = K := ⟨_, rfl⟩
    rw [hK] at ih ⊢
    obtain ⟨h1, h2, h3, h4, h5, h6⟩ := ih
    have g1 : ∀ x ∈ K.gn, x.page = pg ∧ ∃ (j : Nat) (hj : j < l.length), x.slot = (j : Int) ∧ j < k + 1 ∧ gnS V h l[j] = true ∧ x.key = keyB l[j] := fun x hx => by
      obtain ⟨a, j, hj, b, c, d⟩ := h1 x hx
      exact ⟨a, j, hj, b, by omega, d⟩
    have g3 : ∀ x ∈ K.fr, ∃ (j : Nat) (hj : j < l.length), x = (j : Int) ∧ j < k + 1 ∧ gnS V h l[j] = false ∧ fzS V h l[j] = true := fun x hx => by
      obtain ⟨j, hj, b, c, d⟩ := h3 x hx
      exact ⟨j, hj, b, by omega, d⟩
    have g4 : ∀ x ∈ K.of, ∃ (j : Nat) (hj : j < l.length), x = (j : Int) ∧ j < k + 1 ∧ gnS V h l[j] = false ∧ ofS V l[j] = true := fun x hx => by
      obtain ⟨j, hj, b, c, d⟩ := h4 x hx
      exact ⟨j, hj, b, by omega, d⟩
    unfold Wk.step
    by_cases hg : gnS V h l[k] = true
    · rw [if_pos hg]
      refine ⟨fun x hx => ?_, ?_, g3, g4, h5, h6⟩
      · rcases List.mem_append.1 hx with q | q
        · exact g1 x q
        · rw [List.mem_singleton.1 q]
          exact ⟨rfl, k, hkl, rfl, by omega, hg, rfl⟩
      · exact rise_app (f := En.slot) (k := (k : Int)) h2 rfl (fun y hy => by
          obtain ⟨_, j, _, b, c, _⟩ := h1 y hy
          rw [b]; omega)
    · rw [if_neg hg]
      have hgf : gnS V h l[k] = false := by simpa using hg
      refine ⟨g1, h2, fun x hx => ?_, fun x hx => ?_, ?_, ?_⟩
      · by_cases hf : fzS V h l[k] = true
        · simp only [hf, if_true] at hx
          rcases List.mem_append.1 hx with q | q
          · exact g3 x q
          · rw [List.mem_singleton.1 q]
            exact ⟨k, hkl, rfl, by omega, hgf, hf⟩
        · simp only [hf] at hx
          exact g3 x hx
      · by_cases hf : ofS V l[k] = true
        · simp only [hf, if_true] at hx
          rcases List.mem_append.1 hx with q | q
          · exact g4 x q
          · rw [List.mem_singleton.1 q]
            exact ⟨k, hkl, rfl, by omega, hgf, hf⟩
        · simp only [hf] at hx
          exact g4 x hx
      · by_cases hf : fzS V h l[k] = true
        · simp only [hf, if_true]
          exact rise_app (f := fun x : Int => x) (k := (k : Int)) h5 rfl (fun y hy => by
            obtain ⟨j, _, b, c, _⟩ := h3 y hy
            rw [b]; omega)
        · simp only [hf]
          exact h5
      · by_cases hf : ofS V l[k] = true
        · simp only [hf, if_true]
          exact rise_app (f := fun x : Int => x) (k := (k : Int)) h6 rfl (fun y hy => by
            obtain ⟨j, _, b, c, _⟩ := h4 y hy
            rw [b]; omega)
        · simp only [hf]
          exact h6
end Go.Proofs.YtpnbhddmdfcjdaaGreat
namespace Go.Proofs.YtpnbhddmdfcjdaaGreat
open Go.RowKit Go.Maps
/-- How a function reads as a map's element: as itself. -/
def fnElem (v : Value) : Option (DataW Value × List MemPlace) := some (.held v, [])
theorem keyedK : Keyed Tryz.prog 42 := int_keyed Tryz.underlying42
theorem keyK {k : Int} (h0 : 0 ≤ k) (h1 : k ≤ 255) : keyOf Tryz.prog 42 (.int .u8 k) = some (.int .u8 k) := keyOf_int_mk Tryz.underlying42 (WalkArith.wf_u8 ⟨h0, h1⟩)
set_option maxRecDepth 100000 in
theorem zero_deed (w : World) : (zeroValue 91).run Tryz.prog w = .ok .nilFunc w := rfl
/-- A map of functions in block m, of at most n entries. -/
def Mdd (w : World) (m n : Nat) (f : Int → Option Value) : Prop := ∃ D, w.ownsMap Tryz.prog 42 fnElem m n D ∧ (∀ k, 0 ≤ k → k ≤ 255 → Maps.has D (.int .u8 k) = (f k).isSome) ∧ (∀ k v, 0 ≤ k → k ≤ 255 → f k = some v → ∀ z, D.atKey (.int .u8 k) z = .held v)
theorem Mdd.new (w : World) : Mdd (w.alloc (.map #[] 0)) w.heap.size 0 (fun _ => none) := ⟨.map [], World.ownsMap_made w Tryz.prog 42 fnElem, fun k _ _ => by simp [Maps.has], fun k v _ _ h => by cases h⟩
theorem Mdd.kept {S : Nat → Prop} {w w' : World} {m n : Nat} {f : Int → Option Value} (h : Mdd w m n f) (ho : Only S w w') (hS : ¬ S m) : Mdd w' m n f := by
  obtain ⟨D, ⟨es, clock, hb, F, hs, hD⟩, hf⟩ := h
  exact ⟨D, ⟨es, clock, (ho.block m (Array.getElem?_eq_some_iff.1 hb).1 hS).trans hb, F, hs, hD⟩, hf⟩
theorem Mdd.more {w w' : World} {m n : Nat} {f : Int → Option Value} (h : Mdd w m n f) (ho : Only (fun _ => False) w w') : Mdd w' m n f := h.kept ho (fun h => h)
theorem Mdd.lt {w : World} {m n : Nat} {f : Int → Option Value} (h : Mdd w m n f) : m < w.heap.size := by
  obtain ⟨D, h, _⟩ := h
  exact h.lt
theorem Mdd.put {w : World} {m n : Nat} {f : Int → Option Value} (h : Mdd w m n f) (hn : n < 1000) (k : Int) (h0 : 0 ≤ k) (h1 : k ≤ 255) (v : Value) :
    ∃ w', (Instr.mapUpdate 93 (.map (some m)) (.int .u8 k) v).run Tryz.prog w = .ok () w' ∧ Mdd w' m (n + 1) (fun j => if j = k then some v else f j) ∧ Only (fun i => i = m) w w' := by
  obtain ⟨D, hown, hh, ha⟩ := h
  obtain ⟨w', e1, e2, e3⟩ := hown.update keyedK Tryz.underlying93 (by unfold maxLen; omega) (keyK h0 h1) (show fnElem v = some (.held v, []) from rfl)
  have kl : WideAt.IsKeyLit (.int .u8 k) := trivial
  have hm := hown.isMap
  refine ⟨w', e1, ⟨_, e2, ?_, ?_⟩, Only.grown e3 (fun i hi => by cases hi; rfl)⟩
  · intro j j0 j1
    by_cases e : j = k
    · subst e
      rw [Maps.has_put_same hm kl]
      simp
    · rw [Maps.has_put_other (by simp [e]), hh j j0 j1]
      simp [e]
  · intro j x j0 j1 hx z
    by_cases e : j = k
    · subst e
      simp only [if_true] at hx
      cases hx
      rw [Maps.atKey_put_same hm kl]
    · simp only [if_neg e] at hx
      rw [Maps.atKey_put_other (by simp [e])]
      exact ha j x j0 j1 hx z
theorem Mdd.look {w : World} {m n : Nat} {f : Int → Option Value} (h : Mdd w m n f) (k : Int) (h0 : 0 ≤ k) (h1 : k ≤ 255) :
    (Instr.lookup 93 (.map (some m)) (.int .u8 k) true).run Tryz.prog w = .ok (.tuple #[(f k).getD .nilFunc, .bool (f k).isSome]) w := by
  obtain ⟨D, hown, hh, ha⟩ := h
  obtain ⟨v, ps, e1, e2⟩ := hown.look_ok keyedK Tryz.underlying93 (zero_deed w) (show fnElem .nilFunc = some (.held .nilFunc, []) from rfl) (keyK h0 h1)
  rw [hh k h0 h1] at e1
  have e : D.atKey (.int .u8 k) (.held .nilFunc) = .held ((f k).getD .nilFunc) := by
    cases hf : f k with
    | none =>
      rw [Maps.atKey_of_not_has (by rw [hh k h0 h1, hf]; rfl)]
      rfl
    | some b => rw [ha k b h0 h1 hf]; rfl
  rw [e] at e2
  unfold fnElem at e2
  simp only [Option.some.injEq, Prod.mk.injEq, DataW.held.injEq] at e2
  rw [e2.1] at e1
  exact e1
/-- A number or a status in a variable of its own. -/
structure One (w : World) (b : Nat) (v : Value) : Prop where
  c : w.cell? ⟨b, 0, none⟩ = some v
  l : b < w.heap.size
theorem One.kept {S : Nat → Prop} {w w' : World} {b : Nat} {v : Value} (h : One w b v) (ho : Only S w w') (hS : ¬ S b) : One w' b v := ⟨(ho.cell (p := ⟨b, 0, none⟩) h.l hS).trans h.c, Nat.lt_of_lt_of_le h.l ho.size⟩
theorem One.more {w w' : World} {b : Nat} {v : Value} (h : One w b v) (ho : Only (fun _ => False) w w') : One w' b v := h.kept ho (fun h => h)
/-- The functions that deeds lays. -/
def fnOf (b s2 s3 : Nat) (k : Int) : Option Value := if k = 11 then some (.func (.func 79) #[] #[.pointer (some ⟨b, 0, none⟩)]) else if k = 10 then some (.func (.func 78) #[] #[]) else if k = 9 then some (.func (.func 77) #[] #[]) else if k = 8 then some (.func (.func 71) #[] #[.pointer (some ⟨b, 0, none⟩), .pointer (some ⟨s3, 0, none⟩)]) else if k = 7 then some (.func (.func 71) #[] #[.pointer (some ⟨b, 0, none⟩), .pointer (some ⟨s2, 0, none⟩)])
  else if k = 4 then some (.func (.func 76) #[] #[]) else if k = 3 then some (.func (.func 75) #[] #[]) else if k = 6 then some (.func (.func 74) #[] #[]) else if k = 2 then some (.func (.func 73) #[] #[]) else if k = 1 then some (.func (.func 72) #[] #[]) else none
set_option maxRecDepth 100000 in
set_option maxHeartbeats 800000 in
theorem ended_any (w : World) (s : Int) (b : Nat) : Calls Tryz.prog 70 #[.int .u8 s, .pointer (some ⟨b, 0, none⟩)] w fun e w' => ∃ sb, e = .returned (.func (.func 71) #[] #[.pointer (some ⟨b, 0, none⟩), .pointer (some ⟨sb, 0, none⟩)]) ∧ One w' sb (.int .u8 s) ∧ Only (fun _ => False) w w' ∧ w.heap.size ≤ sb := by
  have hmf : ∀ (fn : Fn) (first cap : Array Value) (w : World), (Instr.makeFunc fn first cap).run Tryz.prog w = .ok (.func fn first cap) w := fun _ _ _ _ => rfl
  have H2 : Hid (One (w.alloc (.cells #[.int .u8 s] 58)) w.heap.size (.int .u8 s)) := ⟨by simp, by simp⟩
  go_enter Tryz.func70, Tryz.ntmps70
  go_wp2_with fail
  go_ret
  exact ⟨_, rfl, H2.out, onlyA _ _, Nat.le_refl _⟩
set_option maxRecDepth 100000 in
set_option maxHeartbeats 3200000 in
theorem deeds_any (w : World) (m : Int) : Calls Tryz.prog 40 #[.int .i64 m] w fun e w' => ∃ mb b s2 s3, e = .returned (.map (some mb)) ∧ Mdd w' mb 10 (fnOf b s2 s3) ∧ One w' b (.int .i64 m) ∧ One w' s2 (.int .u8 2) ∧ One w' s3 (.int .u8 3) ∧ Only (fun _ => False) w w' ∧ w.heap.size ≤ b ∧ w.heap.size ≤ s2 ∧ w.heap.size ≤ s3 := by
  have hmf : ∀ (fn : Fn) (first cap : Array Value) (w : World), (Instr.makeFunc fn first cap).run Tryz.prog w = .ok (.func fn first cap) w := fun _ _ _ _ => rfl
  have hmm := @run_makeMap Tryz.prog
  have H1 : Hid (One (w.alloc (.cells #[.int .i64 m] 3)) w.heap.size (.int .i64 m)) := ⟨by simp, by simp⟩
  have HO1 := hide (onlyA w (.cells #[.int .i64 m] 3))
  go_enter Tryz.func40, Tryz.ntmps40
  go_upto_region 2 with fail
  obtain ⟨b, hb⟩ : ∃ b, w.heap.size = b := ⟨_, rfl⟩
  rw [hb] at H1 ⊢
  obtain ⟨W1, hW1⟩ : ∃ x, w.alloc (.cells #[.int .i64 m] 3) = x := ⟨_, rfl⟩
  rw [hW1] at H1 HO1 ⊢
  clear hW1
  have hM0 := Mdd.new W1
  have HOM := hide (onlyA W1 (.map #[] 0))
  obtain ⟨mb, hmb⟩ : ∃ b, W1.heap.size = b := ⟨_, rfl⟩
  rw [hmb] at hM0
  obtain ⟨X1, r1, hM1, o1⟩ := hM0.put (by omega) 1 (by omega) (by omega) (.func (.func 72) #[] #[])
  obtain ⟨X2, r2, hM2, o2'⟩ := hM1.put (by omega) 2 (by omega) (by omega) (.func (.func 73) #[] #[])
  obtain ⟨X3, r3, hM3, o3⟩ := hM2.put (by omega) 6 (by omega) (by omega) (.func (.func 74) #[] #[])
  obtain ⟨X4, r4, hM4, o4⟩ := hM3.put (by omega) 3 (by omega) (by omega) (.func (.func 75) #[] #[])
  obtain ⟨X5, r5, hM5, o5⟩ := hM4.put (by omega) 4 (by omega) (by omega) (.func (.func 76) #[] #[])
  have HM5 := hide hM5
  have HO5 : Hid (Only (fun i => i = mb) (W1.alloc (.map #[] 0)) X5) := (((o1.trans o2' (fun _ _ h => h)).trans o3 (fun _ _ h => h)).trans o4 (fun _ _ h => h)).trans o5 (fun _ _ h => h)
  have HBM : Hid (b < mb) := by unfold Hid; rw [← hmb]; exact H1.out.l
  have HW5 : Hid (Only (fun _ => False) w X5) := (o2 HO1.out HOM.out).trans HO5.out (fun i hi e => by have := HO1.out.size; omega)
  have H15 : Hid (One X5 b (.int .i64 m)) := (H1.out.more HOM.out).kept HO5.out (by have := HBM.out; omega)
  have HBB := hide hb
  clear hM0 hM1 hM2 hM3 hM4 hM5 o1 o2' o3 o4 o5 HO5 HOM HO1 H1 hb
  go_wp2_with fail
  refine (ended_any _ 2 b).mono ?_
  rintro e W6 ⟨s2, rfl, hs2, ho6, hl6⟩
  have hmx := HM5.out.lt
  have hM6 := HM5.out.more ho6
  obtain ⟨X7, r7, hM7, o7⟩ := hM6.put (by omega) 7 (by omega) (by omega) (.func (.func 71) #[] #[.pointer (some ⟨b, 0, none⟩), .pointer (some ⟨s2, 0, none⟩)])
  have HM7 := hide hM7
  have HS2 := hide (hs2.kept o7 (by omega))
  have HW7 : Hid (Only (fun _ => False) w X7) := (o2 HW5.out ho6).trans o7 (fun i hi e => by have := HBM.out; have := HBB.out; omega)
  have H17 : Hid (One X7 b (.int .i64 m)) := (H15.out.more ho6).kept o7 (by have := HBM.out; omega)
  have HL2 : Hid (w.heap.size ≤ s2 ∧ mb < s2) := ⟨Nat.le_trans HW5.out.size hl6, by omega⟩
  clear hM6 hM7 o7 ho6 hl6 hs2 HM5 HW5 H15 r1 r2 r3 r4 r5 hmx
  go_wp2_with fail
  refine (ended_any _ 3 b).mono ?_
  rintro e W8 ⟨s3, rfl, hs3, ho8, hl8⟩
  have hmx := HM7.out.lt
  have hM8 := HM7.out.more ho8
  obtain ⟨Y1, t1, hN1, u1⟩ := hM8.put (by omega) 8 (by omega) (by omega) (.func (.func 71) #[] #[.pointer (some ⟨b, 0, none⟩), .pointer (some ⟨s3, 0, none⟩)])
  obtain ⟨Y2, t2, hN2, u2⟩ := hN1.put (by omega) 9 (by omega) (by omega) (.func (.func 77) #[] #[])
  obtain ⟨Y3, t3, hN3, u3⟩ := hN2.put (by omega) 10 (by omega) (by omega) (.func (.func 78) #[] #[])
  obtain ⟨Y4, t4, hN4, u4⟩ := hN3.put (by omega) 11 (by omega) (by omega) (.func (.func 79) #[] #[.pointer (some ⟨b, 0, none⟩)])
  have HU : Hid (Only (fun i => i = mb) W8 Y4) := ((u1.trans u2 (fun _ _ h => h)).trans u3 (fun _ _ h => h)).trans u4 (fun _ _ h => h)
  have HN4 := hide hN4
  have HS3 := hide (hs3.kept HU.out (by omega))
  have HS2' := hide ((HS2.out.more ho8).kept HU.out (by have := HL2.out.2; omega))
  have HW9 : Hid (Only (fun _ => False) w Y4) := (o2 HW7.out ho8).trans HU.out (fun i hi e => by have := HBM.out; have := HBB.out; omega)
  have H19 : Hid (One Y4 b (.int .i64 m)) := (H17.out.more ho8).kept HU.out (by have := HBM.out; omega)
  have HL3 : Hid (w.heap.size ≤ s3) := Nat.le_trans HW7.out.size hl8
  clear hM8 hN1 hN2 hN3 hN4 u1 u2 u3 u4 ho8 hl8 hs3 HM7 HW7 H17 HS2 hmx r7 HU
  go_wp2_with fail
  go_ret
  exact ⟨mb, b, s2, s3, rfl, HN4.out, H19.out, HS2'.out, HS3.out, HW9.out, Nat.le_of_eq HBB.out, HL2.out.1, HL3.out⟩
end Go.Proofs.YtpnbhddmdfcjdaaGreat
namespace Go.Proofs.YtpnbhddmdfcjdaaGreat
open Go.RowKit
/-- What an Undo makes of the items. -/
def undL (R : Rc) (l : List ByteArray) : List ByteArray × Int := if R.old = 0 ∧ R.new = 0 then chgL cgD [R.slot] l else chgL (cgE R.old R.new) [R.slot] l
set_option maxRecDepth 100000 in
set_option maxHeartbeats 3200000 in
theorem undo_any (w : World) (a k v r : Int) (h : ByteArray) (base : Nat) (sl : Value) (l : List ByteArray) (hL : Ls w base sl l) (hsz : ∀ s ∈ l, s.size ≤ 140737488355328) (hln : l.length ≤ 8796093022207) (R : Rc) (L : Loc) (hn : -9223372036854775808 ≤ R.new ∧ R.new < 9223372036854775808) :
    Calls Tryz.prog 74 #[.agg #[.int .i64 a, .int .i64 k, .int .i64 v, .int .i64 r, .string h, sl], .agg (R.cells L)] w fun e w' => DeR w w' sl e (Pg.chg ⟨a, k, v, r, h, l⟩ (undL R l)) (undL R l).2 := by
  have HB := hide (boxR_new w a k v r h sl R L)
  have HOW : Hid (∀ j, sl.ownBlock = some j → j < w.heap.size) := fun j hj => (World.ownsRow.lt hL j hj).2
  by_cases hz : R.old = 0 ∧ R.new = 0
  · unfold undL
    rw [if_pos hz]
    obtain ⟨P, hP⟩ : ∃ P, Pg.chg ⟨a, k, v, r, h, l⟩ (chgL cgD [R.slot] l) = P := ⟨_, rfl⟩
    obtain ⟨C, hC⟩ : ∃ C, (chgL cgD [R.slot] l).2 = C := ⟨_, rfl⟩
    have HCH : Hid (∀ W zb, Only (fun _ => False) w W → Zs W zb (some ⟨zb, 0, none⟩) [R.slot] → w.heap.size ≤ zb → Calls Tryz.prog 117 #[.agg #[.int .i64 a, .int .i64 k, .int .i64 v, .int .i64 r, .string h, sl], .func (.func 119) #[] #[], .slice (some ⟨zb, 0, none⟩) 1 1] W fun e w' => DeR W w' sl e P C) := fun W zb ho hzs g0 => by
      refine (changed_D W a k v r h base sl l (hL.more ho) hsz [R.slot] zb 1 (some ⟨zb, 0, none⟩) hzs (fun _ q => by have := HOW.out _ q; omega)).mono ?_
      intro e w' hq
      rw [← hP, ← hC]
      exact hq.der (Nat.le_trans (chgL_len _ _ _) hln)
    rw [hP, hC]
    obtain ⟨z1, z2⟩ := hz
    clear hP hC hL hsz hln hn
    go_enter Tryz.func74, Tryz.ntmps74
    go_upto_region 1 with fail
    obtain ⟨W0, hW0⟩ : ∃ x, boxR w a k v r h sl R L = x := ⟨_, rfl⟩
    rw [hW0] at HB
    unfold boxR at hW0
    rw [hW0]
    clear hW0
    obtain ⟨p0, p1, p2, p3, p4, p5, _⟩ := HB.out.pag
    have r6 := HB.out.rc.c6
    have r7 := HB.out.rc.c7
    have r8 := HB.out.rc.c8
    rw [z1] at r7
    rw [z2] at r8
    have HZS := hide (zs_one W0 R.slot)
    have HBA := hide (HB.out.more (onlyA W0 (.cells #[.int .i64 R.slot] 3)))
    have hb0 := HB.out.only.size
    go_wp2_with fail
    refine (HCH.out _ _ HBA.out.only HZS.out hb0).mono ?_
    clear p0 p1 p2 p3 p4 p5 r6 r7 r8 HB hb0
    rintro e w9 hd
    have HD := hide hd
    obtain ⟨B3, ao3, cp3, rfl, _, _, ho3, _⟩ := hd
    have HQ := hide (HBA.out.res.kept ho3 (fun q => by have := HOW.out _ q; omega))
    obtain ⟨q0, q1, q2, q3, q4, q5, g0, g1, g2, g3, g4, g5, ql⟩ := HQ.out
    have hlt := HBA.out.res.lt
    clear ho3
    go_wp2_with fail
    refine bodyPost_ret (results_page rfl rfl (Pag.six HQ.out _ _ _ _ _ _)) rfl ?_
    exact deR_six HBA.out.only HD.out HOW.out _ (by omega) hlt _ _ _ _ _ _
  · unfold undL
    rw [if_neg hz]
    obtain ⟨P, hP⟩ : ∃ P, Pg.chg ⟨a, k, v, r, h, l⟩ (chgL (cgE R.old R.new) [R.slot] l) = P := ⟨_, rfl⟩
    obtain ⟨C, hC⟩ : ∃ C, (chgL (cgE R.old R.new) [R.slot] l).2 = C := ⟨_, rfl⟩
    have HCH : Hid (∀ W, Only (fun _ => False) w W → Calls Tryz.prog 73 #[.agg #[.int .i64 a, .int .i64 k, .int .i64 v, .int .i64 r, .string h, sl], .agg (R.cells L)] W fun e w' => DeR W w' sl e P C) := fun W ho => by
      rw [← hP, ← hC]
      exact mark_any W a k v r h base sl l (hL.more ho) hsz hln R L hn
    rw [hP, hC]
    clear hP hC hL hsz hln hn
    go_enter Tryz.func74, Tryz.ntmps74
    go_upto_region 1 with fail
    obtain ⟨W0, hW0⟩ : ∃ x, boxR w a k v r h sl R L = x := ⟨_, rfl⟩
    rw [hW0] at HB
    unfold boxR at hW0
    rw [hW0]
    clear hW0
    obtain ⟨p0, p1, p2, p3, p4, p5, _⟩ := HB.out.pag
    have r7 := HB.out.rc.c7
    have r8 := HB.out.rc.c8
    by_cases hz1 : R.old = 0
    · have hz2 : (R.new == 0) = false := by simpa using fun e => hz ⟨hz1, e⟩
      have hz3 : (R.old == 0) = true := by simpa using hz1
      go_wp2_with (refine wpList_load_rc rfl (.tmp 3) rfl (w.heap.size + 1) rfl R L HB.out.rc.range ?_; go_frame)
      refine (HCH.out _ HB.out.only).mono ?_
      clear p0 p1 p2 p3 p4 p5 r7 r8
      rintro e w9 hd
      have HD := hide hd
      obtain ⟨B3, ao3, cp3, rfl, _, _, ho3, _⟩ := hd
      have HQ := hide (HB.out.res.kept ho3 (fun q => by have := HOW.out _ q; omega))
      obtain ⟨q0, q1, q2, q3, q4, q5, g0, g1, g2, g3, g4, g5, ql⟩ := HQ.out
      have hlt := HB.out.res.lt
      clear ho3
      go_wp2_with fail
      refine bodyPost_ret (results_page rfl rfl (Pag.six HQ.out _ _ _ _ _ _)) rfl ?_
      exact deR_six HB.out.only HD.out HOW.out _ (by omega) hlt _ _ _ _ _ _
    · have hz3 : (R.old == 0) = false := by simpa using hz1
      go_wp2_with (refine wpList_load_rc rfl (.tmp 3) rfl (w.heap.size + 1) rfl R L HB.out.rc.range ?_; go_frame)
      refine (HCH.out _ HB.out.only).mono ?_
      clear p0 p1 p2 p3 p4 p5 r7 r8
      rintro e w9 hd
      have HD := hide hd
      obtain ⟨B3, ao3, cp3, rfl, _, _, ho3, _⟩ := hd
      have HQ := hide (HB.out.res.kept ho3 (fun q => by have := HOW.out _ q; omega))
      obtain ⟨q0, q1, q2, q3, q4, q5, g0, g1, g2, g3, g4, g5, ql⟩ := HQ.out
      have hlt := HB.out.res.lt
      clear ho3
      go_wp2_with fail
      refine bodyPost_ret (results_page rfl rfl (Pag.six HQ.out _ _ _ _ _ _)) rfl ?_
      exact deR_six HB.out.only HD.out HOW.out _ (by omega) hlt _ _ _ _ _ _
theorem deR_six2 {w W5 W6 : World} {sl : Value} {e : Ending} {p : Pg} {c : Int} (hw : Only (fun j => sl.ownBlock = some j) w W5) (h : DeR W5 W6 sl e p c) (own : ∀ j, sl.ownBlock = some j → j < w.heap.size) (rb : Nat) (h1 : w.heap.size ≤ rb) (h2 : rb < W5.heap.size) (v0 v1 v2 v3 v4 v5 : Value) :
    DeR w ((((((W6.setCell ⟨rb, 0, none⟩ v0).setCell ⟨rb, 1, none⟩ v1).setCell ⟨rb, 2, none⟩ v2).setCell ⟨rb, 3, none⟩ v3).setCell ⟨rb, 4, none⟩ v4).setCell ⟨rb, 5, none⟩ v5) sl e p c := by
  obtain ⟨B, ao, cp, he, hS, hF, ho, hB⟩ := h
  have h6 := Only.six W6 rb v0 v1 v2 v3 v4 v5
  refine ⟨B, ao, cp, he, hS.kept h6 (fun h0 e => ?_), hF, (hw.trans ho (fun _ _ h => h)).trans h6 (fun i hi e => by omega), fun h0 => (hB h0).imp id (fun h => Nat.le_trans hw.size h)⟩
  rcases hB h0 with h | h
  · have := own _ h
    omega
  · omega
/-- What a Freeze makes of the items. -/
def frzL (R : Rc) (l : List ByteArray) : List ByteArray × Int := if (chgL cgF R.slots l).2 = 0 then chgL cgX R.more (chgL cgF R.slots l).1 else chgL cgF R.slots l
set_option maxRecDepth 100000 in
set_option maxHeartbeats 3200000 in
theorem freeze_go (w : World) (a k v r : Int) (h : ByteArray) (base : Nat) (ao : Option Addr) (n cp : Nat) (l : List ByteArray) (hL : Ls w base (.slice ao n cp) l) (hsz : ∀ s ∈ l, s.size ≤ 140737488355328) (hln : l.length ≤ 8796093022207) (R : Rc) (L : Loc) (hz1 : Zs w L.b1 L.a1 R.slots) (hn1 : 0 < R.slots.length → ¬ (Value.slice ao n cp).ownBlock = some L.b1) (hz2 : Zs w L.b2 L.a2 R.more) (hn2 : 0 < R.more.length → ¬ (Value.slice ao n cp).ownBlock = some L.b2) :
    Calls Tryz.prog 78 #[.agg #[.int .i64 a, .int .i64 k, .int .i64 v, .int .i64 r, .string h, (.slice ao n cp)], .agg (R.cells L)] w fun e w' => DeR w w' (.slice ao n cp) e (Pg.chg ⟨a, k, v, r, h, l⟩ (frzL R l)) (frzL R l).2 := by
  have HB := hide (boxR_new w a k v r h (.slice ao n cp) R L)
  have HOW : Hid (∀ j, (Value.slice ao n cp).ownBlock = some j → j < w.heap.size) := fun j hj => (World.ownsRow.lt hL j hj).2
  have HCF : Hid (∀ W, Only (fun _ => False) w W → Calls Tryz.prog 117 #[.agg #[.int .i64 a, .int .i64 k, .int .i64 v, .int .i64 r, .string h, (.slice ao n cp)], .func (.func 125) #[] #[], .slice L.a1 R.slots.length L.c1] W fun e w' => ChQ W w' base (.slice ao n cp) e ⟨a, k, v, r, h, [⟨#[]⟩]⟩ (chgL cgF R.slots l)) := fun W ho => changed_F W a k v r h base (.slice ao n cp) l (hL.more ho) hsz R.slots L.b1 L.c1 L.a1 (hz1.more ho) hn1
  have HCX : Hid (∀ W m, Only (fun j => (Value.slice ao n cp).ownBlock = some j) w W → Ls W base (.slice ao n cp) m → (∀ s ∈ m, s.size ≤ 140737488355328) → Calls Tryz.prog 117 #[.agg #[.int .i64 a, .int .i64 k, .int .i64 v, .int .i64 r, .string h, (.slice ao n cp)], .func (.func 126) #[] #[], .slice L.a2 R.more.length L.c2] W fun e w' => ChQ W w' base (.slice ao n cp) e ⟨a, k, v, r, h, [⟨#[]⟩]⟩ (chgL cgX R.more m)) := fun W m ho hm hs => changed_X W a k v r h base (.slice ao n cp) m hm hs R.more L.b2 L.c2 L.a2 (hz2.kept ho hn2) hn2
  have HLN : Hid ((chgL cgF R.slots l).1.length ≤ 8796093022207) := Nat.le_trans (chgL_len _ _ _) hln
  unfold frzL
  obtain ⟨X, hX⟩ : ∃ X, chgL cgF R.slots l = X := ⟨_, rfl⟩
  rw [hX] at HCF HLN
  rw [hX]
  clear hX hL hsz hln hz1 hz2 hn1 hn2
  by_cases hx : X.2 = 0
  · rw [if_pos hx]
    obtain ⟨P, hP⟩ : ∃ P, Pg.chg ⟨a, k, v, r, h, l⟩ (chgL cgX R.more X.1) = P := ⟨_, rfl⟩
    obtain ⟨C, hC⟩ : ∃ C, (chgL cgX R.more X.1).2 = C := ⟨_, rfl⟩
    have HCY : Hid (∀ W, Only (fun j => (Value.slice ao n cp).ownBlock = some j) w W → Ls W base (.slice ao n cp) X.1 → (∀ s ∈ X.1, s.size ≤ 140737488355328) → Calls Tryz.prog 117 #[.agg #[.int .i64 a, .int .i64 k, .int .i64 v, .int .i64 r, .string h, (.slice ao n cp)], .func (.func 126) #[] #[], .slice L.a2 R.more.length L.c2] W fun e w' => DeR W w' (.slice ao n cp) e P C) := fun W ho hm hs => (HCX.out W X.1 ho hm hs).mono (fun e w' hq => by
      rw [← hP, ← hC]
      exact hq.der (Nat.le_trans (chgL_len _ _ _) HLN.out))
    rw [hP, hC]
    clear hP hC HCX HLN
    go_enter Tryz.func78, Tryz.ntmps78
    go_upto_region 1 with fail
    obtain ⟨W0, hW0⟩ : ∃ x, boxR w a k v r h (.slice ao n cp) R L = x := ⟨_, rfl⟩
    rw [hW0] at HB
    unfold boxR at hW0
    rw [hW0]
    clear hW0
    obtain ⟨p0, p1, p2, p3, p4, p5, _⟩ := HB.out.pag
    have r11 := HB.out.rc.c11
    go_wp2_with fail
    refine (HCF.out _ HB.out.only).mono ?_
    rintro e w1 hq
    obtain ⟨rfl, hl1, hs1⟩ := hq.good hx
    have ho1 := hq.only
    have hnp : ¬ (Value.slice ao n cp).ownBlock = some w.heap.size := fun q => by have := HOW.out _ q; omega
    have hnr : ¬ (Value.slice ao n cp).ownBlock = some (w.heap.size + 1) := fun q => by have := HOW.out _ q; omega
    have hnq : ¬ (Value.slice ao n cp).ownBlock = some (w.heap.size + 1 + 1) := fun q => by have := HOW.out _ q; omega
    have HP1 := hide (HB.out.pag.kept ho1 hnp)
    have HR1 := hide (HB.out.rc.kept ho1 hnr)
    have HQ1 := hide (HB.out.res.kept ho1 hnq)
    have HL1 := hide hl1
    have HS1 := hide hs1
    have HO1 : Hid (Only (fun j => (Value.slice ao n cp).ownBlock = some j) w w1) := (HB.out.only.mono (fun _ _ h => h.elim)).trans ho1 (fun _ _ h => h)
    clear p0 p1 p2 p3 p4 p5 r11 hq hl1 hs1 ho1 hnp hnr hnq HB HCF
    obtain ⟨p0, p1, p2, p3, p4, p5, t0, t1, t2, t3, t4, t5, pl⟩ := HP1.out
    go_upto_region 2 with fail
    have h6 := Only.six w1 w.heap.size (.int .i64 a) (.int .i64 k) (.int .i64 v) (.int .i64 r) (.string h) (.slice ao n cp)
    have HP2 := hide (HP1.out.six (.int .i64 a) (.int .i64 k) (.int .i64 v) (.int .i64 r) (.string h) (.slice ao n cp))
    have HR2 := hide (HR1.out.kept h6 (by omega))
    have HQ2 := hide (HQ1.out.kept h6 (by omega))
    have HL2 := hide (HL1.out.kept h6 (fun j hj e => by have := HOW.out j hj; omega))
    have HO2 := hide (HO1.out.trans h6 (fun i hi e => by omega))
    obtain ⟨w2, hw2⟩ : ∃ x, ((((((w1.setCell ⟨w.heap.size, 0, none⟩ (.int .i64 a)).setCell ⟨w.heap.size, 1, none⟩ (.int .i64 k)).setCell ⟨w.heap.size, 2, none⟩ (.int .i64 v)).setCell ⟨w.heap.size, 3, none⟩ (.int .i64 r)).setCell ⟨w.heap.size, 4, none⟩ (.string h)).setCell ⟨w.heap.size, 5, none⟩ (.slice ao n cp)) = x := ⟨_, rfl⟩
    rw [hw2] at HP2 HR2 HQ2 HL2 HO2 ⊢
    clear hw2 h6 HP1 HR1 HQ1 HL1 HO1 p0 p1 p2 p3 p4 p5 t0 t1 t2 t3 t4 t5 pl
    obtain ⟨p0, p1, p2, p3, p4, p5, _⟩ := HP2.out
    have r12 := HR2.out.c12
    go_wp2_with fail
    refine (HCY.out _ HO2.out HL2.out HS1.out).mono ?_
    clear p0 p1 p2 p3 p4 p5 r12 HCY HP2 HR2
    rintro e w9 hd
    have HD := hide hd
    obtain ⟨B3, ao3, cp3, rfl, _, _, ho3, _⟩ := hd
    have HQ := hide (HQ2.out.kept ho3 (fun q => by have := HOW.out _ q; omega))
    obtain ⟨q0, q1, q2, q3, q4, q5, g0, g1, g2, g3, g4, g5, ql⟩ := HQ.out
    have hlt := HQ2.out.lt
    clear ho3
    go_wp2_with fail
    refine bodyPost_ret (results_page rfl rfl (Pag.six HQ.out _ _ _ _ _ _)) rfl ?_
    exact deR_six2 HO2.out HD.out HOW.out _ (by omega) hlt _ _ _ _ _ _
  · rw [if_neg hx]
    have hxb : (X.2 == 0) = false := by simpa using hx
    have e9 : Pg.chg ⟨a, k, v, r, h, l⟩ X = .none := by unfold Pg.chg; rw [if_neg hx]
    rw [e9]
    clear e9 HCX HLN
    obtain ⟨z, hz⟩ : ∃ z, X.2 = z := ⟨_, rfl⟩
    rw [hz] at hxb ⊢
    go_enter Tryz.func78, Tryz.ntmps78
    go_upto_region 1 with fail
    obtain ⟨W0, hW0⟩ : ∃ x, boxR w a k v r h (.slice ao n cp) R L = x := ⟨_, rfl⟩
    rw [hW0] at HB
    unfold boxR at hW0
    rw [hW0]
    clear hW0
    obtain ⟨p0, p1, p2, p3, p4, p5, _⟩ := HB.out.pag
    have r11 := HB.out.rc.c11
    go_wp2_with fail
    refine (HCF.out _ HB.out.only).mono ?_
    rintro e w1 hq
    have he := hq.bad hx
    rw [hz] at he
    subst he
    have ho1 := hq.only
    have hnp : ¬ (Value.slice ao n cp).ownBlock = some w.heap.size := fun q => by have := HOW.out _ q; omega
    have hnq : ¬ (Value.slice ao n cp).ownBlock = some (w.heap.size + 1 + 1) := fun q => by have := HOW.out _ q; omega
    have HP1 := hide (HB.out.pag.kept ho1 hnp)
    have HQ1 := hide (HB.out.res.kept ho1 hnq)
    have HO1 : Hid (Only (fun j => (Value.slice ao n cp).ownBlock = some j) w w1) := (HB.out.only.mono (fun _ _ h => h.elim)).trans ho1 (fun _ _ h => h)
    clear p0 p1 p2 p3 p4 p5 r11 hq ho1 hnp hnq HB HCF
    obtain ⟨p0, p1, p2, p3, p4, p5, t0, t1, t2, t3, t4, t5, pl⟩ := HP1.out
    go_upto_region 2 with fail
    have h6 := Only.six w1 w.heap.size (.int .i64 0) (.int .i64 0) (.int .i64 0) (.int .i64 0) (.string ⟨#[]⟩) (.slice none 0 0)
    have HQ2 := hide (HQ1.out.kept h6 (by omega))
    have HO2 := hide (HO1.out.trans h6 (fun i hi e => by omega))
    obtain ⟨w2, hw2⟩ : ∃ x, ((((((w1.setCell ⟨w.heap.size, 0, none⟩ (.int .i64 0)).setCell ⟨w.heap.size, 1, none⟩ (.int .i64 0)).setCell ⟨w.heap.size, 2, none⟩ (.int .i64 0)).setCell ⟨w.heap.size, 3, none⟩ (.int .i64 0)).setCell ⟨w.heap.size, 4, none⟩ (.string ⟨#[]⟩)).setCell ⟨w.heap.size, 5, none⟩ (.slice none 0 0)) = x := ⟨_, rfl⟩
    rw [hw2] at HQ2 HO2 ⊢
    clear hw2 h6 HP1 HQ1 HO1 p0 p1 p2 p3 p4 p5 t0 t1 t2 t3 t4 t5 pl
    obtain ⟨q0, q1, q2, q3, q4, q5, g0, g1, g2, g3, g4, g5, ql⟩ := HQ2.out
    go_wp2_with fail
    refine bodyPost_ret (results_page rfl rfl (Pag.six HQ2.out _ _ _ _ _ _)) rfl ?_
    exact deR_none (.slice ao n cp) z (HO2.out.trans (Only.six _ (w.heap.size + 1 + 1) _ _ _ _ _ _) (fun i hi e => by omega))
theorem freeze_any (w : World) (a k v r : Int) (h : ByteArray) (base : Nat) (sl : Value) (l : List ByteArray) (hL : Ls w base sl l) (hsz : ∀ s ∈ l, s.size ≤ 140737488355328) (hln : l.length ≤ 8796093022207) (R : Rc) (L : Loc) (hz1 : Zs w L.b1 L.a1 R.slots) (hn1 : 0 < R.slots.length → ¬ sl.ownBlock = some L.b1) (hz2 : Zs w L.b2 L.a2 R.more) (hn2 : 0 < R.more.length → ¬ sl.ownBlock = some L.b2) :
    Calls Tryz.prog 78 #[.agg #[.int .i64 a, .int .i64 k, .int .i64 v, .int .i64 r, .string h, sl], .agg (R.cells L)] w fun e w' => DeR w w' sl e (Pg.chg ⟨a, k, v, r, h, l⟩ (frzL R l)) (frzL R l).2 := by
  obtain ⟨ao, cp, rfl⟩ : ∃ ao cp, sl = .slice ao l.length cp := by
    rcases hL.2 with ⟨rfl, h0⟩ | ⟨g, cap, cur, rfl, _⟩
    · exact ⟨none, 0, by rw [h0]⟩
    · exact ⟨_, _, rfl⟩
  exact freeze_go w a k v r h base ao l.length cp l hL hsz hln R L hz1 hn1 hz2 hn2
end Go.Proofs.YtpnbhddmdfcjdaaGreat
