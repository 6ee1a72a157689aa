/- Entries and separators as plain data: their order, their bytes, what bytes are, and what a node's items say. -/
import Derived.Test.YtphofhicehncgaaGreatK14
import Derived.Test.YtphofhicehncgaaGreatK15
import Derived.Maps.OwnSet
import Derived.Maps.Ext
import Derived.Test.YtphofhicehncgaaGreatK10
import Derived.Sort.Walk0
namespace Go.Proofs.YtphofhicehncgaaGreat
open Go.RowKit

theorem deR_six {w W5 W6 : World} {sl : Value} {e : Ending} {p : Pg} {c : Int} (hw : Only (fun _ => False) w W5) (h : DeR W5 W6 sl e p c) (own : ∀ j, sl.ownBlock = some j → j < w.heap.size) (rb : Nat) (h1 : w.heap.size ≤ rb) (h2 : rb < W5.heap.size) (v0 v1 v2 v3 v4 v5 : Value) :
    DeR w ((((((W6.setCell ⟨rb, 0, none⟩ v0).setCell ⟨rb, 1, none⟩ v1).setCell ⟨rb, 2, none⟩ v2).setCell ⟨rb, 3, none⟩ v3).setCell ⟨rb, 4, none⟩ v4).setCell ⟨rb, 5, none⟩ v5) sl e p c := by
  obtain ⟨B, ao, cp, he, hS, hF, ho, hB⟩ := h
  have h6 := Only.six W6 rb v0 v1 v2 v3 v4 v5
  refine ⟨B, ao, cp, he, hS.kept h6 (fun h0 e => ?_), hF, ((hw.mono (fun _ _ h => h.elim)).trans ho (fun _ _ h => h)).trans h6 (fun i hi e => by omega), fun h0 => (hB h0).imp id (fun h => Nat.le_trans hw.size h)⟩
  rcases hB h0 with h | h
  · have := own _ h
    omega
  · omega
theorem zs_one (W : World) (z : Int) : Zs (W.alloc (.cells #[.int .i64 z] 3)) W.heap.size (some ⟨W.heap.size, 0, none⟩) [z] :=
  ⟨fun _ => ⟨0, rfl, fun j hj => by
    have : j = 0 := by simp at hj; omega
    subst this
    simp⟩, fun _ => by simp, by simp⟩
set_option maxRecDepth 100000 in
set_option maxHeartbeats 800000 in
theorem ending_any (w : World) (o n : Int) : Calls Tryz.prog 40 #[.int .i64 o, .int .i64 n] w fun e w' => ∃ b1 b2, e = .returned (.func (.func 72) #[] #[.pointer (some ⟨b1, 0, none⟩), .pointer (some ⟨b2, 0, none⟩)]) ∧ Two w' b1 b2 o n ∧ Only (fun _ => False) w w' ∧ w.heap.size ≤ b1 ∧ w.heap.size ≤ b2 := by
  have hmf : ∀ (fn : Fn) (first cap : Array Value) (w : World), (Instr.makeFunc fn first cap).run Tryz.prog w = .ok (.func fn first cap) w := fun _ _ _ _ => rfl
  have H2 : Hid (Two ((w.alloc (.cells #[.int .i64 o] 3)).alloc (.cells #[.int .i64 n] 3)) w.heap.size (w.heap.size + 1) o n) := by
    refine ⟨?_, ?_, ?_, ?_⟩
    · simp
    · simp
    · simp; omega
    · simp
  go_enter Tryz.func40, Tryz.ntmps40
  go_wp2_with fail
  go_ret
  exact ⟨_, _, rfl, H2.out, o2 (onlyA _ _) (onlyA _ _), Nat.le_refl _, by omega⟩
end Go.Proofs.YtphofhicehncgaaGreat

namespace Go.Proofs.YtphofhicehncgaaGreat
open Go.RowKit Go.Maps

/-- How a function reads as a map's element: as itself. -/
def fnElem (v : Value) : Option (DataW Value × List MemPlace) := some (.held v, [])
theorem keyedK : Keyed Tryz.prog 28 := int_keyed Tryz.underlying28
theorem keyK {k : Int} (h0 : 0 ≤ k) (h1 : k ≤ 255) : keyOf Tryz.prog 28 (.int .u8 k) = some (.int .u8 k) := keyOf_int_mk Tryz.underlying28 (WalkArith.wf_u8 ⟨h0, h1⟩)
set_option maxRecDepth 100000 in
theorem zero_deed (w : World) : (zeroValue 47).run Tryz.prog w = .ok .nilFunc w := rfl
/-- A map of functions in block m, of at most n entries. -/
def Mdd (w : World) (m n : Nat) (f : Int → Option Value) : Prop := ∃ D, w.ownsMap Tryz.prog 28 fnElem m n D ∧ (∀ k, 0 ≤ k → k ≤ 255 → Maps.has D (.int .u8 k) = (f k).isSome) ∧ (∀ k v, 0 ≤ k → k ≤ 255 → f k = some v → ∀ z, D.atKey (.int .u8 k) z = .held v)
theorem Mdd.new (w : World) : Mdd (w.alloc (.map #[] 0)) w.heap.size 0 (fun _ => none) := ⟨.map [], World.ownsMap_made w Tryz.prog 28 fnElem, fun k _ _ => by simp [Maps.has], fun k v _ _ h => by cases h⟩
theorem Mdd.kept {S : Nat → Prop} {w w' : World} {m n : Nat} {f : Int → Option Value} (h : Mdd w m n f) (ho : Only S w w') (hS : ¬ S m) : Mdd w' m n f := by
  obtain ⟨D, ⟨es, clock, hb, F, hs, hD⟩, hf⟩ := h
  exact ⟨D, ⟨es, clock, (ho.block m (Array.getElem?_eq_some_iff.1 hb).1 hS).trans hb, F, hs, hD⟩, hf⟩
theorem Mdd.more {w w' : World} {m n : Nat} {f : Int → Option Value} (h : Mdd w m n f) (ho : Only (fun _ => False) w w') : Mdd w' m n f := h.kept ho (fun h => h)
theorem Mdd.lt {w : World} {m n : Nat} {f : Int → Option Value} (h : Mdd w m n f) : m < w.heap.size := by
  obtain ⟨D, h, _⟩ := h
  exact h.lt
theorem Mdd.put {w : World} {m n : Nat} {f : Int → Option Value} (h : Mdd w m n f) (hn : n < 1000) (k : Int) (h0 : 0 ≤ k) (h1 : k ≤ 255) (v : Value) :
    ∃ w', (Instr.mapUpdate 49 (.map (some m)) (.int .u8 k) v).run Tryz.prog w = .ok () w' ∧ Mdd w' m (n + 1) (fun j => if j = k then some v else f j) ∧ Only (fun i => i = m) w w' := by
  obtain ⟨D, hown, hh, ha⟩ := h
  obtain ⟨w', e1, e2, e3⟩ := hown.update keyedK Tryz.underlying49 (by unfold maxLen; omega) (keyK h0 h1) (show fnElem v = some (.held v, []) from rfl)
  have kl : WideAt.IsKeyLit (.int .u8 k) := trivial
  have hm := hown.isMap
  refine ⟨w', e1, ⟨_, e2, ?_, ?_⟩, Only.grown e3 (fun i hi => by cases hi; rfl)⟩
  · intro j j0 j1
    by_cases e : j = k
    · subst e
      rw [Maps.has_put_same hm kl]
      simp
    · rw [Maps.has_put_other (by simp [e]), hh j j0 j1]
      simp [e]
  · intro j x j0 j1 hx z
    by_cases e : j = k
    · subst e
      simp only [if_true] at hx
      cases hx
      rw [Maps.atKey_put_same hm kl]
    · simp only [if_neg e] at hx
      rw [Maps.atKey_put_other (by simp [e])]
      exact ha j x j0 j1 hx z
theorem Mdd.look {w : World} {m n : Nat} {f : Int → Option Value} (h : Mdd w m n f) (k : Int) (h0 : 0 ≤ k) (h1 : k ≤ 255) :
    (Instr.lookup 49 (.map (some m)) (.int .u8 k) true).run Tryz.prog w = .ok (.tuple #[(f k).getD .nilFunc, .bool (f k).isSome]) w := by
  obtain ⟨D, hown, hh, ha⟩ := h
  obtain ⟨v, ps, e1, e2⟩ := hown.look_ok keyedK Tryz.underlying49 (zero_deed w) (show fnElem .nilFunc = some (.held .nilFunc, []) from rfl) (keyK h0 h1)
  rw [hh k h0 h1] at e1
  have e : D.atKey (.int .u8 k) (.held .nilFunc) = .held ((f k).getD .nilFunc) := by
    cases hf : f k with
    | none =>
      rw [Maps.atKey_of_not_has (by rw [hh k h0 h1, hf]; rfl)]
      rfl
    | some b => rw [ha k b h0 h1 hf]; rfl
  rw [e] at e2
  unfold fnElem at e2
  simp only [Option.some.injEq, Prod.mk.injEq, DataW.held.injEq] at e2
  rw [e2.1] at e1
  exact e1
/-- A number or a status in a variable of its own. -/
structure One (w : World) (b : Nat) (v : Value) : Prop where
  c : w.cell? ⟨b, 0, none⟩ = some v
  l : b < w.heap.size
theorem One.kept {S : Nat → Prop} {w w' : World} {b : Nat} {v : Value} (h : One w b v) (ho : Only S w w') (hS : ¬ S b) : One w' b v := ⟨(ho.cell (p := ⟨b, 0, none⟩) h.l hS).trans h.c, Nat.lt_of_lt_of_le h.l ho.size⟩
theorem One.more {w w' : World} {b : Nat} {v : Value} (h : One w b v) (ho : Only (fun _ => False) w w') : One w' b v := h.kept ho (fun h => h)
/-- The functions that deeds lays. -/
def fnOf (b s2 s3 : Nat) (k : Int) : Option Value := if k = 11 then some (.func (.func 25) #[] #[.pointer (some ⟨b, 0, none⟩)]) else if k = 10 then some (.func (.func 24) #[] #[]) else if k = 9 then some (.func (.func 23) #[] #[]) else if k = 8 then some (.func (.func 16) #[] #[.pointer (some ⟨b, 0, none⟩), .pointer (some ⟨s3, 0, none⟩)]) else if k = 7 then some (.func (.func 16) #[] #[.pointer (some ⟨b, 0, none⟩), .pointer (some ⟨s2, 0, none⟩)])
  else if k = 4 then some (.func (.func 22) #[] #[]) else if k = 3 then some (.func (.func 21) #[] #[]) else if k = 6 then some (.func (.func 20) #[] #[]) else if k = 2 then some (.func (.func 19) #[] #[]) else if k = 1 then some (.func (.func 18) #[] #[]) else none
set_option maxRecDepth 100000 in
set_option maxHeartbeats 800000 in
theorem ended_any (w : World) (s : Int) (b : Nat) : Calls Tryz.prog 15 #[.int .u8 s, .pointer (some ⟨b, 0, none⟩)] w fun e w' => ∃ sb, e = .returned (.func (.func 16) #[] #[.pointer (some ⟨b, 0, none⟩), .pointer (some ⟨sb, 0, none⟩)]) ∧ One w' sb (.int .u8 s) ∧ Only (fun _ => False) w w' ∧ w.heap.size ≤ sb := by
  have hmf : ∀ (fn : Fn) (first cap : Array Value) (w : World), (Instr.makeFunc fn first cap).run Tryz.prog w = .ok (.func fn first cap) w := fun _ _ _ _ => rfl
  have H2 : Hid (One (w.alloc (.cells #[.int .u8 s] 60)) w.heap.size (.int .u8 s)) := ⟨by simp, by simp⟩
  go_enter Tryz.func15, Tryz.ntmps15
  go_wp2_with fail
  go_ret
  exact ⟨_, rfl, H2.out, onlyA _ _, Nat.le_refl _⟩
set_option maxRecDepth 100000 in
set_option maxHeartbeats 3200000 in
theorem deeds_any (w : World) (m : Int) : Calls Tryz.prog 9 #[.int .i64 m] w fun e w' => ∃ mb b s2 s3, e = .returned (.map (some mb)) ∧ Mdd w' mb 10 (fnOf b s2 s3) ∧ One w' b (.int .i64 m) ∧ One w' s2 (.int .u8 2) ∧ One w' s3 (.int .u8 3) ∧ Only (fun _ => False) w w' ∧ w.heap.size ≤ b ∧ w.heap.size ≤ s2 ∧ w.heap.size ≤ s3 := by
  have hmf : ∀ (fn : Fn) (first cap : Array Value) (w : World), (Instr.makeFunc fn first cap).run Tryz.prog w = .ok (.func fn first cap) w := fun _ _ _ _ => rfl
  have hmm := @run_makeMap Tryz.prog
  have H1 : Hid (One (w.alloc (.cells #[.int .i64 m] 3)) w.heap.size (.int .i64 m)) := ⟨by simp, by simp⟩
  have HO1 := hide (onlyA w (.cells #[.int .i64 m] 3))
  go_enter Tryz.func9, Tryz.ntmps9
  go_upto_region 2 with fail
  obtain ⟨b, hb⟩ : ∃ b, w.heap.size = b := ⟨_, rfl⟩
  rw [hb] at H1 ⊢
  obtain ⟨W1, hW1⟩ : ∃ x, w.alloc (.cells #[.int .i64 m] 3) = x := ⟨_, rfl⟩
  rw [hW1] at H1 HO1 ⊢
  clear hW1
  have hM0 := Mdd.new W1
  have HOM := hide (onlyA W1 (.map #[] 0))
  obtain ⟨mb, hmb⟩ : ∃ b, W1.heap.size = b := ⟨_, rfl⟩
  rw [hmb] at hM0
  obtain ⟨X1, r1, hM1, o1⟩ := hM0.put (by omega) 1 (by omega) (by omega) (.func (.func 18) #[] #[])
  obtain ⟨X2, r2, hM2, o2'⟩ := hM1.put (by omega) 2 (by omega) (by omega) (.func (.func 19) #[] #[])
  obtain ⟨X3, r3, hM3, o3⟩ := hM2.put (by omega) 6 (by omega) (by omega) (.func (.func 20) #[] #[])
  obtain ⟨X4, r4, hM4, o4⟩ := hM3.put (by omega) 3 (by omega) (by omega) (.func (.func 21) #[] #[])
  obtain ⟨X5, r5, hM5, o5⟩ := hM4.put (by omega) 4 (by omega) (by omega) (.func (.func 22) #[] #[])
  have HM5 := hide hM5
  have HO5 : Hid (Only (fun i => i = mb) (W1.alloc (.map #[] 0)) X5) := (((o1.trans o2' (fun _ _ h => h)).trans o3 (fun _ _ h => h)).trans o4 (fun _ _ h => h)).trans o5 (fun _ _ h => h)
  have HBM : Hid (b < mb) := by unfold Hid; rw [← hmb]; exact H1.out.l
  have HW5 : Hid (Only (fun _ => False) w X5) := (o2 HO1.out HOM.out).trans HO5.out (fun i hi e => by have := HO1.out.size; omega)
  have H15 : Hid (One X5 b (.int .i64 m)) := (H1.out.more HOM.out).kept HO5.out (by have := HBM.out; omega)
  have HBB := hide hb
  clear hM0 hM1 hM2 hM3 hM4 hM5 o1 o2' o3 o4 o5 HO5 HOM HO1 H1 hb
  go_wp2_with fail
  refine (ended_any _ 2 b).mono ?_
  rintro e W6 ⟨s2, rfl, hs2, ho6, hl6⟩
  have hmx := HM5.out.lt
  have hM6 := HM5.out.more ho6
  obtain ⟨X7, r7, hM7, o7⟩ := hM6.put (by omega) 7 (by omega) (by omega) (.func (.func 16) #[] #[.pointer (some ⟨b, 0, none⟩), .pointer (some ⟨s2, 0, none⟩)])
  have HM7 := hide hM7
  have HS2 := hide (hs2.kept o7 (by omega))
  have HW7 : Hid (Only (fun _ => False) w X7) := (o2 HW5.out ho6).trans o7 (fun i hi e => by have := HBM.out; have := HBB.out; omega)
  have H17 : Hid (One X7 b (.int .i64 m)) := (H15.out.more ho6).kept o7 (by have := HBM.out; omega)
  have HL2 : Hid (w.heap.size ≤ s2 ∧ mb < s2) := ⟨Nat.le_trans HW5.out.size hl6, by omega⟩
  clear hM6 hM7 o7 ho6 hl6 hs2 HM5 HW5 H15 r1 r2 r3 r4 r5 hmx
  go_wp2_with fail
  refine (ended_any _ 3 b).mono ?_
  rintro e W8 ⟨s3, rfl, hs3, ho8, hl8⟩
  have hmx := HM7.out.lt
  have hM8 := HM7.out.more ho8
  obtain ⟨Y1, t1, hN1, u1⟩ := hM8.put (by omega) 8 (by omega) (by omega) (.func (.func 16) #[] #[.pointer (some ⟨b, 0, none⟩), .pointer (some ⟨s3, 0, none⟩)])
  obtain ⟨Y2, t2, hN2, u2⟩ := hN1.put (by omega) 9 (by omega) (by omega) (.func (.func 23) #[] #[])
  obtain ⟨Y3, t3, hN3, u3⟩ := hN2.put (by omega) 10 (by omega) (by omega) (.func (.func 24) #[] #[])
  obtain ⟨Y4, t4, hN4, u4⟩ := hN3.put (by omega) 11 (by omega) (by omega) (.func (.func 25) #[] #[.pointer (some ⟨b, 0, none⟩)])
  have HU : Hid (Only (fun i => i = mb) W8 Y4) := ((u1.trans u2 (fun _ _ h => h)).trans u3 (fun _ _ h => h)).trans u4 (fun _ _ h => h)
  have HN4 := hide hN4
  have HS3 := hide (hs3.kept HU.out (by omega))
  have HS2' := hide ((HS2.out.more ho8).kept HU.out (by have := HL2.out.2; omega))
  have HW9 : Hid (Only (fun _ => False) w Y4) := (o2 HW7.out ho8).trans HU.out (fun i hi e => by have := HBM.out; have := HBB.out; omega)
  have H19 : Hid (One Y4 b (.int .i64 m)) := (H17.out.more ho8).kept HU.out (by have := HBM.out; omega)
  have HL3 : Hid (w.heap.size ≤ s3) := Nat.le_trans HW7.out.size hl8
  clear hM8 hN1 hN2 hN3 hN4 u1 u2 u3 u4 ho8 hl8 hs3 HM7 HW7 H17 HS2 hmx r7 HU
  go_wp2_with fail
  go_ret
  exact ⟨mb, b, s2, s3, rfl, HN4.out, H19.out, HS2'.out, HS3.out, HW9.out, Nat.le_of_eq HBB.out, HL2.out.1, HL3.out⟩
end Go.Proofs.YtphofhicehncgaaGreat

namespace Go.Proofs.YtphofhicehncgaaGreat
open Go.RowKit

/-- An entry as plain data. -/
structure En where
  key : ByteArray
  page : Int
  slot : Int
theorem En.ext' {a b : En} (h1 : a.key = b.key) (h2 : a.page = b.page) (h3 : a.slot = b.slot) : a = b := by
  cases a; cases b; simp_all
instance : DecidableEq En := fun a b => if h : a.key = b.key ∧ a.page = b.page ∧ a.slot = b.slot then isTrue (En.ext' h.1 h.2.1 h.2.2) else isFalse (fun e => h (by subst e; exact ⟨rfl, rfl, rfl⟩))
/-- The least. -/
def noE : En := ⟨⟨#[]⟩, 0, 0⟩
def En.ok (e : En) : Bool := decide (1 ≤ e.key.size ∧ e.key.size ≤ 24 ∧ 0 ≤ e.page ∧ e.page ≤ 65535 ∧ 0 ≤ e.slot ∧ e.slot ≤ 65535)
theorem En.ok_iff {e : En} : e.ok = true ↔ (1 ≤ e.key.size ∧ e.key.size ≤ 24 ∧ 0 ≤ e.page ∧ e.page ≤ 65535 ∧ 0 ≤ e.slot ∧ e.slot ≤ 65535) := by unfold En.ok; simp
theorem noE_ok : noE.ok = false := by decide
theorem En.ok_ne {e : En} (h : e.ok = true) : e ≠ noE := by
  intro x
  rw [x, noE_ok] at h
  exact Bool.noConfusion h
/-- A child. -/
def okC (c : Int) : Bool := decide (1 ≤ c ∧ c ≤ 65535)
theorem okC_iff {c : Int} : okC c = true ↔ 1 ≤ c ∧ c ≤ 65535 := by unfold okC; simp
/-- What may separate. -/
def En.sp (e : En) : Bool := decide (e = noE) || e.ok
theorem En.sp_iff {e : En} : e.sp = true ↔ e = noE ∨ e.ok = true := by unfold En.sp; simp
/-- The order. -/
def En.lt (a b : En) : Prop := if a.key = b.key then (if a.page = b.page then a.slot < b.slot else a.page < b.page) else bl a.key < bl b.key
instance (a b : En) : Decidable (a.lt b) := by unfold En.lt; infer_instance
theorem bl_injN {s t : ByteArray} (h : bl s = bl t) : s = t := by rw [← str_bl s, h, str_bl]
theorem bls_total {a b : List UInt8} (h : a ≠ b) : a < b ∨ b < a := by
  induction a generalizing b with
  | nil =>
    cases b with
    | nil => exact absurd rfl h
    | cons y b => exact .inl (List.nil_lt_cons _ _)
  | cons x a ih =>
    cases b with
    | nil => exact .inr (List.nil_lt_cons _ _)
    | cons y b =>
      rw [List.cons_lt_cons_iff, List.cons_lt_cons_iff]
      by_cases e : x = y
      · subst e
        rcases ih (b := b) (fun e => h (by rw [e])) with k | k
        · exact .inl (.inr ⟨rfl, k⟩)
        · exact .inr (.inr ⟨rfl, k⟩)
      · have : x.toNat ≠ y.toNat := fun k => e (UInt8.toNat_inj.1 k)
        rcases Nat.lt_or_gt_of_ne this with k | k
        · exact .inl (.inl (UInt8.lt_iff_toNat_lt.2 k))
        · exact .inr (.inl (UInt8.lt_iff_toNat_lt.2 k))
theorem En.lt_irrefl (a : En) : ¬ a.lt a := by unfold En.lt; simp
theorem En.lt_asymm {a b : En} (h : a.lt b) (k : b.lt a) : False := by
  unfold En.lt at h k
  by_cases e : a.key = b.key
  · rw [if_pos e] at h
    rw [if_pos e.symm] at k
    by_cases f : a.page = b.page
    · rw [if_pos f] at h
      rw [if_pos f.symm] at k
      omega
    · rw [if_neg f] at h
      rw [if_neg (fun x => f x.symm)] at k
      omega
  · rw [if_neg e] at h
    rw [if_neg (fun x => e x.symm)] at k
    exact List.lt_asymm h k
theorem En.lt_trans {a b c : En} (h : a.lt b) (k : b.lt c) : a.lt c := by
  unfold En.lt at h k ⊢
  by_cases e : a.key = b.key
  · rw [if_pos e] at h
    by_cases g : b.key = c.key
    · rw [if_pos g] at k
      rw [if_pos (e.trans g)]
      by_cases f : a.page = b.page
      · rw [if_pos f] at h
        rw [f]
        by_cases l : b.page = c.page
        · rw [if_pos l] at k ⊢
          omega
        · rw [if_neg l] at k ⊢
          exact k
      · rw [if_neg f] at h
        by_cases l : b.page = c.page
        · rw [if_pos l] at k
          rw [if_neg (by omega)]
          omega
        · rw [if_neg l] at k
          rw [if_neg (by omega)]
          omega
    · rw [if_neg g] at k
      rw [if_neg (by rw [e]; exact g), e]
      exact k
  · rw [if_neg e] at h
    by_cases g : b.key = c.key
    · rw [← g, if_neg e]
      exact h
    · rw [if_neg g] at k
      have l := List.lt_trans h k
      rw [if_neg (fun x => List.lt_irrefl (bl c.key) (by rw [x] at l; exact l))]
      exact l
theorem En.lt_total {a b : En} (h : a ≠ b) : a.lt b ∨ b.lt a := by
  unfold En.lt
  by_cases e : a.key = b.key
  · rw [if_pos e, if_pos e.symm]
    by_cases f : a.page = b.page
    · rw [if_pos f, if_pos f.symm]
      have : a.slot ≠ b.slot := fun g => h (En.ext' e f g)
      omega
    · rw [if_neg f, if_neg (fun x => f x.symm)]
      omega
  · rw [if_neg e, if_neg (fun x => e x.symm)]
    exact bls_total (fun x => e (bl_injN x))
theorem En.lt_ne {a b : En} (h : a.lt b) : a ≠ b := fun e => En.lt_irrefl a (by rw [← e] at h; exact h)
theorem noE_lt {e : En} (h : e.ok = true) : noE.lt e := by
  have h' := En.ok_iff.1 h
  unfold En.lt
  have hk : noE.key ≠ e.key := by
    intro x
    have : e.key.size = 0 := by rw [← x]; rfl
    omega
  rw [if_neg hk]
  have hl := bl_len e.key
  cases hb : bl e.key with
  | nil => rw [hb] at hl; simp at hl; omega
  | cons x l => exact List.nil_lt_cons _ _
theorem not_lt_noE {e : En} (h : e.sp = true) : ¬ e.lt noE := by
  rcases En.sp_iff.1 h with rfl | h
  · exact En.lt_irrefl _
  · exact fun k => En.lt_asymm k (noE_lt h)
/-- How two entries are ordered. -/
def cmpE (a b : En) : Int := if a = b then 0 else if a.lt b then -1 else 1
theorem cmpE_zero {a b : En} : cmpE a b = 0 ↔ a = b := by
  unfold cmpE
  by_cases h : a = b
  · simp [h]
  · rw [if_neg h]
    by_cases k : a.lt b
    · rw [if_pos k]; simp [h]
    · rw [if_neg k]; simp [h]
theorem cmpE_neg {a b : En} : cmpE a b < 0 ↔ a.lt b := by
  unfold cmpE
  by_cases h : a = b
  · subst h; simp [En.lt_irrefl]
  · rw [if_neg h]
    by_cases k : a.lt b
    · rw [if_pos k]; simp [k]
    · rw [if_neg k]; simp [k]
theorem cmpE_pos {a b : En} : 0 < cmpE a b ↔ b.lt a := by
  unfold cmpE
  by_cases h : a = b
  · subst h; simp [En.lt_irrefl]
  · rw [if_neg h]
    by_cases k : a.lt b
    · rw [if_pos k]
      simp only [Int.reduceNeg, Int.not_lt.2 (by decide : (-1 : Int) ≤ 0), false_iff]
      exact fun l => En.lt_asymm k l
    · rw [if_neg k]
      rcases En.lt_total h with l | l
      · exact absurd l k
      · simp [l]
theorem cmpE_vals (a b : En) : cmpE a b = 0 ∨ cmpE a b = -1 ∨ cmpE a b = 1 := by
  unfold cmpE
  split
  · exact .inl rfl
  · split
    · exact .inr (.inl rfl)
    · exact .inr (.inr rfl)
theorem cmpE_swap (a b : En) : cmpE a b = - cmpE b a := by
  unfold cmpE
  by_cases h : a = b
  · subst h; simp
  · have h' : ¬ b = a := fun x => h x.symm
    rw [if_neg h, if_neg h']
    by_cases k : a.lt b
    · have l : ¬ b.lt a := fun l => En.lt_asymm k l
      rw [if_pos k, if_neg l]
    · rcases En.lt_total h with l | l
      · exact absurd l k
      · rw [if_neg k, if_pos l]; rfl
/-- Beyond a high entry; ahead of it. -/
def byd (h e : En) : Bool := decide (h ≠ noE ∧ h.lt e)
def blw (h e : En) : Bool := decide (h = noE ∨ e.lt h)
theorem byd_no {h e : En} : byd h e = false ↔ (h = noE ∨ ¬ h.lt e) := by
  unfold byd
  simp only [decide_eq_false_iff_not, Classical.not_and_iff_not_or_not, Classical.not_not]
theorem byd_noE (e : En) : byd noE e = false := byd_no.2 (.inl rfl)

/-- An entry's bytes. -/
def En.lay (e : En) : List UInt8 := txL e.key ++ (sev e.page.toNat ++ sev e.slot.toNat)
def En.enc (e : En) : ByteArray := str e.lay
/-- A separator's bytes. -/
def En.layS (e : En) (c : Int) : List UInt8 := e.lay ++ sev c.toNat
def En.encS (e : En) (c : Int) : ByteArray := str (e.layS c)
theorem bl_enc (e : En) : bl e.enc = e.lay := rfl
theorem bl_encS (e : En) (c : Int) : bl (e.encS c) = e.layS c := rfl
/-- A number that is read of what is left, if nothing is wrong. -/
def rnS (s : List UInt8 × Int) (z : Int) : Int × List UInt8 × Int := if s.2 = 0 then rdN z s.1 else (0, s.1, s.2)
theorem rnS_zero {s : List UInt8 × Int} {z : Int} (h : s.2 = 0) : rnS s z = rdN z s.1 := by unfold rnS; rw [if_pos h]
theorem rnS_ok {s : List UInt8 × Int} {z : Int} (h : (rnS s z).2.2 = 0) : s.2 = 0 := by
  unfold rnS at h
  by_cases k : s.2 = 0
  · exact k
  · rw [if_neg k] at h; exact h
/-- What is taken of bytes as an entry: it, what is left, what is wrong. -/
def takeE (l : List UInt8) : En × List UInt8 × Int :=
  (⟨str (rdT 24 l).1, (rnS (rdT 24 l).2 65535).1, (rnS (rnS (rdT 24 l).2 65535).2 65535).1⟩, (rnS (rnS (rdT 24 l).2 65535).2 65535).2)
def takeS (l : List UInt8) : (En × Int) × List UInt8 × Int := (((takeE l).1, (rnS (takeE l).2 65535).1), (rnS (takeE l).2 65535).2)
/-- Small enough to be taken. -/
def En.few (e : En) : Prop := e.key.size ≤ 24 ∧ 0 ≤ e.page ∧ e.page ≤ 65535 ∧ 0 ≤ e.slot ∧ e.slot ≤ 65535
theorem En.few_ok {e : En} (h : e.ok = true) : e.few := (En.ok_iff.1 h).2
theorem En.few_sp {e : En} (h : e.sp = true) : e.few := by
  rcases En.sp_iff.1 h with rfl | h
  · exact ⟨by decide, by decide, by decide, by decide, by decide⟩
  · exact En.few_ok h
theorem takeE_lay {e : En} (h : e.few) (rest : List UInt8) : takeE (e.lay ++ rest) = (e, rest, 0) := by
  obtain ⟨h1, h2, h3, h4, h5⟩ := h
  have t1 : rdT 24 (e.lay ++ rest) = (bl e.key, sev e.page.toNat ++ (sev e.slot.toNat ++ rest), 0) := by
    unfold En.lay
    rw [List.append_assoc, List.append_assoc]
    exact rdT_upto 24 e.key _ (by omega) (by omega)
  have t2 : rdN 65535 (sev e.page.toNat ++ (sev e.slot.toNat ++ rest)) = (e.page, sev e.slot.toNat ++ rest, 0) := by
    rw [rdN_upto 65535 e.page.toNat _ (by omega) (by omega), Int.toNat_of_nonneg h2]
  have t3 : rdN 65535 (sev e.slot.toNat ++ rest) = (e.slot, rest, 0) := by
    rw [rdN_upto 65535 e.slot.toNat _ (by omega) (by omega), Int.toNat_of_nonneg h4]
  unfold takeE
  rw [t1, rnS_zero rfl]
  simp only []
  rw [t2, rnS_zero rfl]
  simp only []
  rw [t3]
  simp only [str_bl]
theorem takeE_canon {l : List UInt8} (h : (takeE l).2.2 = 0) : l = (takeE l).1.lay ++ (takeE l).2.1 := by
  have a3 : (rnS (rnS (rdT 24 l).2 65535).2 65535).2.2 = 0 := h
  have a2 := rnS_ok a3
  have a1 := rnS_ok a2
  have c1 := rdT_txL (z := 24) (l := l) a1
  have e2 := rnS_zero (z := 65535) a1
  have e3 := rnS_zero (z := 65535) a2
  have c2 := rdN_canon 65535 (rdT 24 l).2.1 (by rw [← e2]; exact a2)
  have c3 := rdN_canon 65535 (rnS (rdT 24 l).2 65535).2.1 (by rw [← e3]; exact a3)
  rw [← e2] at c2
  rw [← e3] at c3
  show l = (txL (str (rdT 24 l).1) ++ (sev (rnS (rdT 24 l).2 65535).1.toNat ++ sev (rnS (rnS (rdT 24 l).2 65535).2 65535).1.toNat)) ++ (rnS (rnS (rdT 24 l).2 65535).2 65535).2.1
  rw [List.append_assoc, List.append_assoc, ← c3, ← c2]
  exact c1
theorem takeS_lay {e : En} {c : Int} (h : e.few) (h0 : 0 ≤ c) (h1 : c ≤ 65535) (rest : List UInt8) : takeS (e.layS c ++ rest) = ((e, c), rest, 0) := by
  have t : rdN 65535 (sev c.toNat ++ rest) = (c, rest, 0) := by
    rw [rdN_upto 65535 c.toNat _ (by omega) (by omega), Int.toNat_of_nonneg h0]
  unfold takeS En.layS
  rw [List.append_assoc, takeE_lay h, rnS_zero rfl]
  simp only []
  rw [t]
theorem takeS_canon {l : List UInt8} (h : (takeS l).2.2 = 0) : l = (takeS l).1.1.layS (takeS l).1.2 ++ (takeS l).2.1 := by
  have a2 : (rnS (takeE l).2 65535).2.2 = 0 := h
  have a1 := rnS_ok a2
  have e2 := rnS_zero (z := 65535) a1
  have c1 := takeE_canon a1
  have c2 := rdN_canon 65535 (takeE l).2.1 (by rw [← e2]; exact a2)
  rw [← e2] at c2
  show l = ((takeE l).1.lay ++ sev (rnS (takeE l).2 65535).1.toNat) ++ (rnS (takeE l).2 65535).2.1
  rw [List.append_assoc, ← c2]
  exact c1
/-- The entry, the separator of bytes. -/
def decE (l : List UInt8) : Option En := if endE (takeE l).2.1 (takeE l).2.2 = 0 ∧ (takeE l).1.ok = true then some (takeE l).1 else none
def decS (l : List UInt8) : Option (En × Int) := if endE (takeS l).2.1 (takeS l).2.2 = 0 ∧ (takeS l).1.1.sp = true ∧ okC (takeS l).1.2 = true then some (takeS l).1 else none
theorem decE_lay {e : En} (h : e.ok = true) : decE e.lay = some e := by
  have t := takeE_lay (En.few_ok h) []
  rw [List.append_nil] at t
  unfold decE
  rw [t, if_pos ⟨rfl, h⟩]
theorem decE_some {l : List UInt8} {e : En} (h : decE l = some e) : e.ok = true ∧ l = e.lay := by
  unfold decE at h
  split at h
  · rename_i k
    obtain ⟨k1, k2⟩ := k
    cases h
    refine ⟨k2, ?_⟩
    obtain ⟨x0, ln⟩ := endE_zero k1
    have c := takeE_canon x0
    rw [ln, List.append_nil] at c
    exact c
  · cases h
theorem decS_lay {e : En} {c : Int} (h : e.sp = true) (hc : okC c = true) : decS (e.layS c) = some (e, c) := by
  have hc' := okC_iff.1 hc
  have t := takeS_lay (En.few_sp h) (by omega) hc'.2 []
  rw [List.append_nil] at t
  unfold decS
  rw [t, if_pos ⟨rfl, h, hc⟩]
theorem decS_some {l : List UInt8} {e : En} {c : Int} (h : decS l = some (e, c)) : e.sp = true ∧ okC c = true ∧ l = e.layS c := by
  unfold decS at h
  split at h
  · rename_i k
    obtain ⟨k1, k2, k3⟩ := k
    have hp : (takeS l).1 = (e, c) := by simpa using h
    obtain ⟨x0, ln⟩ := endE_zero k1
    have cn := takeS_canon x0
    rw [ln, List.append_nil, hp] at cn
    rw [hp] at k2 k3
    exact ⟨k2, k3, cn⟩
  · cases h
theorem lay_inj {a b : En} (ha : a.ok = true) (hb : b.ok = true) (h : a.lay = b.lay) : a = b := by
  have x := decE_lay ha
  rw [h, decE_lay hb] at x
  exact (Option.some.inj x).symm
theorem sev_le (n : Nat) : (sev n).length ≤ 10 := sevF_len 9 n
theorem lay_len {e : En} (h : e.key.size ≤ 24) : e.lay.length ≤ 45 := by
  unfold En.lay
  have h1 := txL_len e.key (by omega)
  have h2 := sev_le e.page.toNat
  have h3 := sev_le e.slot.toNat
  simp only [List.length_append]
  omega
theorem layS_len {e : En} (c : Int) (h : e.key.size ≤ 24) : (e.layS c).length ≤ 55 := by
  unfold En.layS
  have h1 := lay_len h
  have h2 := sev_le c.toNat
  simp only [List.length_append]
  omega

/-- The entries that items are, each behind the one ahead, none beyond hi. -/
def rdL (hi : En) : En → List ByteArray → Option (List En)
  | _, [] => some []
  | last, s :: l => match decE (bl s) with
    | none => none
    | some e => if last.lt e ∧ byd hi e = false then (rdL hi e l).map (fun es => e :: es) else none
/-- Strictly rising. -/
def Rise (es : List En) : Prop := es.Pairwise En.lt
/-- Items are these entries. -/
structure LfIs (hi : En) (l : List ByteArray) (es : List En) : Prop where
  items : l = es.map En.enc
  rise : Rise es
  ok : ∀ e ∈ es, e.ok = true
  in_ : ∀ e ∈ es, byd hi e = false
theorem rdL_some {hi : En} {l : List ByteArray} {last : En} {es : List En} (h : rdL hi last l = some es) : LfIs hi l es ∧ ∀ e ∈ es, last.lt e := by
  induction l generalizing last es with
  | nil =>
    cases h
    exact ⟨⟨rfl, List.Pairwise.nil, (fun _ h => by cases h), (fun _ h => by cases h)⟩, fun _ h => by cases h⟩
  | cons s l ih =>
    unfold rdL at h
    cases hd : decE (bl s) with
    | none => rw [hd] at h; cases h
    | some e =>
      rw [hd] at h
      simp only [] at h
      split at h
      · rename_i hc
        cases hr : rdL hi e l with
        | none => rw [hr] at h; cases h
        | some fs =>
          rw [hr] at h
          cases h
          obtain ⟨k1, k2⟩ := ih hr
          obtain ⟨o1, o2⟩ := decE_some hd
          refine ⟨⟨?_, List.pairwise_cons.2 ⟨k2, k1.rise⟩, ?_, ?_⟩, ?_⟩
          · rw [List.map_cons, ← k1.items, show s = e.enc by unfold En.enc; rw [← o2, str_bl]]
          · intro x hx
            rcases List.mem_cons.1 hx with rfl | hx
            · exact o1
            · exact k1.ok x hx
          · intro x hx
            rcases List.mem_cons.1 hx with rfl | hx
            · exact hc.2
            · exact k1.in_ x hx
          · intro x hx
            rcases List.mem_cons.1 hx with rfl | hx
            · exact hc.1
            · exact En.lt_trans hc.1 (k2 x hx)
      · cases h
theorem rdL_of {hi : En} {l : List ByteArray} {last : En} {es : List En} (h : LfIs hi l es) (hl : ∀ e ∈ es, last.lt e) : rdL hi last l = some es := by
  obtain ⟨rfl, h2, h3, h4⟩ := h
  induction es generalizing last with
  | nil => rfl
  | cons e es ih =>
    obtain ⟨p1, p2⟩ := List.pairwise_cons.1 h2
    rw [List.map_cons]
    unfold rdL
    rw [bl_enc, decE_lay (h3 e (List.mem_cons_self ..))]
    simp only []
    rw [if_pos ⟨hl e (List.mem_cons_self ..), h4 e (List.mem_cons_self ..)⟩, ih p1 p2 (fun x hx => h3 x (List.mem_cons_of_mem _ hx)) (fun x hx => h4 x (List.mem_cons_of_mem _ hx))]
    rfl
theorem rdL_leaf {hi : En} {l : List ByteArray} {es : List En} (h : LfIs hi l es) : rdL hi noE l = some es := rdL_of h (fun e he => noE_lt (h.ok e he))
/-- The separators that items are: the first one the least, each other behind the one ahead. -/
def okI (hi : En) : Option En → En → Bool
  | none, e => decide (e = noE)
  | some x, e => decide (x.lt e) && blw hi e
def rdI (hi : En) : Option En → List ByteArray → Option (List (En × Int))
  | _, [] => some []
  | last, s :: l => match decS (bl s) with
    | none => none
    | some k => if okI hi last k.1 = true then (rdI hi (some k.1) l).map (fun ks => k :: ks) else none
structure InIs (hi : En) (l : List ByteArray) (ks : List (En × Int)) : Prop where
  items : l = ks.map (fun k => k.1.encS k.2)
  rise : Rise (ks.map Prod.fst)
  first : ∃ c r, ks = (noE, c) :: r
  ok : ∀ k ∈ ks.tail, k.1.ok = true ∧ blw hi k.1 = true
  kid : ∀ k ∈ ks, okC k.2 = true
theorem rdI_of {hi x : En} {ks : List (En × Int)} (h1 : Rise (ks.map Prod.fst)) (h2 : ∀ k ∈ ks, k.1.ok = true ∧ blw hi k.1 = true) (h3 : ∀ k ∈ ks, okC k.2 = true) (h4 : ∀ k ∈ ks, x.lt k.1) : rdI hi (some x) (ks.map (fun k => k.1.encS k.2)) = some ks := by
  induction ks generalizing x with
  | nil => rfl
  | cons k ks ih =>
    obtain ⟨p1, p2⟩ := List.pairwise_cons.1 h1
    obtain ⟨o1, o2⟩ := h2 k (List.mem_cons_self ..)
    rw [List.map_cons]
    unfold rdI
    rw [bl_encS, decS_lay (En.sp_iff.2 (.inr o1)) (h3 k (List.mem_cons_self ..))]
    simp only []
    rw [if_pos (by unfold okI; simp only [Bool.and_eq_true, decide_eq_true_eq]; exact ⟨h4 k (List.mem_cons_self ..), o2⟩), ih p2 (fun y hy => h2 y (List.mem_cons_of_mem _ hy)) (fun y hy => h3 y (List.mem_cons_of_mem _ hy)) (fun y hy => p1 _ (List.mem_map_of_mem hy))]
    rfl
theorem rdI_inner {hi : En} {l : List ByteArray} {ks : List (En × Int)} (h : InIs hi l ks) : rdI hi none l = some ks := by
  obtain ⟨rfl, h2, ⟨c, r, rfl⟩, h4, h5⟩ := h
  obtain ⟨p1, p2⟩ := List.pairwise_cons.1 h2
  rw [List.map_cons]
  unfold rdI
  rw [bl_encS, decS_lay (En.sp_iff.2 (.inl rfl)) (h5 _ (List.mem_cons_self ..))]
  simp only []
  rw [if_pos (by unfold okI; simp), rdI_of p2 h4 (fun y hy => h5 y (List.mem_cons_of_mem _ hy)) (fun y hy => p1 _ (List.mem_map_of_mem hy))]
  rfl
/-- How many are ahead of one. -/
def plE (es : List En) (e : En) : Nat := es.countP (fun x => decide (x.lt e))
theorem plE_le (es : List En) (e : En) : plE es e ≤ es.length := List.countP_le_length
theorem plE_of {es : List En} {e : En} {c : Nat} (hc : c ≤ es.length) (h1 : ∀ x ∈ es.take c, x.lt e) (h2 : ∀ x ∈ es.drop c, ¬ x.lt e) : plE es e = c := by
  unfold plE
  rw [← List.take_append_drop c es, List.countP_append, List.countP_eq_length.2 (fun x hx => by simpa using h1 x hx), List.countP_eq_zero.2 (fun x hx => by simpa using h2 x hx), List.length_take]
  omega
theorem plE_spec {es : List En} (h : Rise es) (e : En) : (∀ x ∈ es.take (plE es e), x.lt e) ∧ (∀ x ∈ es.drop (plE es e), ¬ x.lt e) := by
  induction es with
  | nil => simp
  | cons y es ih =>
    obtain ⟨p1, p2⟩ := List.pairwise_cons.1 h
    by_cases k : y.lt e
    · have hp : plE (y :: es) e = plE es e + 1 := by unfold plE; rw [List.countP_cons_of_pos (by simpa using k)]
      rw [hp, List.take_succ_cons, List.drop_succ_cons]
      refine ⟨?_, (ih p2).2⟩
      intro x hx
      rcases List.mem_cons.1 hx with rfl | hx
      · exact k
      · exact (ih p2).1 x hx
    · have hp : plE (y :: es) e = 0 := by
        refine plE_of (Nat.zero_le _) (fun _ h => by simp at h) ?_
        intro x hx
        rcases List.mem_cons.1 (by simpa using hx) with rfl | hx
        · exact k
        · exact fun l => k (En.lt_trans (p1 x hx) l)
      rw [hp]
      refine ⟨(fun _ h => by simp at h), ?_⟩
      intro x hx
      rcases List.mem_cons.1 (by simpa using hx) with rfl | hx
      · exact k
      · exact fun l => k (En.lt_trans (p1 x hx) l)
/-- One more entry, in its place. -/
def insE (es : List En) (e : En) : List En := es.take (plE es e) ++ e :: es.drop (plE es e)
theorem insE_rise {es : List En} {e : En} (h : Rise es) (hn : e ∉ es) : Rise (insE es e) := by
  obtain ⟨a, b⟩ := plE_spec h e
  have b' : ∀ x ∈ es.drop (plE es e), e.lt x := by
    intro x hx
    rcases En.lt_total (a := e) (b := x) (fun y => hn (by rw [y]; exact List.mem_of_mem_drop hx)) with k | k
    · exact k
    · exact absurd k (b x hx)
  unfold insE Rise
  rw [List.pairwise_append]
  refine ⟨h.sublist (List.take_sublist _ _), List.pairwise_cons.2 ⟨b', h.sublist (List.drop_sublist _ _)⟩, ?_⟩
  intro x hx y hy
  rcases List.mem_cons.1 hy with rfl | hy
  · exact a x hx
  · exact En.lt_trans (a x hx) (b' y hy)
theorem insE_mem {es : List En} {e x : En} : x ∈ insE es e ↔ x = e ∨ x ∈ es := by
  unfold insE
  rw [List.mem_append, List.mem_cons]
  have : x ∈ es ↔ x ∈ es.take (plE es e) ∨ x ∈ es.drop (plE es e) := by rw [← List.mem_append, List.take_append_drop]
  rw [this]
  constructor
  · rintro (h | h | h)
    · exact .inr (.inl h)
    · exact .inl h
    · exact .inr (.inr h)
  · rintro (h | h | h)
    · exact .inr (.inl h)
    · exact .inl h
    · exact .inr (.inr h)
theorem LfIs.ins {hi : En} {l : List ByteArray} {es : List En} {e : En} (h : LfIs hi l es) (ho : e.ok = true) (hb : byd hi e = false) (hn : e ∉ es) : LfIs hi (l.take (plE es e) ++ e.enc :: l.drop (plE es e)) (insE es e) := by
  refine ⟨?_, insE_rise h.rise hn, ?_, ?_⟩
  · rw [h.items]; unfold insE; simp
  · intro x hx
    rcases insE_mem.1 hx with rfl | hx
    · exact ho
    · exact h.ok x hx
  · intro x hx
    rcases insE_mem.1 hx with rfl | hx
    · exact hb
    · exact h.in_ x hx
end Go.Proofs.YtphofhicehncgaaGreat
