/- What Put does to a page without items. -/
import Derived.Test.YthjjkhacniebiaaGreatK13
import Derived.Deep.RegionWith
import Derived.Deep.DeepCutAuto
namespace Go.Proofs.YthjjkhacniebiaaGreat
open Go.RowKit

/-- A page and a code that a call returned, in memory of its own. -/
def Res (w w' : World) (e : Ending) (p : Pg) (c : Int) : Prop := ∃ B ao cp, e = .returned (.tuple #[.agg #[.int .i64 p.lsn, .int .i64 p.kind, .int .i64 p.level, .int .i64 p.right, .string p.high, .slice ao p.items.length cp], .int .i64 c]) ∧
  Strs w' B ao p.items ∧ Fit ao p.items.length cp ∧ Only (fun _ => False) w w' ∧ (0 < p.items.length → w.heap.size ≤ B)
theorem Res.none {w w' : World} (c : Int) (ho : Only (fun _ => False) w w') : Res w w' (.returned (.tuple #[.agg #[.int .i64 0, .int .i64 0, .int .i64 0, .int .i64 0, .string ⟨#[]⟩, .slice none 0 0], .int .i64 c])) .none c :=
  ⟨0, Option.none, 0, rfl, Strs.nil _ _ _, ⟨fun _ => rfl, by simp [Pg.none], by simp⟩, ho, fun h => absurd h (by simp [Pg.none])⟩
/-- Refused as too long, or the page. -/
def Or3 (w w' : World) (e : Ending) (c : Prop) (p : Pg) : Prop := (c → Res w w' e .none 3) ∧ (¬ c → Res w w' e p 0)
theorem Or3.yes {w w' : World} {e : Ending} {c : Prop} {p : Pg} (hc : c) (h : Res w w' e .none 3) : Or3 w w' e c p := ⟨fun _ => h, fun n => absurd hc n⟩
theorem Or3.no {w w' : World} {e : Ending} {c : Prop} {p : Pg} (hc : ¬ c) (h : Res w w' e p 0) : Or3 w w' e c p := ⟨fun n => absurd n hc, fun _ => h⟩
/-- The parts of a list at a place, as slices. -/
theorem Strs.take {w : World} {B : Nat} {ao : Option Addr} {l : List ByteArray} (h : Strs w B ao l) (k : Nat) : Strs w B ao (l.take k) :=
  ⟨fun h0 => by
    have hl : 0 < l.length := by simp only [List.length_take] at h0; omega
    obtain ⟨o, e, hc⟩ := h.at_ hl
    exact ⟨o, e, fun j hj => by rw [List.getElem_take]; exact hc j (by simp only [List.length_take] at hj; omega)⟩, fun h0 => h.lt (by simp only [List.length_take] at h0; omega), by have := h.len; simp only [List.length_take]; omega, fun s hs => h.size s (List.mem_of_mem_take hs)⟩
theorem Strs.drop {w : World} {B b o : Nat} {l : List ByteArray} (h : Strs w B (some ⟨b, o, Option.none⟩) l) (k : Nat) (ao : Option Addr) (ha : k < l.length → ao = some ⟨b, o + k, Option.none⟩) : Strs w B ao (l.drop k) :=
  ⟨fun h0 => by
    have hl : k < l.length := by simp only [List.length_drop] at h0; omega
    obtain ⟨o', e, hc⟩ := h.at_ (by omega)
    cases e
    exact ⟨o + k, ha hl, fun j hj => by rw [List.getElem_drop, Nat.add_assoc]; exact hc (k + j) (by simp only [List.length_drop] at hj; omega)⟩, fun h0 => h.lt (by simp only [List.length_drop] at h0; omega), by have := h.len; simp only [List.length_drop]; omega, fun s hs => h.size s (List.mem_of_mem_drop hs)⟩

theorem Pag.set5 {w : World} {b : Nat} {v0 v1 v2 v3 v4 v5 : Value} (h : Pag w b v0 v1 v2 v3 v4 v5) (x : Value) : Pag (w.setCell ⟨b, 5, none⟩ x) b v0 v1 v2 v3 v4 x := by
  have oth : ∀ (j : Nat) (y : Value), 5 ≠ j → w.cell? ⟨b, j, none⟩ = some y → (w.setCell ⟨b, 5, none⟩ x).cell? ⟨b, j, none⟩ = some y := fun j y hij hx => (World.cell?_setCell_other _ _ _ _ (by intro e; injection e with _ e2; exact hij e2)).trans hx
  exact ⟨oth 0 _ (by omega) h.c0, oth 1 _ (by omega) h.c1, oth 2 _ (by omega) h.c2, oth 3 _ (by omega) h.c3, oth 4 _ (by omega) h.c4, World.cell?_setCell_same _ _ _ h.c5, by simpa using h.f0, by simpa using h.f1, by simpa using h.f2, by simpa using h.f3, by simpa using h.f4, by simpa using h.f5, by simpa using h.lt⟩
theorem Strs.one (w : World) (s : ByteArray) (hs : s.size ≤ 140737488355328) : Strs (w.alloc (.cells #[.string s] 9)) w.heap.size (some ⟨w.heap.size, 0, none⟩) [s] :=
  ⟨fun _ => ⟨0, rfl, fun j hj => by
    have : j = 0 := by simp at hj; omega
    subst this
    simp⟩, fun _ => by simp, by simp, fun t ht => by simp at ht; rw [ht]; exact hs⟩
/-- Three lists that lie one behind the other in block b, put together. -/
theorem cat3 (W : World) (b : Nat) (A0 A1 A2 : Option Addr) (C0 C1 C2 B0 B1 B2 n0 n1 n2 : Nat) (l0 l1 l2 : List ByteArray) (e0 : n0 = l0.length) (e1 : n1 = l1.length) (e2 : n2 = l2.length)
    (c0 : W.cell? ⟨b, 0, none⟩ = some (.slice A0 n0 C0)) (c1 : W.cell? ⟨b, 1, none⟩ = some (.slice A1 n1 C1)) (c2 : W.cell? ⟨b, 2, none⟩ = some (.slice A2 n2 C2))
    (h0 : Strs W B0 A0 l0) (h1 : Strs W B1 A1 l1) (h2 : Strs W B2 A2 l2) (f0 : Fit A0 n0 C0) (f1 : Fit A1 n1 C1) (f2 : Fit A2 n2 C2) (hb : b < W.heap.size) (hroom : n0 + n1 + n2 ≤ 8796093022208) :
    Calls Tryz.prog 124 #[.slice (some ⟨b, 0, none⟩) 3 3] W fun e w' => ∃ v, e = .returned v ∧ Ls w' W.heap.size v (l0 ++ l1 ++ l2) ∧ Only (fun _ => False) W w' := by
  subst e0
  subst e1
  subst e2
  have h := concat_any W b 3 3 (fun j => match j with | 0 => A0 | 1 => A1 | _ => A2) (fun j => match j with | 0 => C0 | 1 => C1 | _ => C2) (fun j => match j with | 0 => B0 | 1 => B1 | _ => B2) (fun j => match j with | 0 => l0 | 1 => l1 | _ => l2)
    (fun j hj => match j, hj with | 0, _ => c0 | 1, _ => c1 | 2, _ => c2) (fun j hj => match j, hj with | 0, _ => h0 | 1, _ => h1 | 2, _ => h2) (fun j hj => match j, hj with | 0, _ => f0 | 1, _ => f1 | 2, _ => f2) (by omega) hb (by simp [catTo]; omega)
  simpa [catTo] using h
theorem cat2 (W : World) (b : Nat) (A0 A1 : Option Addr) (C0 C1 B0 B1 n0 n1 : Nat) (l0 l1 : List ByteArray) (e0 : n0 = l0.length) (e1 : n1 = l1.length)
    (c0 : W.cell? ⟨b, 0, none⟩ = some (.slice A0 n0 C0)) (c1 : W.cell? ⟨b, 1, none⟩ = some (.slice A1 n1 C1))
    (h0 : Strs W B0 A0 l0) (h1 : Strs W B1 A1 l1) (f0 : Fit A0 n0 C0) (f1 : Fit A1 n1 C1) (hb : b < W.heap.size) (hroom : n0 + n1 ≤ 8796093022208) :
    Calls Tryz.prog 124 #[.slice (some ⟨b, 0, none⟩) 2 2] W fun e w' => ∃ v, e = .returned v ∧ Ls w' W.heap.size v (l0 ++ l1) ∧ Only (fun _ => False) W w' := by
  subst e0
  subst e1
  have h := concat_any W b 2 2 (fun j => match j with | 0 => A0 | _ => A1) (fun j => match j with | 0 => C0 | _ => C1) (fun j => match j with | 0 => B0 | _ => B1) (fun j => match j with | 0 => l0 | _ => l1)
    (fun j hj => match j, hj with | 0, _ => c0 | 1, _ => c1) (fun j hj => match j, hj with | 0, _ => h0 | 1, _ => h1) (fun j hj => match j, hj with | 0, _ => f0 | 1, _ => f1) (by omega) hb (by simp [catTo]; omega)
  simpa [catTo] using h
/-- The two boxes that With, Put and Out lay: the page, and the answer. -/
def boxes (w : World) (a k v r : Int) (h : ByteArray) (sl : Value) : World := (w.alloc (.cells #[.int .i64 a, .int .i64 k, .int .i64 v, .int .i64 r, .string h, sl] 24)).alloc (.cells #[.int .i64 0, .int .i64 0, .int .i64 0, .int .i64 0, .string ⟨#[]⟩, .slice none 0 0] 24)
theorem boxes_only (w : World) (a k v r : Int) (h : ByteArray) (sl : Value) : Only (fun _ => False) w (boxes w a k v r h sl) := o2 (onlyA _ _) (onlyA _ _)
theorem boxes_size (w : World) (a k v r : Int) (h : ByteArray) (sl : Value) : (boxes w a k v r h sl).heap.size = w.heap.size + 1 + 1 := by simp [boxes]
theorem boxes_one (w : World) (a k v r : Int) (h : ByteArray) (sl : Value) : Pag (boxes w a k v r h sl) w.heap.size (.int .i64 a) (.int .i64 k) (.int .i64 v) (.int .i64 r) (.string h) sl := (Pag.new w _ _ _ _ _ _).more (onlyA _ _)
theorem boxes_two (w : World) (a k v r : Int) (h : ByteArray) (sl : Value) : Pag (boxes w a k v r h sl) (w.heap.size + 1) (.int .i64 0) (.int .i64 0) (.int .i64 0) (.int .i64 0) (.string ⟨#[]⟩) (.slice none 0 0) := by
  have h1 := Pag.new (w.alloc (.cells #[.int .i64 a, .int .i64 k, .int .i64 v, .int .i64 r, .string h, sl] 24)) (.int .i64 0) (.int .i64 0) (.int .i64 0) (.int .i64 0) (.string ⟨#[]⟩) (.slice none 0 0)
  have e : (w.alloc (.cells #[.int .i64 a, .int .i64 k, .int .i64 v, .int .i64 r, .string h, sl] 24)).heap.size = w.heap.size + 1 := by simp
  rw [e] at h1
  exact h1

/-- Behind the laying of a new list: the two boxes, and the list nl, new. -/
structure Aft (w w5 : World) (a k v r : Int) (h : ByteArray) (sl : Value) (B5 : Nat) (ao5 : Option Addr) (cp5 : Nat) (nl : List ByteArray) : Prop where
  one : Pag w5 w.heap.size (.int .i64 a) (.int .i64 k) (.int .i64 v) (.int .i64 r) (.string h) sl
  two : Pag w5 (w.heap.size + 1) (.int .i64 0) (.int .i64 0) (.int .i64 0) (.int .i64 0) (.string ⟨#[]⟩) (.slice none 0 0)
  strs : Strs w5 B5 ao5 nl
  fit : Fit ao5 nl.length cp5
  only : Only (fun _ => False) w w5
  new : 0 < nl.length → w.heap.size + 1 < B5
theorem Aft.store {w w5 : World} {a k v r : Int} {h : ByteArray} {sl : Value} {B5 : Nat} {ao5 : Option Addr} {cp5 : Nat} {nl : List ByteArray} (H : Aft w w5 a k v r h sl B5 ao5 cp5 nl) (x : Value) : Aft w (w5.setCell ⟨w.heap.size, 5, none⟩ x) a k v r h x B5 ao5 cp5 nl := by
  have ho : Only (fun k => k = w.heap.size) w5 (w5.setCell ⟨w.heap.size, 5, none⟩ x) := Only.setCell w5 ⟨w.heap.size, 5, none⟩ x rfl
  exact ⟨H.one.set5 x, H.two.kept ho (by omega), H.strs.kept ho (fun h => by have := H.new h; omega), H.fit, H.only.trans ho (fun i hi e => by omega), H.new⟩
theorem Aft.more {w w5 w6 : World} {a k v r : Int} {h : ByteArray} {sl : Value} {B5 : Nat} {ao5 : Option Addr} {cp5 : Nat} {nl : List ByteArray} (H : Aft w w5 a k v r h sl B5 ao5 cp5 nl) (ho : Only (fun _ => False) w5 w6) : Aft w w6 a k v r h sl B5 ao5 cp5 nl :=
  ⟨H.one.more ho, H.two.more ho, H.strs.more ho, H.fit, o2 H.only ho, H.new⟩
theorem Aft.setItem {w w5 : World} {a k v r : Int} {h : ByteArray} {sl : Value} {g cap base : Nat} {l : List ByteArray} (H : Aft w w5 a k v r h sl g (some ⟨g, 0, none⟩) cap l) (hL : Ls w5 base (.slice (some ⟨g, 0, none⟩) l.length cap) l) (i : Nat) (it : ByteArray) (hit : it.size ≤ 140737488355328) (h0 : 0 < l.length) :
    Aft w (w5.setCell ⟨g, i, none⟩ (.string it)) a k v r h sl g (some ⟨g, 0, none⟩) cap (l.set i it) := by
  have hs := (World.ownsRow.stored hL i (.string it)).1
  have e : (scells l).set i (.string it) = scells (l.set i it) := by unfold scells; rw [List.map_set]
  rw [e] at hs
  have hL2 : Ls (w5.setCell ⟨g, i, none⟩ (.string it)) base (.slice (some ⟨g, 0, none⟩) l.length cap) (l.set i it) := by unfold Ls; rw [List.length_set]; exact hs
  obtain ⟨B5, ao5, cp5, hv, hS5, hF5, hB5, hO5⟩ := hL2.strs (by rw [List.length_set]; exact H.strs.len) (fun s hs => by
    rcases List.mem_or_eq_of_mem_set hs with hs | rfl
    · exact H.strs.size s hs
    · exact hit)
  rcases hO5 with rfl | rfl
  · cases hv
  · simp at hv
    obtain ⟨rfl, rfl⟩ := hv
    have ho : Only (fun k => k = g) w5 (w5.setCell ⟨g, i, none⟩ (.string it)) := Only.setCell w5 ⟨g, i, none⟩ _ rfl
    have hn := H.new h0
    exact ⟨H.one.kept ho (by omega), H.two.kept ho (by omega), hS5, hF5, H.only.trans ho (fun i hi e => by omega), fun _ => hn⟩
/-- The answer is laid. -/
theorem Aft.res {w w5 : World} {a k v r : Int} {h : ByteArray} {sl : Value} {B5 : Nat} {ao5 : Option Addr} {cp5 : Nat} {nl : List ByteArray} (H : Aft w w5 a k v r h sl B5 ao5 cp5 nl) (v0 v1 v2 v3 v4 v5 : Value) (c : Int) (w6 : World)
    (hw : w6 = ((((((w5.setCell ⟨w.heap.size + 1, 0, none⟩ v0).setCell ⟨w.heap.size + 1, 1, none⟩ v1).setCell ⟨w.heap.size + 1, 2, none⟩ v2).setCell ⟨w.heap.size + 1, 3, none⟩ v3).setCell ⟨w.heap.size + 1, 4, none⟩ v4).setCell ⟨w.heap.size + 1, 5, none⟩ v5)) :
    Res w w6 (.returned (.tuple #[.agg #[.int .i64 a, .int .i64 k, .int .i64 v, .int .i64 r, .string h, .slice ao5 nl.length cp5], .int .i64 c])) ⟨a, k, v, r, h, nl⟩ c ∧ Only (fun _ => False) w w6 := by
  have ho := Only.six w5 (w.heap.size + 1) v0 v1 v2 v3 v4 v5
  rw [← hw] at ho
  have ho2 : Only (fun _ => False) w w6 := H.only.trans ho (fun i hi e => by omega)
  exact ⟨⟨B5, ao5, cp5, rfl, H.strs.kept ho (fun h => by have := H.new h; omega), H.fit, ho2, fun h => by have := H.new h; omega⟩, ho2⟩
theorem put_cat (w : World) (a k v r : Int) (h : ByteArray) (B b o cp : Nat) (l : List ByteArray) (i : Nat) (it : ByteArray) (hS : Strs w B (some ⟨b, o, none⟩) l) (hF : Fit (some ⟨b, o, none⟩) l.length cp) (hit : it.size ≤ 140737488355328) (hi : i ≤ l.length) (hlm : l.length ≤ 8796093021952) (A2 : Option Addr) (hA : i < l.length → A2 = some ⟨b, o + i, none⟩) (hA0 : A2 ≠ none) (W : World)
    (hW : Only (fun _ => False) (((boxes w a k v r h (.slice (some ⟨b, o, none⟩) l.length cp)).alloc (.cells #[.string it] 9)).alloc (.cells #[.slice (some ⟨b, o, none⟩) i cp, .slice (some ⟨w.heap.size + 1 + 1, 0, none⟩) 1 1, .slice A2 (l.length - i) (cp - i)] 22)) W) :
    Calls Tryz.prog 124 #[.slice (some ⟨w.heap.size + 1 + 1 + 1, 0, none⟩) 3 3] W fun e w' => ∃ B5 ao5 cp5, e = .returned (.slice ao5 (l.take i ++ it :: l.drop i).length cp5) ∧ w'.cell? ⟨w.heap.size, 5, none⟩ = some (.slice (some ⟨b, o, none⟩) l.length cp) ∧ w'.frozen? ⟨w.heap.size, 5, none⟩ = false ∧ Hid (Aft w w' a k v r h (.slice (some ⟨b, o, none⟩) l.length cp) B5 ao5 cp5 (l.take i ++ it :: l.drop i)) := by
  have hlen := hS.len
  have hB1 := boxes_one w a k v r h (.slice (some ⟨b, o, none⟩) l.length cp)
  have hB2 := boxes_two w a k v r h (.slice (some ⟨b, o, none⟩) l.length cp)
  have hcp := hF.le
  have hbig := hF.big
  obtain ⟨W0, hW0⟩ : ∃ W0, boxes w a k v r h (.slice (some ⟨b, o, none⟩) l.length cp) = W0 := ⟨_, rfl⟩
  have hz := boxes_size w a k v r h (.slice (some ⟨b, o, none⟩) l.length cp)
  have ho0 := boxes_only w a k v r h (.slice (some ⟨b, o, none⟩) l.length cp)
  rw [hW0] at hW hz ho0 hB1 hB2
  have hS0 := hS.more ho0
  have hS1 := Strs.one W0 it hit
  rw [hz] at hS1
  have hS2 := (hS0.more (o2 (onlyA _ _) (onlyA _ _))).more hW
  have hS3 := (hS1.more (onlyA _ _)).more hW
  have hlt : w.heap.size + 1 + 1 + 1 < ((W0.alloc (.cells #[.string it] 9)).alloc (.cells #[.slice (some ⟨b, o, none⟩) i cp, .slice (some ⟨w.heap.size + 1 + 1, 0, none⟩) 1 1, .slice A2 (l.length - i) (cp - i)] 22)).heap.size := by simp; omega
  have hz1 : (W0.alloc (.cells #[.string it] 9)).heap.size = w.heap.size + 1 + 1 + 1 := by simp; omega
  have hc : ∀ j (x : Value), #[Value.slice (some ⟨b, o, none⟩) i cp, .slice (some ⟨w.heap.size + 1 + 1, 0, none⟩) 1 1, .slice A2 (l.length - i) (cp - i)][j]? = some x → W.cell? ⟨w.heap.size + 1 + 1 + 1, j, none⟩ = some x := by
    intro j x hx
    rw [hW.cell (p := ⟨w.heap.size + 1 + 1 + 1, j, none⟩) hlt (fun h => h), ← hz1]
    simpa using hx
  have key := cat3 W (w.heap.size + 1 + 1 + 1) (some ⟨b, o, none⟩) (some ⟨w.heap.size + 1 + 1, 0, none⟩) A2 cp 1 (cp - i) B (w.heap.size + 1 + 1) B i 1 (l.length - i) (l.take i) [it] (l.drop i)
    (by simp; omega) rfl (by simp) (hc 0 _ rfl) (hc 1 _ rfl) (hc 2 _ rfl) (hS2.take i) hS3 (hS2.drop i _ hA)
    ⟨(fun h => by cases h), by omega, hbig⟩ ⟨(fun h => by cases h), by omega, (by unfold maxLen; omega)⟩ ⟨(fun h => absurd h hA0), by omega, by omega⟩ (Nat.lt_of_lt_of_le hlt hW.size) (by omega)
  have e3 : l.take i ++ [it] ++ l.drop i = l.take i ++ it :: l.drop i := by simp
  rw [e3] at key
  have hsz : ∀ s ∈ l.take i ++ it :: l.drop i, s.size ≤ 140737488355328 := by
    intro s hs
    rcases List.mem_append.1 hs with hs | hs
    · exact hS.size s (List.mem_of_mem_take hs)
    · rcases List.mem_cons.1 hs with rfl | hs
      · exact hit
      · exact hS.size s (List.mem_of_mem_drop hs)
  have hln : (l.take i ++ it :: l.drop i).length = l.length + 1 := by simp; omega
  refine Calls.mono key ?_
  rintro e w5 ⟨v5, rfl, hl5, ho5⟩
  obtain ⟨B5, ao5, cp5, rfl, hS5, hF5, hB5, _⟩ := hl5.strs (by omega) hsz
  have hoo := o2 (o2 (onlyA W0 (.cells #[.string it] 9)) (onlyA _ _)) (o2 hW ho5)
  have hP := hB1.more hoo
  have hWs := hW.size
  exact ⟨B5, ao5, cp5, rfl, hP.c5, hP.f5, ⟨hP, hB2.more hoo, hS5, hF5, o2 ho0 hoo, fun h => by have := hB5 h; omega⟩⟩

end Go.Proofs.YthjjkhacniebiaaGreat

namespace Go.Proofs.YthjjkhacniebiaaGreat
open Go.RowKit

set_option maxRecDepth 100000 in
set_option maxHeartbeats 1600000 in
theorem put_some (w : World) (a k v r : Int) (h : ByteArray) (B b o cp : Nat) (l : List ByteArray) (i : Nat) (it : ByteArray) (hS : Strs w B (some ⟨b, o, none⟩) l) (hF : Fit (some ⟨b, o, none⟩) l.length cp) (hh : h.size ≤ 140737488355328) (hit : it.size ≤ 140737488355328) (hi : i ≤ l.length) (hlm : l.length ≤ 8796093021952) :
    Calls Tryz.prog 99 #[.agg #[.int .i64 a, .int .i64 k, .int .i64 v, .int .i64 r, .string h, .slice (some ⟨b, o, none⟩) l.length cp], .int .i64 (i : Int), .string it] w fun e w' =>
      Or3 w w' e (255 < (l.take i ++ it :: l.drop i).length ∨ 512 < 20 + h.size + isz (l.take i ++ it :: l.drop i)) ⟨a, k, v, r, h, l.take i ++ it :: l.drop i⟩ := by
  have hcp := hF.le
  have hbig := hF.big
  unfold maxLen at hbig
  obtain ⟨A2, hA2⟩ : ∃ A2, (if cp = i then some (⟨b, o, none⟩ : Addr) else some ⟨b, o + i, none⟩) = A2 := ⟨_, rfl⟩
  have HCAT := hide (put_cat w a k v r h B b o cp l i it hS hF hit hi hlm A2 (fun hk => by rw [← hA2, if_neg (by omega)]) (by rw [← hA2]; split <;> simp))
  clear hS hF
  obtain ⟨nl, hnl⟩ : ∃ nl, l.take i ++ it :: l.drop i = nl := ⟨_, rfl⟩
  rw [hnl] at HCAT ⊢
  clear hnl
  have hi0 : (0 : Int) ≤ (i : Int) := by omega
  have hi1 : ¬ ((l.length : Int) < (i : Int)) := by omega
  go_enter Tryz.func99, Tryz.ntmps99
  go_upto_region 3 with fail
  go_cut [29] (fun t wc => ∃ B5 ao5 cp5, t = .slice ao5 nl.length cp5 ∧ Hid (Aft w wc a k v r h (.slice ao5 nl.length cp5) B5 ao5 cp5 nl))
  case first =>
    go_region_with (
      go_at_call 124
      refine (HCAT.out _ (Only.drew _ _)).mono ?_
      rintro e w5 ⟨B5, ao5, cp5, rfl, p5, g5, HA⟩)
    all_goals (go_wp2_with fail; go_meet; exact ⟨B5, ao5, cp5, rfl, hide (HA.out.store _)⟩)
  case rest =>
    obtain ⟨B5, ao5, cp5, rfl, HA⟩ := hcut
    obtain ⟨p0, p1, p2, p3, p4, p5, g0, g1, g2, g3, g4, g5, gl⟩ := HA.out.one
    go_wp2_with fail
    refine (fitting_any _ a k v r h B5 cp5 ao5 nl HA.out.strs hh).mono ?_
    rintro e w6 ⟨rfl, ho6⟩
    have HA6 := hide (HA.out.more ho6)
    obtain ⟨q0, q1, q2, q3, q4, q5, t0, t1, t2, t3, t4, t5, tl⟩ := HA6.out.two
    have HQ6 := hide HA6.out.two
    clear ho6 p0 p1 p2 p3 p4 p5 g0 g1 g2 g3 g4 g5 gl
    by_cases hc : 255 < nl.length ∨ 512 < 20 + h.size + isz nl
    · rw [if_pos hc]
      have HC := hide hc
      clear hc
      go_wp2_with fail
      refine bodyPost_ret (results_page rfl rfl (Pag.six HQ6.out _ _ _ _ _ _)) rfl ?_
      exact Or3.yes HC.out (Res.none 3 (HA6.out.res _ _ _ _ _ _ 0 _ rfl).2)
    · rw [if_neg hc]
      have HC := hide hc
      clear hc
      go_wp2_with fail
      refine bodyPost_ret (results_page rfl rfl (Pag.six HQ6.out _ _ _ _ _ _)) rfl ?_
      exact Or3.no HC.out (HA6.out.res _ _ _ _ _ _ 0 _ rfl).1
end Go.Proofs.YthjjkhacniebiaaGreat

namespace Go.Proofs.YthjjkhacniebiaaGreat
open Go.RowKit

theorem put_cat0 (w : World) (a k v r : Int) (h : ByteArray) (it : ByteArray) (hit : it.size ≤ 140737488355328) (W : World)
    (hW : Only (fun _ => False) (((boxes w a k v r h (.slice none 0 0)).alloc (.cells #[.string it] 9)).alloc (.cells #[.slice none 0 0, .slice (some ⟨w.heap.size + 1 + 1, 0, none⟩) 1 1, .slice none 0 0] 22)) W) :
    Calls Tryz.prog 124 #[.slice (some ⟨w.heap.size + 1 + 1 + 1, 0, none⟩) 3 3] W fun e w' => ∃ B5 ao5 cp5, e = .returned (.slice ao5 [it].length cp5) ∧ w'.cell? ⟨w.heap.size, 5, none⟩ = some (.slice none 0 0) ∧ w'.frozen? ⟨w.heap.size, 5, none⟩ = false ∧ Hid (Aft w w' a k v r h (.slice none 0 0) B5 ao5 cp5 [it]) := by
  have hB1 := boxes_one w a k v r h (.slice none 0 0)
  have hB2 := boxes_two w a k v r h (.slice none 0 0)
  obtain ⟨W0, hW0⟩ : ∃ W0, boxes w a k v r h (.slice none 0 0) = W0 := ⟨_, rfl⟩
  have hz := boxes_size w a k v r h (.slice none 0 0)
  have ho0 := boxes_only w a k v r h (.slice none 0 0)
  rw [hW0] at hW hz ho0 hB1 hB2
  have hS1 := Strs.one W0 it hit
  rw [hz] at hS1
  have hS3 := (hS1.more (onlyA _ _)).more hW
  have hlt : w.heap.size + 1 + 1 + 1 < ((W0.alloc (.cells #[.string it] 9)).alloc (.cells #[.slice none 0 0, .slice (some ⟨w.heap.size + 1 + 1, 0, none⟩) 1 1, .slice none 0 0] 22)).heap.size := by simp; omega
  have hz1 : (W0.alloc (.cells #[.string it] 9)).heap.size = w.heap.size + 1 + 1 + 1 := by simp; omega
  have hc : ∀ j (x : Value), #[Value.slice none 0 0, .slice (some ⟨w.heap.size + 1 + 1, 0, none⟩) 1 1, .slice none 0 0][j]? = some x → W.cell? ⟨w.heap.size + 1 + 1 + 1, j, none⟩ = some x := by
    intro j x hx
    rw [hW.cell (p := ⟨w.heap.size + 1 + 1 + 1, j, none⟩) hlt (fun h => h), ← hz1]
    simpa using hx
  have f0 : Fit none 0 0 := ⟨fun _ => rfl, Nat.le_refl _, (by unfold maxLen; omega)⟩
  have key := cat3 W (w.heap.size + 1 + 1 + 1) none (some ⟨w.heap.size + 1 + 1, 0, none⟩) none 0 1 0 0 (w.heap.size + 1 + 1) 0 0 1 0 [] [it] []
    rfl rfl rfl (hc 0 _ rfl) (hc 1 _ rfl) (hc 2 _ rfl) (Strs.nil _ _ _) hS3 (Strs.nil _ _ _) f0 ⟨(fun h => by cases h), by omega, (by unfold maxLen; omega)⟩ f0 (Nat.lt_of_lt_of_le hlt hW.size) (by omega)
  refine Calls.mono key ?_
  rintro e w5 ⟨v5, rfl, hl5, ho5⟩
  have e3 : ([] : List ByteArray) ++ [it] ++ [] = [it] := rfl
  rw [e3] at hl5
  obtain ⟨B5, ao5, cp5, rfl, hS5, hF5, hB5, _⟩ := hl5.strs (by simp) (fun s hs => by simp at hs; rw [hs]; exact hit)
  have hoo := o2 (o2 (onlyA W0 (.cells #[.string it] 9)) (onlyA _ _)) (o2 hW ho5)
  have hP := hB1.more hoo
  have hWs := hW.size
  exact ⟨B5, ao5, cp5, rfl, hP.c5, hP.f5, ⟨hP, hB2.more hoo, hS5, hF5, o2 ho0 hoo, fun h => by have := hB5 h; omega⟩⟩

set_option maxRecDepth 100000 in
set_option maxHeartbeats 1600000 in
theorem put_none (w : World) (a k v r : Int) (h : ByteArray) (it : ByteArray) (hh : h.size ≤ 140737488355328) (hit : it.size ≤ 140737488355328) :
    Calls Tryz.prog 99 #[.agg #[.int .i64 a, .int .i64 k, .int .i64 v, .int .i64 r, .string h, .slice none 0 0], .int .i64 0, .string it] w fun e w' =>
      Or3 w w' e (255 < [it].length ∨ 512 < 20 + h.size + isz [it]) ⟨a, k, v, r, h, [it]⟩ := by
  have HCAT := hide (put_cat0 w a k v r h it hit)
  obtain ⟨nl, hnl⟩ : ∃ nl, [it] = nl := ⟨_, rfl⟩
  rw [hnl] at HCAT ⊢
  clear hnl
  go_enter Tryz.func99, Tryz.ntmps99
  go_upto_region 3 with fail
  go_cut [29] (fun t wc => ∃ B5 ao5 cp5, t = .slice ao5 nl.length cp5 ∧ Hid (Aft w wc a k v r h (.slice ao5 nl.length cp5) B5 ao5 cp5 nl))
  case first =>
    go_region_with (
      go_at_call 124
      refine (HCAT.out _ (Only.drew _ _)).mono ?_
      rintro e w5 ⟨B5, ao5, cp5, rfl, p5, g5, HA⟩)
    all_goals (go_wp2_with fail; go_meet; exact ⟨B5, ao5, cp5, rfl, hide (HA.out.store _)⟩)
  case rest =>
    obtain ⟨B5, ao5, cp5, rfl, HA⟩ := hcut
    obtain ⟨p0, p1, p2, p3, p4, p5, g0, g1, g2, g3, g4, g5, gl⟩ := HA.out.one
    go_wp2_with fail
    refine (fitting_any _ a k v r h B5 cp5 ao5 nl HA.out.strs hh).mono ?_
    rintro e w6 ⟨rfl, ho6⟩
    have HA6 := hide (HA.out.more ho6)
    obtain ⟨q0, q1, q2, q3, q4, q5, t0, t1, t2, t3, t4, t5, tl⟩ := HA6.out.two
    have HQ6 := hide HA6.out.two
    clear ho6 p0 p1 p2 p3 p4 p5 g0 g1 g2 g3 g4 g5 gl
    by_cases hc : 255 < nl.length ∨ 512 < 20 + h.size + isz nl
    · rw [if_pos hc]
      have HC := hide hc
      clear hc
      go_wp2_with fail
      refine bodyPost_ret (results_page rfl rfl (Pag.six HQ6.out _ _ _ _ _ _)) rfl ?_
      exact Or3.yes HC.out (Res.none 3 (HA6.out.res _ _ _ _ _ _ 0 _ rfl).2)
    · rw [if_neg hc]
      have HC := hide hc
      clear hc
      go_wp2_with fail
      refine bodyPost_ret (results_page rfl rfl (Pag.six HQ6.out _ _ _ _ _ _)) rfl ?_
      exact Or3.no HC.out (HA6.out.res _ _ _ _ _ _ 0 _ rfl).1
end Go.Proofs.YthjjkhacniebiaaGreat
