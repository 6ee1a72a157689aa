/- What With, Put and Out do. -/
import Derived.Test.YtbfafijfhaejmaaGreatDoorPCat
import Derived.Deep.RegionWith
import Derived.Deep.DeepCutAuto
namespace Go.Proofs.YtbfafijfhaejmaaGreatDoor
open Go.RowKit

/-- A page and a code that a call returned, in memory of its own. -/
def Res (w w' : World) (e : Ending) (p : Pg) (c : Int) : Prop := ∃ B ao cp, e = .returned (.tuple #[.agg #[.int .i64 p.lsn, .int .i64 p.kind, .int .i64 p.level, .int .i64 p.right, .string p.high, .slice ao p.items.length cp], .int .i64 c]) ∧
  Strs w' B ao p.items ∧ Fit ao p.items.length cp ∧ Only (fun _ => False) w w' ∧ (0 < p.items.length → w.heap.size ≤ B)
theorem Res.none {w w' : World} (c : Int) (ho : Only (fun _ => False) w w') : Res w w' (.returned (.tuple #[.agg #[.int .i64 0, .int .i64 0, .int .i64 0, .int .i64 0, .string ⟨#[]⟩, .slice none 0 0], .int .i64 c])) .none c :=
  ⟨0, Option.none, 0, rfl, Strs.nil _ _ _, ⟨fun _ => rfl, by simp [Pg.none], by simp⟩, ho, fun h => absurd h (by simp [Pg.none])⟩
/-- Refused as too long, or the page. -/
def Or3 (w w' : World) (e : Ending) (c : Prop) (p : Pg) : Prop := (c → Res w w' e .none 3) ∧ (¬ c → Res w w' e p 0)
theorem Or3.yes {w w' : World} {e : Ending} {c : Prop} {p : Pg} (hc : c) (h : Res w w' e .none 3) : Or3 w w' e c p := ⟨fun _ => h, fun n => absurd hc n⟩
theorem Or3.no {w w' : World} {e : Ending} {c : Prop} {p : Pg} (hc : ¬ c) (h : Res w w' e p 0) : Or3 w w' e c p := ⟨fun n => absurd n hc, fun _ => h⟩
/-- The parts of a list at a place, as slices. -/
theorem Strs.take {w : World} {B : Nat} {ao : Option Addr} {l : List ByteArray} (h : Strs w B ao l) (k : Nat) : Strs w B ao (l.take k) :=
  ⟨fun h0 => by
    have hl : 0 < l.length := by simp only [List.length_take] at h0; omega
    obtain ⟨o, e, hc⟩ := h.at_ hl
    exact ⟨o, e, fun j hj => by rw [List.getElem_take]; exact hc j (by simp only [List.length_take] at hj; omega)⟩, fun h0 => h.lt (by simp only [List.length_take] at h0; omega), by have := h.len; simp only [List.length_take]; omega, fun s hs => h.size s (List.mem_of_mem_take hs)⟩
theorem Strs.drop {w : World} {B b o : Nat} {l : List ByteArray} (h : Strs w B (some ⟨b, o, Option.none⟩) l) (k : Nat) (ao : Option Addr) (ha : k < l.length → ao = some ⟨b, o + k, Option.none⟩) : Strs w B ao (l.drop k) :=
  ⟨fun h0 => by
    have hl : k < l.length := by simp only [List.length_drop] at h0; omega
    obtain ⟨o', e, hc⟩ := h.at_ (by omega)
    cases e
    exact ⟨o + k, ha hl, fun j hj => by rw [List.getElem_drop, Nat.add_assoc]; exact hc (k + j) (by simp only [List.length_drop] at hj; omega)⟩, fun h0 => h.lt (by simp only [List.length_drop] at h0; omega), by have := h.len; simp only [List.length_drop]; omega, fun s hs => h.size s (List.mem_of_mem_drop hs)⟩

theorem Pag.set5 {w : World} {b : Nat} {v0 v1 v2 v3 v4 v5 : Value} (h : Pag w b v0 v1 v2 v3 v4 v5) (x : Value) : Pag (w.setCell ⟨b, 5, none⟩ x) b v0 v1 v2 v3 v4 x := by
  have oth : ∀ (j : Nat) (y : Value), 5 ≠ j → w.cell? ⟨b, j, none⟩ = some y → (w.setCell ⟨b, 5, none⟩ x).cell? ⟨b, j, none⟩ = some y := fun j y hij hx => (World.cell?_setCell_other _ _ _ _ (by intro e; injection e with _ e2; exact hij e2)).trans hx
  exact ⟨oth 0 _ (by omega) h.c0, oth 1 _ (by omega) h.c1, oth 2 _ (by omega) h.c2, oth 3 _ (by omega) h.c3, oth 4 _ (by omega) h.c4, World.cell?_setCell_same _ _ _ h.c5, by simpa using h.f0, by simpa using h.f1, by simpa using h.f2, by simpa using h.f3, by simpa using h.f4, by simpa using h.f5, by simpa using h.lt⟩
theorem Strs.one (w : World) (s : ByteArray) (hs : s.size ≤ 140737488355328) : Strs (w.alloc (.cells #[.string s] 9)) w.heap.size (some ⟨w.heap.size, 0, none⟩) [s] :=
  ⟨fun _ => ⟨0, rfl, fun j hj => by
    have : j = 0 := by simp at hj; omega
    subst this
    simp⟩, fun _ => by simp, by simp, fun t ht => by simp at ht; rw [ht]; exact hs⟩
/-- The two boxes that With, Put and Out lay: the page, and the answer. -/
def boxes (w : World) (a k v r : Int) (h : ByteArray) (sl : Value) : World := (w.alloc (.cells #[.int .i64 a, .int .i64 k, .int .i64 v, .int .i64 r, .string h, sl] 45)).alloc (.cells #[.int .i64 0, .int .i64 0, .int .i64 0, .int .i64 0, .string ⟨#[]⟩, .slice none 0 0] 45)
theorem boxes_only (w : World) (a k v r : Int) (h : ByteArray) (sl : Value) : Only (fun _ => False) w (boxes w a k v r h sl) := o2 (onlyA _ _) (onlyA _ _)
theorem boxes_size (w : World) (a k v r : Int) (h : ByteArray) (sl : Value) : (boxes w a k v r h sl).heap.size = w.heap.size + 1 + 1 := by simp [boxes]
theorem boxes_one (w : World) (a k v r : Int) (h : ByteArray) (sl : Value) : Pag (boxes w a k v r h sl) w.heap.size (.int .i64 a) (.int .i64 k) (.int .i64 v) (.int .i64 r) (.string h) sl := (Pag.new w _ _ _ _ _ _).more (onlyA _ _)
theorem boxes_two (w : World) (a k v r : Int) (h : ByteArray) (sl : Value) : Pag (boxes w a k v r h sl) (w.heap.size + 1) (.int .i64 0) (.int .i64 0) (.int .i64 0) (.int .i64 0) (.string ⟨#[]⟩) (.slice none 0 0) := by
  have h1 := Pag.new (w.alloc (.cells #[.int .i64 a, .int .i64 k, .int .i64 v, .int .i64 r, .string h, sl] 45)) (.int .i64 0) (.int .i64 0) (.int .i64 0) (.int .i64 0) (.string ⟨#[]⟩) (.slice none 0 0)
  have e : (w.alloc (.cells #[.int .i64 a, .int .i64 k, .int .i64 v, .int .i64 r, .string h, sl] 45)).heap.size = w.heap.size + 1 := by simp
  rw [e] at h1
  exact h1

/-- Behind the laying of a new list: the two boxes, and the list nl, new. -/
structure Aft (w w5 : World) (a k v r : Int) (h : ByteArray) (sl : Value) (B5 : Nat) (ao5 : Option Addr) (cp5 : Nat) (nl : List ByteArray) : Prop where
  one : Pag w5 w.heap.size (.int .i64 a) (.int .i64 k) (.int .i64 v) (.int .i64 r) (.string h) sl
  two : Pag w5 (w.heap.size + 1) (.int .i64 0) (.int .i64 0) (.int .i64 0) (.int .i64 0) (.string ⟨#[]⟩) (.slice none 0 0)
  strs : Strs w5 B5 ao5 nl
  fit : Fit ao5 nl.length cp5
  only : Only (fun _ => False) w w5
  new : 0 < nl.length → w.heap.size + 1 < B5
theorem Aft.store {w w5 : World} {a k v r : Int} {h : ByteArray} {sl : Value} {B5 : Nat} {ao5 : Option Addr} {cp5 : Nat} {nl : List ByteArray} (H : Aft w w5 a k v r h sl B5 ao5 cp5 nl) (x : Value) : Aft w (w5.setCell ⟨w.heap.size, 5, none⟩ x) a k v r h x B5 ao5 cp5 nl := by
  have ho : Only (fun k => k = w.heap.size) w5 (w5.setCell ⟨w.heap.size, 5, none⟩ x) := Only.setCell w5 ⟨w.heap.size, 5, none⟩ x rfl
  exact ⟨H.one.set5 x, H.two.kept ho (by omega), H.strs.kept ho (fun h => by have := H.new h; omega), H.fit, H.only.trans ho (fun i hi e => by omega), H.new⟩
theorem Aft.more {w w5 w6 : World} {a k v r : Int} {h : ByteArray} {sl : Value} {B5 : Nat} {ao5 : Option Addr} {cp5 : Nat} {nl : List ByteArray} (H : Aft w w5 a k v r h sl B5 ao5 cp5 nl) (ho : Only (fun _ => False) w5 w6) : Aft w w6 a k v r h sl B5 ao5 cp5 nl :=
  ⟨H.one.more ho, H.two.more ho, H.strs.more ho, H.fit, o2 H.only ho, H.new⟩
theorem Aft.setItem {w w5 : World} {a k v r : Int} {h : ByteArray} {sl : Value} {g cap base : Nat} {l : List ByteArray} (H : Aft w w5 a k v r h sl g (some ⟨g, 0, none⟩) cap l) (hL : Ls w5 base (.slice (some ⟨g, 0, none⟩) l.length cap) l) (i : Nat) (it : ByteArray) (hit : it.size ≤ 140737488355328) (h0 : 0 < l.length) :
    Aft w (w5.setCell ⟨g, i, none⟩ (.string it)) a k v r h sl g (some ⟨g, 0, none⟩) cap (l.set i it) := by
  have hs := (World.ownsRow.stored hL i (.string it)).1
  have e : (scells l).set i (.string it) = scells (l.set i it) := by unfold scells; rw [List.map_set]
  rw [e] at hs
  have hL2 : Ls (w5.setCell ⟨g, i, none⟩ (.string it)) base (.slice (some ⟨g, 0, none⟩) l.length cap) (l.set i it) := by unfold Ls; rw [List.length_set]; exact hs
  obtain ⟨B5, ao5, cp5, hv, hS5, hF5, hB5, hO5⟩ := hL2.strs (by rw [List.length_set]; exact H.strs.len) (fun s hs => by
    rcases List.mem_or_eq_of_mem_set hs with hs | rfl
    · exact H.strs.size s hs
    · exact hit)
  rcases hO5 with rfl | rfl
  · cases hv
  · simp at hv
    obtain ⟨rfl, rfl⟩ := hv
    have ho : Only (fun k => k = g) w5 (w5.setCell ⟨g, i, none⟩ (.string it)) := Only.setCell w5 ⟨g, i, none⟩ _ rfl
    have hn := H.new h0
    exact ⟨H.one.kept ho (by omega), H.two.kept ho (by omega), hS5, hF5, H.only.trans ho (fun i hi e => by omega), fun _ => hn⟩
/-- The answer is laid. -/
theorem Aft.res {w w5 : World} {a k v r : Int} {h : ByteArray} {sl : Value} {B5 : Nat} {ao5 : Option Addr} {cp5 : Nat} {nl : List ByteArray} (H : Aft w w5 a k v r h sl B5 ao5 cp5 nl) (v0 v1 v2 v3 v4 v5 : Value) (c : Int) (w6 : World)
    (hw : w6 = ((((((w5.setCell ⟨w.heap.size + 1, 0, none⟩ v0).setCell ⟨w.heap.size + 1, 1, none⟩ v1).setCell ⟨w.heap.size + 1, 2, none⟩ v2).setCell ⟨w.heap.size + 1, 3, none⟩ v3).setCell ⟨w.heap.size + 1, 4, none⟩ v4).setCell ⟨w.heap.size + 1, 5, none⟩ v5)) :
    Res w w6 (.returned (.tuple #[.agg #[.int .i64 a, .int .i64 k, .int .i64 v, .int .i64 r, .string h, .slice ao5 nl.length cp5], .int .i64 c])) ⟨a, k, v, r, h, nl⟩ c ∧ Only (fun _ => False) w w6 := by
  have ho := Only.six w5 (w.heap.size + 1) v0 v1 v2 v3 v4 v5
  rw [← hw] at ho
  have ho2 : Only (fun _ => False) w w6 := H.only.trans ho (fun i hi e => by omega)
  exact ⟨⟨B5, ao5, cp5, rfl, H.strs.kept ho (fun h => by have := H.new h; omega), H.fit, ho2, fun h => by have := H.new h; omega⟩, ho2⟩
end Go.Proofs.YtbfafijfhaejmaaGreatDoor
