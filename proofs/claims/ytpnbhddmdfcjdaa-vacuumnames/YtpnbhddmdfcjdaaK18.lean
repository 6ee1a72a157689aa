/- Parts. -/
import Derived.Test.YtpnbhddmdfcjdaaK17
import Derived.Maps.AppendAt
import Derived.Laws.OwnMore
import Derived.Lib.AppendZeros
import Derived.Deep.RegionWith
import Derived.Deep.DeepCutAuto
import Derived.Lib.Repeat
import Derived.Test.YtpnbhddmdfcjdaaK12
import Derived.Test.YtpnbhddmdfcjdaaK09
import Derived.Deep.LoopGhost
set_option maxRecDepth 100000
namespace Go.Proofs.Ytpnbhddmdfcjdaa
open Go.RowKit
theorem add_at (b o n : Nat) : (⟨b, o, none⟩ : Addr).add n = ⟨b, o + n, none⟩ := by
  unfold Addr.add
  split
  · rename_i h; rw [h]; rfl
  · rfl
def scells (l : List ByteArray) : List Value := l.map Value.string
/-- Texts that the value v owns, in a block from base on. -/
def Ls (w : World) (base : Nat) (v : Value) (l : List ByteArray) : Prop := w.ownsRow base 9 1 v l.length (scells l)
/-- A slice that is what Go lets it be. -/
structure Fit (ao : Option Addr) (n cp : Nat) : Prop where
  nil : ao = none → cp = 0
  le : n ≤ cp
  big : cp ≤ maxLen
theorem Ls.nil (w : World) (base : Nat) : Ls w base (.slice none 0 0) [] := World.ownsRow_nil _ _ _ _
theorem Ls.kept {S : Nat → Prop} {w w' : World} {base : Nat} {v : Value} {l : List ByteArray} (h : Ls w base v l) (ho : Only S w w') (hS : ∀ k, v.ownBlock = some k → ¬ S k) : Ls w' base v l := by
  obtain ⟨h1, h2⟩ := h
  refine ⟨h1, ?_⟩
  rcases h2 with h2 | ⟨g, cap, cur, hv, hg, hh, r⟩
  · exact .inl h2
  · subst hv
    exact .inr ⟨g, cap, cur, rfl, hg, by rw [ho.block g (Array.getElem?_eq_some_iff.1 hh).1 (hS g rfl)]; exact hh, r⟩
theorem Ls.strs {w : World} {base : Nat} {v : Value} {l : List ByteArray} (h : Ls w base v l) (hl : l.length ≤ 8796093022207) (hs : ∀ s ∈ l, s.size ≤ 140737488355328) :
    ∃ B ao cp, v = .slice ao l.length cp ∧ Strs w B ao l ∧ Fit ao l.length cp ∧ (0 < l.length → base ≤ B) ∧ (ao = none ∨ ao = some ⟨B, 0, none⟩) := by
  rcases h.2 with ⟨rfl, h0⟩ | ⟨g, cap, cur, rfl, hb, hg, hn, hm, _⟩
  · have e : l = [] := List.eq_nil_of_length_eq_zero h0
    subst e
    exact ⟨0, none, 0, rfl, Strs.nil _ _ _, ⟨fun _ => rfl, by simp, by simp⟩, fun h => absurd h (by simp), .inl rfl⟩
  · refine ⟨g, some ⟨g, 0, none⟩, cap, rfl, ⟨fun _ => ⟨0, rfl, fun j hj => ?_⟩, fun _ => (Array.getElem?_eq_some_iff.1 hg).1, hl, hs⟩, ⟨(fun h => by cases h), hn, hm⟩, fun _ => hb, .inr rfl⟩
    rw [Nat.zero_add, World.ownsRow.cellAt h j (by omega)]
    simp [scells, hj]
theorem Strs.none_nil {w : World} {B : Nat} {l : List ByteArray} (h : Strs w B none l) : l = [] := by
  cases l with
  | nil => rfl
  | cons s t =>
    obtain ⟨o, e, _⟩ := h.at_ (by simp)
    cases e
/-- A list's copy. -/
theorem clone_any (w : World) (B cp : Nat) (ao : Option Addr) (l : List ByteArray) (h : Strs w B ao l) :
    Calls Try.prog 61 #[.slice ao l.length cp] w fun e w' => ∃ v, e = .returned v ∧ Ls w' w.heap.size v l ∧ Only (fun _ => False) w w' := by
  have only : ∀ w', Below w.heap.size w w' → Only (fun _ => False) w w' := fun w' hb => ⟨hb.os, hb.tape, hb.output, hb.size, fun k hk _ => hb.block k hk⟩
  cases ao with
  | none =>
    have e := h.none_nil
    subst e
    refine (Try.slices_Clone_string_nil _ cp w).mono ?_
    rintro e w' ⟨rfl, rfl⟩
    exact ⟨_, rfl, Ls.nil _ _, Only.refl _ _⟩
  | some ad =>
    by_cases h0 : l.length = 0
    · have e : l = [] := List.eq_nil_of_length_eq_zero h0
      subst e
      refine (Try.slices_Clone_string_zero ad cp w).mono ?_
      rintro e w' ⟨v, rfl, ho, _, hb⟩
      exact ⟨v, rfl, ho, only _ hb⟩
    · obtain ⟨o, e, hc⟩ := h.at_ (by omega)
      cases e
      have hl := h.len
      refine (Try.slices_Clone_string B o l.length cp l w (Nat.le_refl _) (by omega) (fun j hj => by rw [hc j hj, getD_of hj])).mono ?_
      rintro e w' ⟨v, rfl, ho, _, hb⟩
      rw [List.take_of_length_le (Nat.le_refl _)] at ho
      exact ⟨v, rfl, ho, only _ hb⟩
/-- A page and a code that a call returned, in memory of its own. -/
def Res (w w' : World) (e : Ending) (p : Pg) (c : Int) : Prop := ∃ B ao cp, e = .returned (.tuple #[.agg #[.int .i64 p.lsn, .int .i64 p.kind, .int .i64 p.level, .int .i64 p.right, .string p.high, .slice ao p.items.length cp], .int .i64 c]) ∧
  Strs w' B ao p.items ∧ Fit ao p.items.length cp ∧ Only (fun _ => False) w w' ∧ (0 < p.items.length → w.heap.size ≤ B)
theorem Res.none {w w' : World} (c : Int) (ho : Only (fun _ => False) w w') : Res w w' (.returned (.tuple #[.agg #[.int .i64 0, .int .i64 0, .int .i64 0, .int .i64 0, .string ⟨#[]⟩, .slice none 0 0], .int .i64 c])) .none c :=
  ⟨0, Option.none, 0, rfl, Strs.nil _ _ _, ⟨fun _ => rfl, by simp [Pg.none], by simp⟩, ho, fun h => absurd h (by simp [Pg.none])⟩
/-- Refused as too long, or the page. -/
def Or3 (w w' : World) (e : Ending) (c : Prop) (p : Pg) : Prop := (c → Res w w' e .none 3) ∧ (¬ c → Res w w' e p 0)
theorem Or3.yes {w w' : World} {e : Ending} {c : Prop} {p : Pg} (hc : c) (h : Res w w' e .none 3) : Or3 w w' e c p := ⟨fun _ => h, fun n => absurd hc n⟩
theorem Or3.no {w w' : World} {e : Ending} {c : Prop} {p : Pg} (hc : ¬ c) (h : Res w w' e p 0) : Or3 w w' e c p := ⟨fun n => absurd n hc, fun _ => h⟩
theorem Pag.set5 {w : World} {b : Nat} {v0 v1 v2 v3 v4 v5 : Value} (h : Pag w b v0 v1 v2 v3 v4 v5) (x : Value) : Pag (w.setCell ⟨b, 5, none⟩ x) b v0 v1 v2 v3 v4 x := by
  have oth : ∀ (j : Nat) (y : Value), 5 ≠ j → w.cell? ⟨b, j, none⟩ = some y → (w.setCell ⟨b, 5, none⟩ x).cell? ⟨b, j, none⟩ = some y := fun j y hij hx => (World.cell?_setCell_other _ _ _ _ (by intro e; injection e with _ e2; exact hij e2)).trans hx
  exact ⟨oth 0 _ (by omega) h.c0, oth 1 _ (by omega) h.c1, oth 2 _ (by omega) h.c2, oth 3 _ (by omega) h.c3, oth 4 _ (by omega) h.c4, World.cell?_setCell_same _ _ _ h.c5, by simpa using h.f0, by simpa using h.f1, by simpa using h.f2, by simpa using h.f3, by simpa using h.f4, by simpa using h.f5, by simpa using h.lt⟩
/-- The two boxes that With, Put and Out lay: the page, and the answer. -/
def boxes (w : World) (a k v r : Int) (h : ByteArray) (sl : Value) : World := (w.alloc (.cells #[.int .i64 a, .int .i64 k, .int .i64 v, .int .i64 r, .string h, sl] 30)).alloc (.cells #[.int .i64 0, .int .i64 0, .int .i64 0, .int .i64 0, .string ⟨#[]⟩, .slice none 0 0] 30)
theorem boxes_only (w : World) (a k v r : Int) (h : ByteArray) (sl : Value) : Only (fun _ => False) w (boxes w a k v r h sl) := o2 (onlyA _ _) (onlyA _ _)
theorem boxes_size (w : World) (a k v r : Int) (h : ByteArray) (sl : Value) : (boxes w a k v r h sl).heap.size = w.heap.size + 1 + 1 := by simp [boxes]
theorem boxes_one (w : World) (a k v r : Int) (h : ByteArray) (sl : Value) : Pag (boxes w a k v r h sl) w.heap.size (.int .i64 a) (.int .i64 k) (.int .i64 v) (.int .i64 r) (.string h) sl := (Pag.new w _ _ _ _ _ _).more (onlyA _ _)
theorem boxes_two (w : World) (a k v r : Int) (h : ByteArray) (sl : Value) : Pag (boxes w a k v r h sl) (w.heap.size + 1) (.int .i64 0) (.int .i64 0) (.int .i64 0) (.int .i64 0) (.string ⟨#[]⟩) (.slice none 0 0) := by
  have h1 := Pag.new (w.alloc (.cells #[.int .i64 a, .int .i64 k, .int .i64 v, .int .i64 r, .string h, sl] 30)) (.int .i64 0) (.int .i64 0) (.int .i64 0) (.int .i64 0) (.string ⟨#[]⟩) (.slice none 0 0)
  have e : (w.alloc (.cells #[.int .i64 a, .int .i64 k, .int .i64 v, .int .i64 r, .string h, sl] 30)).heap.size = w.heap.size + 1 := by simp
  rw [e] at h1
  exact h1
/-- Behind the laying of a new list: the two boxes, and the list nl, new. -/
structure Aft (w w5 : World) (a k v r : Int) (h : ByteArray) (sl : Value) (B5 : Nat) (ao5 : Option Addr) (cp5 : Nat) (nl : List ByteArray) : Prop where
  one : Pag w5 w.heap.size (.int .i64 a) (.int .i64 k) (.int .i64 v) (.int .i64 r) (.string h) sl
  two : Pag w5 (w.heap.size + 1) (.int .i64 0) (.int .i64 0) (.int .i64 0) (.int .i64 0) (.string ⟨#[]⟩) (.slice none 0 0)
  strs : Strs w5 B5 ao5 nl
  fit : Fit ao5 nl.length cp5
  only : Only (fun _ => False) w w5
  new : 0 < nl.length → w.heap.size + 1 < B5
theorem Aft.store {w w5 : World} {a k v r : Int} {h : ByteArray} {sl : Value} {B5 : Nat} {ao5 : Option Addr} {cp5 : Nat} {nl : List ByteArray} (H : Aft w w5 a k v r h sl B5 ao5 cp5 nl) (x : Value) : Aft w (w5.setCell ⟨w.heap.size, 5, none⟩ x) a k v r h x B5 ao5 cp5 nl := by
  have ho : Only (fun k => k = w.heap.size) w5 (w5.setCell ⟨w.heap.size, 5, none⟩ x) := Only.setCell w5 ⟨w.heap.size, 5, none⟩ x rfl
  exact ⟨H.one.set5 x, H.two.kept ho (by omega), H.strs.kept ho (fun h => by have := H.new h; omega), H.fit, H.only.trans ho (fun i hi e => by omega), H.new⟩
theorem Aft.more {w w5 w6 : World} {a k v r : Int} {h : ByteArray} {sl : Value} {B5 : Nat} {ao5 : Option Addr} {cp5 : Nat} {nl : List ByteArray} (H : Aft w w5 a k v r h sl B5 ao5 cp5 nl) (ho : Only (fun _ => False) w5 w6) : Aft w w6 a k v r h sl B5 ao5 cp5 nl :=
  ⟨H.one.more ho, H.two.more ho, H.strs.more ho, H.fit, o2 H.only ho, H.new⟩
theorem Aft.setItem {w w5 : World} {a k v r : Int} {h : ByteArray} {sl : Value} {g cap base : Nat} {l : List ByteArray} (H : Aft w w5 a k v r h sl g (some ⟨g, 0, none⟩) cap l) (hL : Ls w5 base (.slice (some ⟨g, 0, none⟩) l.length cap) l) (i : Nat) (it : ByteArray) (hit : it.size ≤ 140737488355328) (h0 : 0 < l.length) :
    Aft w (w5.setCell ⟨g, i, none⟩ (.string it)) a k v r h sl g (some ⟨g, 0, none⟩) cap (l.set i it) := by
  have hs := (World.ownsRow.stored hL i (.string it)).1
  have e : (scells l).set i (.string it) = scells (l.set i it) := by unfold scells; rw [List.map_set]
  rw [e] at hs
  have hL2 : Ls (w5.setCell ⟨g, i, none⟩ (.string it)) base (.slice (some ⟨g, 0, none⟩) l.length cap) (l.set i it) := by unfold Ls; rw [List.length_set]; exact hs
  obtain ⟨B5, ao5, cp5, hv, hS5, hF5, hB5, hO5⟩ := hL2.strs (by rw [List.length_set]; exact H.strs.len) (fun s hs => by
    rcases List.mem_or_eq_of_mem_set hs with hs | rfl
    · exact H.strs.size s hs
    · exact hit)
  rcases hO5 with rfl | rfl
  · cases hv
  · simp at hv
    obtain ⟨rfl, rfl⟩ := hv
    have ho : Only (fun k => k = g) w5 (w5.setCell ⟨g, i, none⟩ (.string it)) := Only.setCell w5 ⟨g, i, none⟩ _ rfl
    have hn := H.new h0
    exact ⟨H.one.kept ho (by omega), H.two.kept ho (by omega), hS5, hF5, H.only.trans ho (fun i hi e => by omega), fun _ => hn⟩
/-- The answer is laid. -/
theorem Aft.res {w w5 : World} {a k v r : Int} {h : ByteArray} {sl : Value} {B5 : Nat} {ao5 : Option Addr} {cp5 : Nat} {nl : List ByteArray} (H : Aft w w5 a k v r h sl B5 ao5 cp5 nl) (v0 v1 v2 v3 v4 v5 : Value) (c : Int) (w6 : World)
    (hw : w6 = ((((((w5.setCell ⟨w.heap.size + 1, 0, none⟩ v0).setCell ⟨w.heap.size + 1, 1, none⟩ v1).setCell ⟨w.heap.size + 1, 2, none⟩ v2).setCell ⟨w.heap.size + 1, 3, none⟩ v3).setCell ⟨w.heap.size + 1, 4, none⟩ v4).setCell ⟨w.heap.size + 1, 5, none⟩ v5)) :
    Res w w6 (.returned (.tuple #[.agg #[.int .i64 a, .int .i64 k, .int .i64 v, .int .i64 r, .string h, .slice ao5 nl.length cp5], .int .i64 c])) ⟨a, k, v, r, h, nl⟩ c ∧ Only (fun _ => False) w w6 := by
  have ho := Only.six w5 (w.heap.size + 1) v0 v1 v2 v3 v4 v5
  rw [← hw] at ho
  have ho2 : Only (fun _ => False) w w6 := H.only.trans ho (fun i hi e => by omega)
  exact ⟨⟨B5, ao5, cp5, rfl, H.strs.kept ho (fun h => by have := H.new h; omega), H.fit, ho2, fun h => by have := H.new h; omega⟩, ho2⟩
theorem only_below {w w' : World} (hb : Below w.heap.size w w') : Only (fun _ => False) w w' := ⟨hb.os, hb.tape, hb.output, hb.size, fun k hk _ => hb.block k hk⟩
theorem rep_zero (c : Nat) : Lib.repeatL (⟨#[0]⟩ : ByteArray).data.toList c = List.replicate c 0 := by
  induction c with
  | zero => rfl
  | succ c ih => rw [Lib.repeatL, ih, List.replicate_succ]; rfl
end Go.Proofs.Ytpnbhddmdfcjdaa
namespace Go.Proofs.Ytpnbhddmdfcjdaa
open Go.RowKit
theorem cat_eqU (a : List UInt8) (s : ByteArray) : (⟨a.toArray⟩ : ByteArray) ++ s = ⟨(a ++ s.data.toList).toArray⟩ := by
  obtain ⟨⟨l⟩⟩ := s
  apply ByteArray.ext
  simp
end Go.Proofs.Ytpnbhddmdfcjdaa
