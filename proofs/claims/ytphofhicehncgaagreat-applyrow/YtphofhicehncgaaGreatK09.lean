/- Records in memory: lists of numbers, of pairs, of images that a slice leads to. -/
import Derived.Test.YtphofhicehncgaaGreatK05
import Derived.Deep.RegionWith
import Derived.Deep.DeepCutAuto
import Derived.Test.YtphofhicehncgaaGreatK08
namespace Go.Proofs.YtphofhicehncgaaGreat
open Go.RowKit

/-- A page and a code that a call returned, in memory of its own. -/
def Res (w w' : World) (e : Ending) (p : Pg) (c : Int) : Prop := ∃ B ao cp, e = .returned (.tuple #[.agg #[.int .i64 p.lsn, .int .i64 p.kind, .int .i64 p.level, .int .i64 p.right, .string p.high, .slice ao p.items.length cp], .int .i64 c]) ∧
  Strs w' B ao p.items ∧ Fit ao p.items.length cp ∧ Only (fun _ => False) w w' ∧ (0 < p.items.length → w.heap.size ≤ B)
theorem Res.none {w w' : World} (c : Int) (ho : Only (fun _ => False) w w') : Res w w' (.returned (.tuple #[.agg #[.int .i64 0, .int .i64 0, .int .i64 0, .int .i64 0, .string ⟨#[]⟩, .slice none 0 0], .int .i64 c])) .none c :=
  ⟨0, Option.none, 0, rfl, Strs.nil _ _ _, ⟨fun _ => rfl, by simp [Pg.none], by simp⟩, ho, fun h => absurd h (by simp [Pg.none])⟩
/-- Refused as too long, or the page. -/
def Or3 (w w' : World) (e : Ending) (c : Prop) (p : Pg) : Prop := (c → Res w w' e .none 3) ∧ (¬ c → Res w w' e p 0)
theorem Or3.yes {w w' : World} {e : Ending} {c : Prop} {p : Pg} (hc : c) (h : Res w w' e .none 3) : Or3 w w' e c p := ⟨fun _ => h, fun n => absurd hc n⟩
theorem Or3.no {w w' : World} {e : Ending} {c : Prop} {p : Pg} (hc : ¬ c) (h : Res w w' e p 0) : Or3 w w' e c p := ⟨fun n => absurd n hc, fun _ => h⟩
/-- The parts of a list at a place, as slices. -/
theorem Strs.take {w : World} {B : Nat} {ao : Option Addr} {l : List ByteArray} (h : Strs w B ao l) (k : Nat) : Strs w B ao (l.take k) :=
  ⟨fun h0 => by
    have hl : 0 < l.length := by simp only [List.length_take] at h0; omega
    obtain ⟨o, e, hc⟩ := h.at_ hl
    exact ⟨o, e, fun j hj => by rw [List.getElem_take]; exact hc j (by simp only [List.length_take] at hj; omega)⟩, fun h0 => h.lt (by simp only [List.length_take] at h0; omega), by have := h.len; simp only [List.length_take]; omega, fun s hs => h.size s (List.mem_of_mem_take hs)⟩
theorem Strs.drop {w : World} {B b o : Nat} {l : List ByteArray} (h : Strs w B (some ⟨b, o, Option.none⟩) l) (k : Nat) (ao : Option Addr) (ha : k < l.length → ao = some ⟨b, o + k, Option.none⟩) : Strs w B ao (l.drop k) :=
  ⟨fun h0 => by
    have hl : k < l.length := by simp only [List.length_drop] at h0; omega
    obtain ⟨o', e, hc⟩ := h.at_ (by omega)
    cases e
    exact ⟨o + k, ha hl, fun j hj => by rw [List.getElem_drop, Nat.add_assoc]; exact hc (k + j) (by simp only [List.length_drop] at hj; omega)⟩, fun h0 => h.lt (by simp only [List.length_drop] at h0; omega), by have := h.len; simp only [List.length_drop]; omega, fun s hs => h.size s (List.mem_of_mem_drop hs)⟩

theorem Pag.set5 {w : World} {b : Nat} {v0 v1 v2 v3 v4 v5 : Value} (h : Pag w b v0 v1 v2 v3 v4 v5) (x : Value) : Pag (w.setCell ⟨b, 5, none⟩ x) b v0 v1 v2 v3 v4 x := by
  have oth : ∀ (j : Nat) (y : Value), 5 ≠ j → w.cell? ⟨b, j, none⟩ = some y → (w.setCell ⟨b, 5, none⟩ x).cell? ⟨b, j, none⟩ = some y := fun j y hij hx => (World.cell?_setCell_other _ _ _ _ (by intro e; injection e with _ e2; exact hij e2)).trans hx
  exact ⟨oth 0 _ (by omega) h.c0, oth 1 _ (by omega) h.c1, oth 2 _ (by omega) h.c2, oth 3 _ (by omega) h.c3, oth 4 _ (by omega) h.c4, World.cell?_setCell_same _ _ _ h.c5, by simpa using h.f0, by simpa using h.f1, by simpa using h.f2, by simpa using h.f3, by simpa using h.f4, by simpa using h.f5, by simpa using h.lt⟩
theorem Strs.one (w : World) (s : ByteArray) (hs : s.size ≤ 140737488355328) : Strs (w.alloc (.cells #[.string s] 9)) w.heap.size (some ⟨w.heap.size, 0, none⟩) [s] :=
  ⟨fun _ => ⟨0, rfl, fun j hj => by
    have : j = 0 := by simp at hj; omega
    subst this
    simp⟩, fun _ => by simp, by simp, fun t ht => by simp at ht; rw [ht]; exact hs⟩
/-- Three lists that lie one behind the other in block b, put together. -/
theorem cat3 (W : World) (b : Nat) (A0 A1 A2 : Option Addr) (C0 C1 C2 B0 B1 B2 n0 n1 n2 : Nat) (l0 l1 l2 : List ByteArray) (e0 : n0 = l0.length) (e1 : n1 = l1.length) (e2 : n2 = l2.length)
    (c0 : W.cell? ⟨b, 0, none⟩ = some (.slice A0 n0 C0)) (c1 : W.cell? ⟨b, 1, none⟩ = some (.slice A1 n1 C1)) (c2 : W.cell? ⟨b, 2, none⟩ = some (.slice A2 n2 C2))
    (h0 : Strs W B0 A0 l0) (h1 : Strs W B1 A1 l1) (h2 : Strs W B2 A2 l2) (f0 : Fit A0 n0 C0) (f1 : Fit A1 n1 C1) (f2 : Fit A2 n2 C2) (hb : b < W.heap.size) (hroom : n0 + n1 + n2 ≤ 8796093022208) :
    Calls Tryz.prog 71 #[.slice (some ⟨b, 0, none⟩) 3 3] W fun e w' => ∃ v, e = .returned v ∧ Ls w' W.heap.size v (l0 ++ l1 ++ l2) ∧ Only (fun _ => False) W w' := by
  subst e0
  subst e1
  subst e2
  have h := concat_any W b 3 3 (fun j => match j with | 0 => A0 | 1 => A1 | _ => A2) (fun j => match j with | 0 => C0 | 1 => C1 | _ => C2) (fun j => match j with | 0 => B0 | 1 => B1 | _ => B2) (fun j => match j with | 0 => l0 | 1 => l1 | _ => l2)
    (fun j hj => match j, hj with | 0, _ => c0 | 1, _ => c1 | 2, _ => c2) (fun j hj => match j, hj with | 0, _ => h0 | 1, _ => h1 | 2, _ => h2) (fun j hj => match j, hj with | 0, _ => f0 | 1, _ => f1 | 2, _ => f2) (by omega) hb (by simp [catTo]; omega)
  simpa [catTo] using h
theorem cat2 (W : World) (b : Nat) (A0 A1 : Option Addr) (C0 C1 B0 B1 n0 n1 : Nat) (l0 l1 : List ByteArray) (e0 : n0 = l0.length) (e1 : n1 = l1.length)
    (c0 : W.cell? ⟨b, 0, none⟩ = some (.slice A0 n0 C0)) (c1 : W.cell? ⟨b, 1, none⟩ = some (.slice A1 n1 C1))
    (h0 : Strs W B0 A0 l0) (h1 : Strs W B1 A1 l1) (f0 : Fit A0 n0 C0) (f1 : Fit A1 n1 C1) (hb : b < W.heap.size) (hroom : n0 + n1 ≤ 8796093022208) :
    Calls Tryz.prog 71 #[.slice (some ⟨b, 0, none⟩) 2 2] W fun e w' => ∃ v, e = .returned v ∧ Ls w' W.heap.size v (l0 ++ l1) ∧ Only (fun _ => False) W w' := by
  subst e0
  subst e1
  have h := concat_any W b 2 2 (fun j => match j with | 0 => A0 | _ => A1) (fun j => match j with | 0 => C0 | _ => C1) (fun j => match j with | 0 => B0 | _ => B1) (fun j => match j with | 0 => l0 | _ => l1)
    (fun j hj => match j, hj with | 0, _ => c0 | 1, _ => c1) (fun j hj => match j, hj with | 0, _ => h0 | 1, _ => h1) (fun j hj => match j, hj with | 0, _ => f0 | 1, _ => f1) (by omega) hb (by simp [catTo]; omega)
  simpa [catTo] using h
/-- The two boxes that With, Put and Out lay: the page, and the answer. -/
def boxes (w : World) (a k v r : Int) (h : ByteArray) (sl : Value) : World := (w.alloc (.cells #[.int .i64 a, .int .i64 k, .int .i64 v, .int .i64 r, .string h, sl] 25)).alloc (.cells #[.int .i64 0, .int .i64 0, .int .i64 0, .int .i64 0, .string ⟨#[]⟩, .slice none 0 0] 25)
theorem boxes_only (w : World) (a k v r : Int) (h : ByteArray) (sl : Value) : Only (fun _ => False) w (boxes w a k v r h sl) := o2 (onlyA _ _) (onlyA _ _)
theorem boxes_size (w : World) (a k v r : Int) (h : ByteArray) (sl : Value) : (boxes w a k v r h sl).heap.size = w.heap.size + 1 + 1 := by simp [boxes]
theorem boxes_one (w : World) (a k v r : Int) (h : ByteArray) (sl : Value) : Pag (boxes w a k v r h sl) w.heap.size (.int .i64 a) (.int .i64 k) (.int .i64 v) (.int .i64 r) (.string h) sl := (Pag.new w _ _ _ _ _ _).more (onlyA _ _)
theorem boxes_two (w : World) (a k v r : Int) (h : ByteArray) (sl : Value) : Pag (boxes w a k v r h sl) (w.heap.size + 1) (.int .i64 0) (.int .i64 0) (.int .i64 0) (.int .i64 0) (.string ⟨#[]⟩) (.slice none 0 0) := by
  have h1 := Pag.new (w.alloc (.cells #[.int .i64 a, .int .i64 k, .int .i64 v, .int .i64 r, .string h, sl] 25)) (.int .i64 0) (.int .i64 0) (.int .i64 0) (.int .i64 0) (.string ⟨#[]⟩) (.slice none 0 0)
  have e : (w.alloc (.cells #[.int .i64 a, .int .i64 k, .int .i64 v, .int .i64 r, .string h, sl] 25)).heap.size = w.heap.size + 1 := by simp
  rw [e] at h1
  exact h1

/-- Behind the laying of a new list: the two boxes, and the list nl, new. -/
structure Aft (w w5 : World) (a k v r : Int) (h : ByteArray) (sl : Value) (B5 : Nat) (ao5 : Option Addr) (cp5 : Nat) (nl : List ByteArray) : Prop where
  one : Pag w5 w.heap.size (.int .i64 a) (.int .i64 k) (.int .i64 v) (.int .i64 r) (.string h) sl
  two : Pag w5 (w.heap.size + 1) (.int .i64 0) (.int .i64 0) (.int .i64 0) (.int .i64 0) (.string ⟨#[]⟩) (.slice none 0 0)
  strs : Strs w5 B5 ao5 nl
  fit : Fit ao5 nl.length cp5
  only : Only (fun _ => False) w w5
  new : 0 < nl.length → w.heap.size + 1 < B5
theorem Aft.store {w w5 : World} {a k v r : Int} {h : ByteArray} {sl : Value} {B5 : Nat} {ao5 : Option Addr} {cp5 : Nat} {nl : List ByteArray} (H : Aft w w5 a k v r h sl B5 ao5 cp5 nl) (x : Value) : Aft w (w5.setCell ⟨w.heap.size, 5, none⟩ x) a k v r h x B5 ao5 cp5 nl := by
  have ho : Only (fun k => k = w.heap.size) w5 (w5.setCell ⟨w.heap.size, 5, none⟩ x) := Only.setCell w5 ⟨w.heap.size, 5, none⟩ x rfl
  exact ⟨H.one.set5 x, H.two.kept ho (by omega), H.strs.kept ho (fun h => by have := H.new h; omega), H.fit, H.only.trans ho (fun i hi e => by omega), H.new⟩
theorem Aft.more {w w5 w6 : World} {a k v r : Int} {h : ByteArray} {sl : Value} {B5 : Nat} {ao5 : Option Addr} {cp5 : Nat} {nl : List ByteArray} (H : Aft w w5 a k v r h sl B5 ao5 cp5 nl) (ho : Only (fun _ => False) w5 w6) : Aft w w6 a k v r h sl B5 ao5 cp5 nl :=
  ⟨H.one.more ho, H.two.more ho, H.strs.more ho, H.fit, o2 H.only ho, H.new⟩
theorem Aft.setItem {w w5 : World} {a k v r : Int} {h : ByteArray} {sl : Value} {g cap base : Nat} {l : List ByteArray} (H : Aft w w5 a k v r h sl g (some ⟨g, 0, none⟩) cap l) (hL : Ls w5 base (.slice (some ⟨g, 0, none⟩) l.length cap) l) (i : Nat) (it : ByteArray) (hit : it.size ≤ 140737488355328) (h0 : 0 < l.length) :
    Aft w (w5.setCell ⟨g, i, none⟩ (.string it)) a k v r h sl g (some ⟨g, 0, none⟩) cap (l.set i it) := by
  have hs := (World.ownsRow.stored hL i (.string it)).1
  have e : (scells l).set i (.string it) = scells (l.set i it) := by unfold scells; rw [List.map_set]
  rw [e] at hs
  have hL2 : Ls (w5.setCell ⟨g, i, none⟩ (.string it)) base (.slice (some ⟨g, 0, none⟩) l.length cap) (l.set i it) := by unfold Ls; rw [List.length_set]; exact hs
  obtain ⟨B5, ao5, cp5, hv, hS5, hF5, hB5, hO5⟩ := hL2.strs (by rw [List.length_set]; exact H.strs.len) (fun s hs => by
    rcases List.mem_or_eq_of_mem_set hs with hs | rfl
    · exact H.strs.size s hs
    · exact hit)
  rcases hO5 with rfl | rfl
  · cases hv
  · simp at hv
    obtain ⟨rfl, rfl⟩ := hv
    have ho : Only (fun k => k = g) w5 (w5.setCell ⟨g, i, none⟩ (.string it)) := Only.setCell w5 ⟨g, i, none⟩ _ rfl
    have hn := H.new h0
    exact ⟨H.one.kept ho (by omega), H.two.kept ho (by omega), hS5, hF5, H.only.trans ho (fun i hi e => by omega), fun _ => hn⟩
/-- The answer is laid. -/
theorem Aft.res {w w5 : World} {a k v r : Int} {h : ByteArray} {sl : Value} {B5 : Nat} {ao5 : Option Addr} {cp5 : Nat} {nl : List ByteArray} (H : Aft w w5 a k v r h sl B5 ao5 cp5 nl) (v0 v1 v2 v3 v4 v5 : Value) (c : Int) (w6 : World)
    (hw : w6 = ((((((w5.setCell ⟨w.heap.size + 1, 0, none⟩ v0).setCell ⟨w.heap.size + 1, 1, none⟩ v1).setCell ⟨w.heap.size + 1, 2, none⟩ v2).setCell ⟨w.heap.size + 1, 3, none⟩ v3).setCell ⟨w.heap.size + 1, 4, none⟩ v4).setCell ⟨w.heap.size + 1, 5, none⟩ v5)) :
    Res w w6 (.returned (.tuple #[.agg #[.int .i64 a, .int .i64 k, .int .i64 v, .int .i64 r, .string h, .slice ao5 nl.length cp5], .int .i64 c])) ⟨a, k, v, r, h, nl⟩ c ∧ Only (fun _ => False) w w6 := by
  have ho := Only.six w5 (w.heap.size + 1) v0 v1 v2 v3 v4 v5
  rw [← hw] at ho
  have ho2 : Only (fun _ => False) w w6 := H.only.trans ho (fun i hi e => by omega)
  exact ⟨⟨B5, ao5, cp5, rfl, H.strs.kept ho (fun h => by have := H.new h; omega), H.fit, ho2, fun h => by have := H.new h; omega⟩, ho2⟩
theorem put_cat (w : World) (a k v r : Int) (h : ByteArray) (B b o cp : Nat) (l : List ByteArray) (i : Nat) (it : ByteArray) (hS : Strs w B (some ⟨b, o, none⟩) l) (hF : Fit (some ⟨b, o, none⟩) l.length cp) (hit : it.size ≤ 140737488355328) (hi : i ≤ l.length) (hlm : l.length ≤ 8796093021952) (A2 : Option Addr) (hA : i < l.length → A2 = some ⟨b, o + i, none⟩) (hA0 : A2 ≠ none) (W : World)
    (hW : Only (fun _ => False) (((boxes w a k v r h (.slice (some ⟨b, o, none⟩) l.length cp)).alloc (.cells #[.string it] 9)).alloc (.cells #[.slice (some ⟨b, o, none⟩) i cp, .slice (some ⟨w.heap.size + 1 + 1, 0, none⟩) 1 1, .slice A2 (l.length - i) (cp - i)] 23)) W) :
    Calls Tryz.prog 71 #[.slice (some ⟨w.heap.size + 1 + 1 + 1, 0, none⟩) 3 3] W fun e w' => ∃ B5 ao5 cp5, e = .returned (.slice ao5 (l.take i ++ it :: l.drop i).length cp5) ∧ w'.cell? ⟨w.heap.size, 5, none⟩ = some (.slice (some ⟨b, o, none⟩) l.length cp) ∧ w'.frozen? ⟨w.heap.size, 5, none⟩ = false ∧ Hid (Aft w w' a k v r h (.slice (some ⟨b, o, none⟩) l.length cp) B5 ao5 cp5 (l.take i ++ it :: l.drop i)) := by
  have hlen := hS.len
  have hB1 := boxes_one w a k v r h (.slice (some ⟨b, o, none⟩) l.length cp)
  have hB2 := boxes_two w a k v r h (.slice (some ⟨b, o, none⟩) l.length cp)
  have hcp := hF.le
  have hbig := hF.big
  obtain ⟨W0, hW0⟩ : ∃ W0, boxes w a k v r h (.slice (some ⟨b, o, none⟩) l.length cp) = W0 := ⟨_, rfl⟩
  have hz := boxes_size w a k v r h (.slice (some ⟨b, o, none⟩) l.length cp)
  have ho0 := boxes_only w a k v r h (.slice (some ⟨b, o, none⟩) l.length cp)
  rw [hW0] at hW hz ho0 hB1 hB2
  have hS0 := hS.more ho0
  have hS1 := Strs.one W0 it hit
  rw [hz] at hS1
  have hS2 := (hS0.more (o2 (onlyA _ _) (onlyA _ _))).more hW
  have hS3 := (hS1.more (onlyA _ _)).more hW
  have hlt : w.heap.size + 1 + 1 + 1 < ((W0.alloc (.cells #[.string it] 9)).alloc (.cells #[.slice (some ⟨b, o, none⟩) i cp, .slice (some ⟨w.heap.size + 1 + 1, 0, none⟩) 1 1, .slice A2 (l.length - i) (cp - i)] 23)).heap.size := by simp; omega
  have hz1 : (W0.alloc (.cells #[.string it] 9)).heap.size = w.heap.size + 1 + 1 + 1 := by simp; omega
  have hc : ∀ j (x : Value), #[Value.slice (some ⟨b, o, none⟩) i cp, .slice (some ⟨w.heap.size + 1 + 1, 0, none⟩) 1 1, .slice A2 (l.length - i) (cp - i)][j]? = some x → W.cell? ⟨w.heap.size + 1 + 1 + 1, j, none⟩ = some x := by
    intro j x hx
    rw [hW.cell (p := ⟨w.heap.size + 1 + 1 + 1, j, none⟩) hlt (fun h => h), ← hz1]
    simpa using hx
  have key := cat3 W (w.heap.size + 1 + 1 + 1) (some ⟨b, o, none⟩) (some ⟨w.heap.size + 1 + 1, 0, none⟩) A2 cp 1 (cp - i) B (w.heap.size + 1 + 1) B i 1 (l.length - i) (l.take i) [it] (l.drop i)
    (by simp; omega) rfl (by simp) (hc 0 _ rfl) (hc 1 _ rfl) (hc 2 _ rfl) (hS2.take i) hS3 (hS2.drop i _ hA)
    ⟨(fun h => by cases h), by omega, hbig⟩ ⟨(fun h => by cases h), by omega, (by unfold maxLen; omega)⟩ ⟨(fun h => absurd h hA0), by omega, by omega⟩ (Nat.lt_of_lt_of_le hlt hW.size) (by omega)
  have e3 : l.take i ++ [it] ++ l.drop i = l.take i ++ it :: l.drop i := by simp
  rw [e3] at key
  have hsz : ∀ s ∈ l.take i ++ it :: l.drop i, s.size ≤ 140737488355328 := by
    intro s hs
    rcases List.mem_append.1 hs with hs | hs
    · exact hS.size s (List.mem_of_mem_take hs)
    · rcases List.mem_cons.1 hs with rfl | hs
      · exact hit
      · exact hS.size s (List.mem_of_mem_drop hs)
  have hln : (l.take i ++ it :: l.drop i).length = l.length + 1 := by simp; omega
  refine Calls.mono key ?_
  rintro e w5 ⟨v5, rfl, hl5, ho5⟩
  obtain ⟨B5, ao5, cp5, rfl, hS5, hF5, hB5, _⟩ := hl5.strs (by omega) hsz
  have hoo := o2 (o2 (onlyA W0 (.cells #[.string it] 9)) (onlyA _ _)) (o2 hW ho5)
  have hP := hB1.more hoo
  have hWs := hW.size
  exact ⟨B5, ao5, cp5, rfl, hP.c5, hP.f5, ⟨hP, hB2.more hoo, hS5, hF5, o2 ho0 hoo, fun h => by have := hB5 h; omega⟩⟩

end Go.Proofs.YtphofhicehncgaaGreat

namespace Go.Proofs.YtphofhicehncgaaGreat
open Go.RowKit

/-- Numbers that a slice at ao leads to, in block B. -/
structure Zs (w : World) (B : Nat) (ao : Option Addr) (l : List Int) : Prop where
  at_ : 0 < l.length → ∃ o, ao = some ⟨B, o, none⟩ ∧ ∀ j (h : j < l.length), w.cell? ⟨B, o + j, none⟩ = some (.int .i64 l[j])
  lt : 0 < l.length → B < w.heap.size
  len : l.length ≤ 17592186043904
theorem Zs.nil (w : World) (B : Nat) (ao : Option Addr) : Zs w B ao [] := ⟨fun h => absurd h (by simp), fun h => absurd h (by simp), by simp⟩
theorem Zs.kept {S : Nat → Prop} {w w' : World} {B : Nat} {ao : Option Addr} {l : List Int} (h : Zs w B ao l) (ho : Only S w w') (hS : 0 < l.length → ¬ S B) : Zs w' B ao l :=
  ⟨fun h0 => by
    obtain ⟨o, e, hc⟩ := h.at_ h0
    exact ⟨o, e, fun j hj => (ho.cell (p := ⟨B, o + j, none⟩) (h.lt h0) (hS h0)).trans (hc j hj)⟩, fun h0 => Nat.lt_of_lt_of_le (h.lt h0) ho.size, h.len⟩
/-- Pairs of numbers that a slice at ao leads to, in block B. -/
structure Prs (w : World) (B : Nat) (ao : Option Addr) (l : List (Int × Int)) : Prop where
  at_ : 0 < l.length → ∃ o, ao = some ⟨B, o, none⟩ ∧ ∀ j (h : j < l.length), w.cell? ⟨B, o + j * 2, none⟩ = some (.int .i64 l[j].1) ∧ w.cell? ⟨B, o + j * 2 + 1, none⟩ = some (.int .i64 l[j].2)
  lt : 0 < l.length → B < w.heap.size
  len : l.length ≤ 17592186043904
theorem Prs.nil (w : World) (B : Nat) (ao : Option Addr) : Prs w B ao [] := ⟨fun h => absurd h (by simp), fun h => absurd h (by simp), by simp⟩
theorem Prs.kept {S : Nat → Prop} {w w' : World} {B : Nat} {ao : Option Addr} {l : List (Int × Int)} (h : Prs w B ao l) (ho : Only S w w') (hS : 0 < l.length → ¬ S B) : Prs w' B ao l :=
  ⟨fun h0 => by
    obtain ⟨o, e, hc⟩ := h.at_ h0
    exact ⟨o, e, fun j hj => ⟨(ho.cell (p := ⟨B, o + j * 2, none⟩) (h.lt h0) (hS h0)).trans (hc j hj).1, (ho.cell (p := ⟨B, o + j * 2 + 1, none⟩) (h.lt h0) (hS h0)).trans (hc j hj).2⟩⟩, fun h0 => Nat.lt_of_lt_of_le (h.lt h0) ho.size, h.len⟩
/-- An image whose seven cells lie from k on in block B, its page's items in block D. -/
structure ImAt (w : World) (B k : Nat) (i : Im) (D : Nat) (ao : Option Addr) (cp : Nat) : Prop where
  c0 : w.cell? ⟨B, k, none⟩ = some (.int .i64 i.page)
  c1 : w.cell? ⟨B, k + 1, none⟩ = some (.int .i64 i.body.lsn)
  c2 : w.cell? ⟨B, k + 2, none⟩ = some (.int .i64 i.body.kind)
  c3 : w.cell? ⟨B, k + 3, none⟩ = some (.int .i64 i.body.level)
  c4 : w.cell? ⟨B, k + 4, none⟩ = some (.int .i64 i.body.right)
  c5 : w.cell? ⟨B, k + 5, none⟩ = some (.string i.body.high)
  c6 : w.cell? ⟨B, k + 6, none⟩ = some (.slice ao i.body.items.length cp)
  strs : Strs w D ao i.body.items
  fit : Fit ao i.body.items.length cp
  high : i.body.high.size ≤ 140737488355328
  lsn : i.body.lsn < 9223372036854775808
theorem ImAt.kept {S : Nat → Prop} {w w' : World} {B k : Nat} {i : Im} {D : Nat} {ao : Option Addr} {cp : Nat} (h : ImAt w B k i D ao cp) (hB : B < w.heap.size) (ho : Only S w w') (hS : ¬ S B) (hD : 0 < i.body.items.length → ¬ S D) : ImAt w' B k i D ao cp :=
  ⟨(ho.cell (p := ⟨B, k, none⟩) hB hS).trans h.c0, (ho.cell (p := ⟨B, k + 1, none⟩) hB hS).trans h.c1, (ho.cell (p := ⟨B, k + 2, none⟩) hB hS).trans h.c2, (ho.cell (p := ⟨B, k + 3, none⟩) hB hS).trans h.c3, (ho.cell (p := ⟨B, k + 4, none⟩) hB hS).trans h.c4, (ho.cell (p := ⟨B, k + 5, none⟩) hB hS).trans h.c5, (ho.cell (p := ⟨B, k + 6, none⟩) hB hS).trans h.c6, h.strs.kept ho hD, h.fit, h.high, h.lsn⟩
/-- Images that a slice at ao leads to, in block B; the items of their pages lie in blocks of T. -/
structure Ims (w : World) (T : Nat → Prop) (B : Nat) (ao : Option Addr) (l : List Im) : Prop where
  at_ : 0 < l.length → ∃ o, ao = some ⟨B, o, none⟩ ∧ ∀ j (h : j < l.length), ∃ D a c, ImAt w B (o + j * 7) l[j] D a c ∧ (0 < l[j].body.items.length → T D)
  lt : 0 < l.length → B < w.heap.size
  len : l.length ≤ 17592186043904
theorem Ims.nil (w : World) (T : Nat → Prop) (B : Nat) (ao : Option Addr) : Ims w T B ao [] := ⟨fun h => absurd h (by simp), fun h => absurd h (by simp), by simp⟩
theorem Ims.kept {S T : Nat → Prop} {w w' : World} {B : Nat} {ao : Option Addr} {l : List Im} (h : Ims w T B ao l) (ho : Only S w w') (hS : 0 < l.length → ¬ S B) (hT : ∀ d, T d → ¬ S d) : Ims w' T B ao l :=
  ⟨fun h0 => by
    obtain ⟨o, e, hc⟩ := h.at_ h0
    refine ⟨o, e, fun j hj => ?_⟩
    obtain ⟨D, a, c, hi, hD⟩ := hc j hj
    exact ⟨D, a, c, hi.kept (h.lt h0) ho (hS h0) (fun h1 => hT D (hD h1)), hD⟩, fun h0 => Nat.lt_of_lt_of_le (h.lt h0) ho.size, h.len⟩
theorem Ims.mono {T T' : Nat → Prop} {w : World} {B : Nat} {ao : Option Addr} {l : List Im} (h : Ims w T B ao l) (hT : ∀ d, T d → T' d) : Ims w T' B ao l :=
  ⟨fun h0 => by
    obtain ⟨o, e, hc⟩ := h.at_ h0
    refine ⟨o, e, fun j hj => ?_⟩
    obtain ⟨D, a, c, hi, hD⟩ := hc j hj
    exact ⟨D, a, c, hi, fun h1 => hT D (hD h1)⟩, h.lt, h.len⟩
theorem Ims.lsn {w : World} {T : Nat → Prop} {B : Nat} {ao : Option Addr} {l : List Im} (h : Ims w T B ao l) : ∀ i ∈ l, i.body.lsn < 9223372036854775808 := by
  intro i hi
  obtain ⟨j, hj, rfl⟩ := List.getElem_of_mem hi
  obtain ⟨o, e, hc⟩ := h.at_ (by omega)
  obtain ⟨D, a, c, hi, hD⟩ := hc j hj
  exact hi.lsn
theorem Zs.more {w w' : World} {B : Nat} {ao : Option Addr} {l : List Int} (h : Zs w B ao l) (ho : Only (fun _ => False) w w') : Zs w' B ao l := h.kept ho (fun _ h => h)
theorem Prs.more {w w' : World} {B : Nat} {ao : Option Addr} {l : List (Int × Int)} (h : Prs w B ao l) (ho : Only (fun _ => False) w w') : Prs w' B ao l := h.kept ho (fun _ h => h)
theorem Ims.more {w w' : World} {T : Nat → Prop} {B : Nat} {ao : Option Addr} {l : List Im} (h : Ims w T B ao l) (ho : Only (fun _ => False) w w') : Ims w' T B ao l := h.kept ho (fun _ h => h) (fun _ _ h => h)

/-- Where a record's lists lie. -/
structure Loc where
  a1 : Option Addr
  a2 : Option Addr
  a3 : Option Addr
  a4 : Option Addr
  a5 : Option Addr
  c1 : Nat
  c2 : Nat
  c3 : Nat
  c4 : Nat
  c5 : Nat
  b1 : Nat
  b2 : Nat
  b3 : Nat
  b4 : Nat
  b5 : Nat
abbrev Rc.cells (r : Rc) (L : Loc) : Array Value :=
  #[.int .i64 r.lsn, .int .i64 r.prev, .int .i64 r.next, .int .u8 r.kind, .int .i64 r.xid, .int .i64 r.page, .int .i64 r.slot, .int .i64 r.old, .int .i64 r.new, .int .i64 r.redo, .string r.data,
    .slice L.a1 r.slots.length L.c1, .slice L.a2 r.more.length L.c2, .slice L.a3 r.images.length L.c3, .slice L.a4 r.pages.length L.c4, .slice L.a5 r.txns.length L.c5]
/-- What a record's lists hold. -/
structure RcAt (w : World) (r : Rc) (L : Loc) : Prop where
  slots : Zs w L.b1 L.a1 r.slots
  more : Zs w L.b2 L.a2 r.more
  images : ∃ T, Ims w T L.b3 L.a3 r.images
  pages : Prs w L.b4 L.a4 r.pages
  txns : Prs w L.b5 L.a5 r.txns
  f1 : Fit L.a1 r.slots.length L.c1
  f2 : Fit L.a2 r.more.length L.c2
  data : r.data.size ≤ 140737488355328
  kind : 0 ≤ r.kind ∧ r.kind ≤ 255
theorem RcAt.go {w w' : World} {r : Rc} {L : Loc} (h : RcAt w r L) (ho : Only (fun _ => False) w w') : RcAt w' r L := by
  obtain ⟨T, hi⟩ := h.images
  exact ⟨h.slots.more ho, h.more.more ho, ⟨T, hi.more ho⟩, h.pages.more ho, h.txns.more ho, h.f1, h.f2, h.data, h.kind⟩
/-- A record in block b, cell by cell. -/
structure Bx (w : World) (b : Nat) (r : Rc) (L : Loc) : Prop where
  c0 : w.cell? ⟨b, 0, none⟩ = some (.int .i64 r.lsn)
  c1 : w.cell? ⟨b, 1, none⟩ = some (.int .i64 r.prev)
  c2 : w.cell? ⟨b, 2, none⟩ = some (.int .i64 r.next)
  c3 : w.cell? ⟨b, 3, none⟩ = some (.int .u8 r.kind)
  c4 : w.cell? ⟨b, 4, none⟩ = some (.int .i64 r.xid)
  c5 : w.cell? ⟨b, 5, none⟩ = some (.int .i64 r.page)
  c6 : w.cell? ⟨b, 6, none⟩ = some (.int .i64 r.slot)
  c7 : w.cell? ⟨b, 7, none⟩ = some (.int .i64 r.old)
  c8 : w.cell? ⟨b, 8, none⟩ = some (.int .i64 r.new)
  c9 : w.cell? ⟨b, 9, none⟩ = some (.int .i64 r.redo)
  c10 : w.cell? ⟨b, 10, none⟩ = some (.string r.data)
  c11 : w.cell? ⟨b, 11, none⟩ = some (.slice L.a1 r.slots.length L.c1)
  c12 : w.cell? ⟨b, 12, none⟩ = some (.slice L.a2 r.more.length L.c2)
  c13 : w.cell? ⟨b, 13, none⟩ = some (.slice L.a3 r.images.length L.c3)
  c14 : w.cell? ⟨b, 14, none⟩ = some (.slice L.a4 r.pages.length L.c4)
  c15 : w.cell? ⟨b, 15, none⟩ = some (.slice L.a5 r.txns.length L.c5)
  lt : b < w.heap.size
theorem Bx.new (w : World) (r : Rc) (L : Loc) : Bx (w.alloc (.cells (r.cells L) 34)) w.heap.size r L :=
  ⟨by simp, by simp, by simp, by simp, by simp, by simp, by simp, by simp, by simp, by simp, by simp, by simp, by simp, by simp, by simp, by simp, by simp⟩
theorem Bx.kept {S : Nat → Prop} {w w' : World} {b : Nat} {r : Rc} {L : Loc} (h : Bx w b r L) (ho : Only S w w') (hS : ¬ S b) : Bx w' b r L := by
  have k : ∀ (j : Nat) (v : Value), w.cell? ⟨b, j, none⟩ = some v → w'.cell? ⟨b, j, none⟩ = some v := fun j v hj => (ho.cell (p := ⟨b, j, none⟩) h.lt hS).trans hj
  exact ⟨k _ _ h.c0, k _ _ h.c1, k _ _ h.c2, k _ _ h.c3, k _ _ h.c4, k _ _ h.c5, k _ _ h.c6, k _ _ h.c7, k _ _ h.c8, k _ _ h.c9, k _ _ h.c10, k _ _ h.c11, k _ _ h.c12, k _ _ h.c13, k _ _ h.c14, k _ _ h.c15, Nat.lt_of_lt_of_le h.lt ho.size⟩
theorem Bx.more {w w' : World} {b : Nat} {r : Rc} {L : Loc} (h : Bx w b r L) (ho : Only (fun _ => False) w w') : Bx w' b r L := h.kept ho (fun h => h)
end Go.Proofs.YtphofhicehncgaaGreat
