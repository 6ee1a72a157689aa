/- A page that is lent, with a marked item behind its list; and that it is kept. -/
import Derived.Test.YtbhmhhnacpjgpaaDoorPPut
namespace Go.Proofs.YtbhmhhnacpjgpaaDoor
open Go.RowKit

def markS : ByteArray := ⟨#[109, 97, 114, 107]⟩
theorem results_cell1 {fn : Func} {p : Tmp} {ty : TypeId} (h : fn.results = #[.cell p ty]) (tmps : Array Value) (P : Program) (w : World) :
    (results fn tmps).run P w = ((asAddr (tmps.getD p undef)).run P w).andThen fun a w₁ => (loadVar ty a).run P w₁ := by
  simp only [results, h]
  simp [Sem.run_bind, Result.andThen]
theorem results_page1 {fn : Func} {p : Tmp} (h : fn.results = #[.cell p 24]) {tmps : Array Value} {w : World} {b : Nat} {v0 v1 v2 v3 v4 v5 : Value} (hp : tmps.getD p undef = .pointer (some ⟨b, 0, none⟩)) (hP : Pag w b v0 v1 v2 v3 v4 v5) :
    (results fn tmps).run Tryd.prog w = .ok (.agg #[v0, v1, v2, v3, v4, v5]) w := by
  have e : (asAddr (.pointer (some ⟨b, 0, none⟩))).run Tryd.prog w = .ok ⟨b, 0, none⟩ w := rfl
  rw [results_cell1 h, hp, e]
  simp only [Result.andThen, load_page hP]
/-- A list lent, in block g: it, and the mark behind it. -/
structure Lt (w w' : World) (g cap : Nat) (l : List ByteArray) : Prop where
  own : w'.ownsRow w.heap.size 9 1 (.slice (some ⟨g, 0, none⟩) (l.length + 1) cap) (l.length + 1) (scells (l ++ [markS]))
  only : Only (fun _ => False) w w'
theorem Lt.lo {w w' : World} {g cap : Nat} {l : List ByteArray} (h : Lt w w' g cap l) : w.heap.size ≤ g ∧ g < w'.heap.size := World.ownsRow.lt h.own g rfl
theorem Lt.cap {w w' : World} {g cap : Nat} {l : List ByteArray} (h : Lt w w' g cap l) : l.length + 1 ≤ cap ∧ cap ≤ maxLen := by
  rcases h.own.2 with ⟨h0, _⟩ | ⟨g', cap', cur, hv, _, _, hn, hm, _⟩
  · cases h0
  · cases hv
    exact ⟨hn, hm⟩
theorem Lt.cell {w w' : World} {g cap : Nat} {l : List ByteArray} (h : Lt w w' g cap l) (j : Nat) (hj : j < l.length) : w'.cell? ⟨g, j, none⟩ = some (.string l[j]) := by
  have h1 := World.ownsRow.cellAt h.own j (by omega)
  rw [h1]
  simp [scells, List.getElem?_append_left, hj]
theorem Lt.mark {w w' : World} {g cap : Nat} {l : List ByteArray} (h : Lt w w' g cap l) : w'.cell? ⟨g, l.length, none⟩ = some (.string markS) := by
  have h1 := World.ownsRow.cellAt h.own l.length (by omega)
  rw [h1]
  simp [scells]
theorem Lt.frozen {w w' : World} {g cap : Nat} {l : List ByteArray} (h : Lt w w' g cap l) (j : Nat) : w'.frozen? ⟨g, j, none⟩ = false := World.ownsRow.frozenAt h.own j
theorem Lt.strs {w w' : World} {g cap : Nat} {l : List ByteArray} (h : Lt w w' g cap l) (hl : l.length ≤ 8796093022207) (hs : ∀ s ∈ l, s.size ≤ 140737488355328) : Strs w' g (some ⟨g, 0, none⟩) l :=
  ⟨fun _ => ⟨0, rfl, fun j hj => by rw [Nat.zero_add]; exact h.cell j hj⟩, fun _ => h.lo.2, hl, hs⟩
theorem Lt.fit {w w' : World} {g cap : Nat} {l : List ByteArray} (h : Lt w w' g cap l) : Fit (some ⟨g, 0, none⟩) l.length cap :=
  ⟨fun h => (by cases h), (by have := h.cap; omega), h.cap.2⟩
theorem Lt.more {w w' w2 : World} {g cap : Nat} {l : List ByteArray} (h : Lt w w' g cap l) (ho : Only (fun _ => False) w' w2) : Lt w w2 g cap l := by
  refine ⟨?_, o2 h.only ho⟩
  have h1 : Ls w' w.heap.size (.slice (some ⟨g, 0, none⟩) (l.length + 1) cap) (l ++ [markS]) := by unfold Ls; rw [List.length_append]; exact h.own
  have h2 := h1.more ho
  unfold Ls at h2
  rw [List.length_append] at h2
  exact h2
theorem Lt.kept {S : Nat → Prop} {w w' w2 : World} {g cap : Nat} {l : List ByteArray} (h : Lt w w' g cap l) (ho : Only S w' w2) (hS : ¬ S g) (hw : ∀ i, i < w.heap.size → ¬ S i) : Lt w w2 g cap l := by
  refine ⟨?_, h.only.trans ho (fun i hi hs => hw i hi hs)⟩
  have h1 : Ls w' w.heap.size (.slice (some ⟨g, 0, none⟩) (l.length + 1) cap) (l ++ [markS]) := by unfold Ls; rw [List.length_append]; exact h.own
  have h2 := h1.kept ho (fun k hk => by simp [Value.ownBlock] at hk; rw [← hk]; exact hS)
  unfold Ls at h2
  rw [List.length_append] at h2
  exact h2

set_option maxRecDepth 100000 in
set_option maxHeartbeats 1600000 in
theorem plent_any (w : World) (a k v r : Int) (h : ByteArray) (B cp : Nat) (ao : Option Addr) (l : List ByteArray) (hS : Strs w B ao l) (hF : Fit ao l.length cp) (hl : l.length ≤ 8796093021952) :
    Calls Tryd.prog 6 #[.agg #[.int .i64 a, .int .i64 k, .int .i64 v, .int .i64 r, .string h, .slice ao l.length cp]] w fun e w' => ∃ g cap, e = .returned (.agg #[.int .i64 a, .int .i64 k, .int .i64 v, .int .i64 r, .string h, .slice (some ⟨g, 0, none⟩) l.length cap]) ∧ Lt w w' g cap l := by
  have HB0 := hide (boxes_only w a k v r h (.slice ao l.length cp))
  have HB1 := hide (boxes_one w a k v r h (.slice ao l.length cp))
  have HB2 := hide (boxes_two w a k v r h (.slice ao l.length cp))
  have HBZ := hide (boxes_size w a k v r h (.slice ao l.length cp))
  obtain ⟨W0, hW0⟩ : ∃ W0, boxes w a k v r h (.slice ao l.length cp) = W0 := ⟨_, rfl⟩
  have HW0 := hide hW0
  rw [hW0] at HB0 HB1 HB2 HBZ
  clear hW0
  obtain ⟨v1, w1, r1, k1, o1⟩ := append_strs W0 22 W0.heap.size (.slice none 0 0) [] (Ls.nil _ _) B cp ao l (hS.more HB0.out) hF (by simp; omega) (Nat.le_refl _)
  have q1 : Only (fun _ => False) w1 (w1.alloc (.cells #[.string markS] 9)) := onlyA _ _
  obtain ⟨v2, w2, r2, k2, o2'⟩ := append_strs (w1.alloc (.cells #[.string markS] 9)) 22 W0.heap.size v1 _ (k1.more q1) w1.heap.size 1 (some ⟨w1.heap.size, 0, none⟩) [markS] (Strs.one w1 markS (by decide)) ⟨fun h => (by cases h), by simp, by unfold maxLen; omega⟩ (by simp; omega) (Nat.le_trans o1.size q1.size)
  simp only [List.nil_append] at k2
  have ho2 : Only (fun k => W0.heap.size ≤ k) W0 w2 := (o1.trans q1 (fun _ _ h => h.elim)).trans o2' (fun _ _ h => h)
  have hzz := HBZ.out
  rcases k2.2 with ⟨_, h0'⟩ | ⟨g, cap, cur, hv, hb, hg, hnc, hcm, hcs, htk⟩
  · simp at h0'
  · subst hv
    have hln : (l ++ [markS]).length = l.length + 1 := by simp
    rw [hln] at r2 hnc
    have hk2 : w2.ownsRow w.heap.size 9 1 (.slice (some ⟨g, 0, none⟩) (l.length + 1) cap) (l.length + 1) (scells (l ++ [markS])) := by
      unfold Ls at k2
      rw [hln] at k2
      refine ⟨k2.1, ?_⟩
      rcases k2.2 with h0 | ⟨g', cap', cur', hv', hb', rest⟩
      · exact .inl h0
      · exact .inr ⟨g', cap', cur', hv', by omega, rest⟩
    have HO2 : Hid (Only (fun _ => False) w w2) := HB0.out.trans ho2 (fun i hi e => by omega)
    have HP1 := hide (HB1.out.kept ho2 (by omega))
    have HP2 := hide (HB2.out.kept ho2 (by omega))
    have HK2 := hide hk2
    have R1 := hide r1
    have R2 := hide r2
    have HG := hide hb
    unfold maxLen at hcm
    have hc0 : (0 : Int) ≤ (l.length : Int) := by omega
    have hc1 : (l.length : Int) ≤ (cap : Int) := by omega
    have hc2 : (l.length : Int) + 1 ≤ (cap : Int) := by omega
    have hcap : ¬ cap = 0 := by omega
    clear r1 r2 k1 k2 o1 o2' q1 ho2 hg hcs htk hk2 hb hS hF
    obtain ⟨p0, p1, p2, p3, p4, p5, g0, g1, g2, g3, g4, g5, gl⟩ := HP1.out
    obtain ⟨q0, q1, q2, q3, q4, q5, t0, t1, t2, t3, t4, t5, tl⟩ := HP2.out
    go_enter Tryd.func6, Tryd.ntmps6
    go_wp2_with (first
      | (at_builtin; refine Lib.wpList_append_run _ rfl (.tmp 4) (.tmp 6) _ _ rfl _ _ rfl rfl _ _ (by have e := R1.out; rw [← HW0.out] at e; exact e) ?_)
      | (at_builtin; refine Lib.wpList_append_run _ rfl (.tmp 8) (.tmp 9) _ _ rfl _ _ rfl rfl _ _ R2.out ?_))
    have HL2 : Hid (Lt w w2 g cap l) := ⟨HK2.out, HO2.out⟩
    have o3 : Only (fun k => k = w.heap.size) w2 (w2.setCell ⟨w.heap.size, 5, none⟩ (.slice (some ⟨g, 0, none⟩) l.length cap)) := Only.setCell w2 ⟨w.heap.size, 5, none⟩ _ rfl
    have hgw := HG.out
    have HL3 := hide (HL2.out.kept o3 (by omega) (fun i hi => by omega))
    refine bodyPost_ret (results_page1 rfl rfl (Pag.six (HP2.out.kept o3 (by omega)) _ _ _ _ _ _)) rfl ?_
    exact ⟨g, cap, rfl, HL3.out.kept (Only.six _ _ _ _ _ _ _ _) (by omega) (fun i hi => by omega)⟩

set_option maxRecDepth 100000 in
set_option maxHeartbeats 1600000 in
/-- What was lent is as it was; it is written over then. -/
theorem pkept_any (w0 w : World) (a k v r : Int) (h : ByteArray) (B cp g cap : Nat) (ao : Option Addr) (l : List ByteArray) (hL : Lt w0 w g cap l) (hS : Strs w B ao l) (hB : 0 < l.length → B ≠ g) (hl : l.length ≤ 8796093021952) :
    Calls Tryd.prog 10 #[.agg #[.int .i64 a, .int .i64 k, .int .i64 v, .int .i64 r, .string h, .slice (some ⟨g, 0, none⟩) l.length cap], .agg #[.int .i64 a, .int .i64 k, .int .i64 v, .int .i64 r, .string h, .slice ao l.length cp]] w fun e w' => e = .returned (.bool true) ∧ Only (fun k => k = g) w w' := by
  obtain ⟨W0, hW0⟩ : ∃ W0, (w.alloc (.cells #[.int .i64 a, .int .i64 k, .int .i64 v, .int .i64 r, .string h, .slice (some ⟨g, 0, none⟩) l.length cap] 24)).alloc (.cells #[.int .i64 a, .int .i64 k, .int .i64 v, .int .i64 r, .string h, .slice ao l.length cp] 24) = W0 := ⟨_, rfl⟩
  have HO0 := hide (o2 (onlyA w (.cells #[.int .i64 a, .int .i64 k, .int .i64 v, .int .i64 r, .string h, .slice (some ⟨g, 0, none⟩) l.length cap] 24)) (onlyA _ (.cells #[.int .i64 a, .int .i64 k, .int .i64 v, .int .i64 r, .string h, .slice ao l.length cp] 24)))
  have HP := hide ((Pag.new w (.int .i64 a) (.int .i64 k) (.int .i64 v) (.int .i64 r) (.string h) (.slice (some ⟨g, 0, none⟩) l.length cap)).more (onlyA _ (.cells #[.int .i64 a, .int .i64 k, .int .i64 v, .int .i64 r, .string h, .slice ao l.length cp] 24)))
  have HQ := hide (Pag.new (w.alloc (.cells #[.int .i64 a, .int .i64 k, .int .i64 v, .int .i64 r, .string h, .slice (some ⟨g, 0, none⟩) l.length cap] 24)) (.int .i64 a) (.int .i64 k) (.int .i64 v) (.int .i64 r) (.string h) (.slice ao l.length cp))
  rw [hW0] at HO0 HP HQ
  have hsz : (w.alloc (.cells #[.int .i64 a, .int .i64 k, .int .i64 v, .int .i64 r, .string h, .slice (some ⟨g, 0, none⟩) l.length cap] 24)).heap.size = w.heap.size + 1 := by simp
  rw [hsz] at HQ
  have HW0 := hide hW0
  clear hW0 hsz
  have hc := hL.cap
  have hlo := hL.lo
  unfold maxLen at hc
  have hc0 : (0 : Int) ≤ (l.length : Int) + 1 := by omega
  have hc1 : (l.length : Int) + 1 ≤ (cap : Int) := by omega
  have hcap : ¬ cap = 0 := by omega
  have HL := hide hL
  have HS := hide hS
  have HB := hide hB
  clear hL hS hB
  obtain ⟨p0, p1, p2, p3, p4, p5, _⟩ := HP.out
  obtain ⟨q0, q1, q2, q3, q4, q5, _⟩ := HQ.out
  go_enter Tryd.func10, Tryd.ntmps10
  go_upto_region 1 with fail
  rw [HW0.out]
  go_wp2_with fail
  have hs := ysame_any W0 a k v r a k v r h h g B cap cp (some ⟨g, 0, none⟩) ao l l ((HL.out.more HO0.out).strs (by omega) HS.out.size) (HS.out.more HO0.out)
  rw [show decide (a = a ∧ k = k ∧ v = v ∧ r = r ∧ h = h ∧ l = l) = true by simp] at hs
  refine Calls.mono hs ?_
  clear hs
  rintro e w1 ⟨rfl, ho1⟩
  have HL1 := hide ((HL.out.more HO0.out).more ho1)
  have hmk := HL1.out.mark
  have HO1 : Hid (Only (fun k => k = g) w w1) := (o2 HO0.out ho1).mono (fun _ _ h => h.elim)
  have HFZ : Hid (∀ j, w1.frozen? ⟨g, j, none⟩ = false) := fun j => HL1.out.frozen j
  have HCC : Hid (∀ j, j ≤ l.length → ∃ x, w1.cell? ⟨g, j, none⟩ = some x) := fun j hj => by
    by_cases e : j < l.length
    · exact ⟨_, HL1.out.cell j e⟩
    · have : j = l.length := by omega
      subst this
      exact ⟨_, HL1.out.mark⟩
  have hml : (0 : Int) ≤ (l.length : Int) := by omega
  have hml2 : (l.length : Int) < (l.length : Int) + 1 := by omega
  have hmark : markS = ⟨#[109, 97, 114, 107]⟩ := rfl
  rw [hmark] at hmk
  clear ho1 p0 p1 p2 p3 p4 p5 q0 q1 q2 q3 q4 q5 hmark
  go_wp2_with fail
  go_loopw [8] (fun y wr => ∃ (j : Nat), j ≤ l.length + 1 ∧ y = .int .i64 (j : Int) ∧ Hid (∀ j, wr.frozen? ⟨g, j, none⟩ = false) ∧ Hid (∀ j, j ≤ l.length → ∃ x, wr.cell? ⟨g, j, none⟩ = some x) ∧ Hid (Only (fun k => k = g) w wr)) (fun y _ => l.length + 1 - (intOf y).toNat)
  case atStart => exact ⟨0, by omega, rfl, HFZ, HCC, HO1⟩
  case round =>
    obtain ⟨j, hj, rfl, HF, HC, HO⟩ := hrel
    by_cases hlt : j ≤ l.length
    · have hf := HF.out j
      obtain ⟨x, hx⟩ := HC.out j hlt
      have hj0 : (0 : Int) ≤ (j : Int) := by omega
      have hj1 : (j : Int) ≤ (l.length : Int) := by omega
      have hj2 : (j : Int) < (l.length : Int) + 1 := by omega
      have HX := hide hx
      go_wp2_with fail
      go_roundw
      case rel =>
        refine ⟨j + 1, by omega, by go_num, hide (fun i => ?_), hide (fun i hi => ?_), hide (HO.out.trans (Only.setCell (S := fun k => k = g) wr ⟨g, j, none⟩ _ rfl) (fun _ _ h => h))⟩
        · simpa using HF.out i
        · by_cases e : i = j
          · subst e
            exact ⟨_, World.cell?_setCell_same _ _ _ HX.out⟩
          · obtain ⟨y, hy⟩ := HC.out i hi
            exact ⟨y, (World.cell?_setCell_other _ _ _ _ (by intro e2; injection e2 with _ e3; exact e e3.symm)).trans hy⟩
      case measure => simp [intOf]; omega
    · have hj1 : ¬ (j : Int) ≤ (l.length : Int) := by omega
      go_wp2_with fail
      go_ret
      exact ⟨rfl, HO.out⟩
end Go.Proofs.YtbhmhhnacpjgpaaDoor
