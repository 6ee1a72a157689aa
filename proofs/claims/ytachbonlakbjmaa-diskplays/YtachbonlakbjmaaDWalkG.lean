/- What Pending does. -/
import Derived.Test.YtachbonlakbjmaaDWalkF
import Derived.Test.YtachbonlakbjmaaDSort
import Derived.Maps.AppendAt
import Derived.Sort.OwnSorted
namespace Go.Proofs.Ytachbonlakbjmaa
open Go.RowKit Go.Maps Go.Sort

/-- The keys met so far: none twice; those that the map has and that are no longer to come. -/
def Col (D : DataW Unit) (left : Lit → Bool) (zs : List Int) : Prop := zs.Nodup ∧ ∀ x : Int, x ∈ zs ↔ (has D (.int .i64 x) = true ∧ left (.int .i64 x) = false)
theorem Col.start (D : DataW Unit) : Col D (has D) [] := ⟨List.nodup_nil, fun x => by cases has D (.int .i64 x) <;> simp⟩
theorem Col.step {D : DataW Unit} {left : Lit → Bool} {zs : List Int} (h : Col D left zs) {x : Int} (hl : left (.int .i64 x) = true) (hh : has D (.int .i64 x) = true) : Col D (fun z => left z && !z.sameKey (.int .i64 x)) (zs ++ [x]) := by
  obtain ⟨h1, h2⟩ := h
  have hx : ¬ x ∈ zs := fun e => by have := ((h2 x).1 e).2; rw [hl] at this; cases this
  refine ⟨List.nodup_append.2 ⟨h1, by simp, ?_⟩, fun y => ?_⟩
  · intro a ha b hb e
    simp at hb
    exact hx (by rw [← hb, ← e]; exact ha)
  · rw [List.mem_append, h2 y]
    by_cases e : y = x
    · subst e
      have : (Lit.int .i64 y).sameKey (.int .i64 y) = true := WideAt.sameKey_self (a := .int .i64 y) trivial
      simp [this, hh]
    · have : (Lit.int .i64 y).sameKey (.int .i64 x) = false := sameKey_ne (by simpa using e)
      simp [this, e]
theorem pend_sorted (D : Dk) : D.pend.Pairwise (· < ·) := List.Pairwise.filter _ List.pairwise_lt_range
theorem Col.sorted {DD : DataW Unit} {left : Lit → Bool} {zs : List Int} {D : Dk} (h : Col DD left zs) (hD : FrsD DD D.old.length D.fresh) (hl : ∀ kl, left kl = false) :
    zs.mergeSort (fun x y => decide (x ≤ y)) = D.pend.map (fun k : Nat => (k : Int)) := by
  have hp : zs.Perm (D.pend.map (fun k : Nat => (k : Int))) := by
    refine (List.perm_ext_iff_of_nodup h.1 ?_).2 fun x => ?_
    · refine List.pairwise_map.2 ((pend_sorted D).imp ?_)
      intro a b hab e
      omega
    · rw [h.2 x, List.mem_map]
      constructor
      · rintro ⟨hh, _⟩
        obtain ⟨k, hk, e⟩ := hD.key _ hh
        cases e
        exact ⟨k, mem_pend.2 ⟨hk, by rw [← hD.has k]; exact hh⟩, rfl⟩
      · rintro ⟨k, hk, rfl⟩
        exact ⟨by rw [hD.has k]; exact (mem_pend.1 hk).2, hl _⟩
  have tr : ∀ a b c : Int, decide (a ≤ b) = true → decide (b ≤ c) = true → decide (a ≤ c) = true := fun a b c h1 h2 => by simp at *; omega
  have to : ∀ a b : Int, (decide (a ≤ b) || decide (b ≤ a)) = true := fun a b => by simp; omega
  refine List.Perm.eq_of_pairwise (le := fun a b => decide (a ≤ b) = true) (fun a b _ _ h1 h2 => ?_) (List.pairwise_mergeSort tr to zs) ?_ ((List.mergeSort_perm zs _).trans hp)
  · simp at h1 h2; omega
  · refine List.pairwise_map.2 ((pend_sorted D).imp ?_)
    intro a b hab
    simp
    omega
theorem Try.infoInt : (Try.prog.info? 3).map (fun i => (i.zero, i.size, i.bytes)) = some (some (.int .i64 0), 1, 8) := by kernel_rfl
theorem pending_nil (w : World) : Calls Try.prog 25 #[.pointer none] w fun e w' => e = .returned (.slice none 0 0) ∧ w' = w := by
  go_enter Try.func25, Try.ntmps25
  go_wp2
  go_ret
  exact ⟨rfl, rfl⟩
/-- Numbers as cells. -/
def icells (l : List Nat) : List Value := l.map fun k : Nat => Value.int .i64 (k : Int)
set_option maxRecDepth 100000 in
set_option maxHeartbeats 1600000 in
theorem pending_any (w : World) (d g m : Nat) (D : Dk) (h : Dsk w d g m D) : Calls Try.prog 25 #[.pointer (some ⟨d, 0, none⟩)] w fun e w' =>
    ∃ gg cap, e = .returned (.slice (some ⟨gg, 0, none⟩) D.pend.length cap) ∧ w'.ownsRow w.heap.size 3 1 (.slice (some ⟨gg, 0, none⟩) D.pend.length cap) D.pend.length (icells D.pend) ∧ Only (fun _ => False) w w' := by
  obtain ⟨i0, hi, hz0, hz1, hz2⟩ := info_parts Try.infoInt
  have hc1 := h.c1
  have hml := h.map.lt
  obtain ⟨N0, DD, hown0, hD⟩ := h.map
  have hsz := FrsD.size_le hown0 hD
  have hown := tight hown0
  have h64 := h.ok.hi
  have H := hide h
  have HD := hide hD
  clear h hD hown0
  go_enter Try.func25, Try.ntmps25
  go_wp2_with (first
    | (at_len; refine wpList_len_own _ rfl _ 46 rfl 3 65 Try.underlying46 _ m _ _ rfl hown ?_)
    | (at_make; refine wpList_make_own _ rfl _ _ 34 rfl w.heap.size 3 i0 (.int .i64 0) 1 Try.underlying34 hi hz0 hz1 _ _ _ (Maps.size DD) rfl rfl rfl (by rw [hz2]; omega) (by unfold maxLen; omega) (Nat.le_refl _) ?_; intro w1 hrow1 hg1; have hc1b := (H.out.same (Only.grown hg1 (fun k hk => by cases hk))).c1)
    | (at_range; refine wpList_range_own _ rfl _ 46 rfl 3 65 keyed Try.underlying46 _ m _ _ rfl (hown.kept hg1 (by simp)) ?_; intro w0 hrg0 hg0 hs0))
  go_frame
  have hsa := hg1.size
  obtain ⟨r, hr⟩ : ∃ r, w1.heap.size = r := ⟨_, rfl⟩
  have HR0 : Hid (w0.ranges Try.prog 3 secElem m r (Maps.size DD) DD (has DD) (Maps.size DD)) := by rw [← hr]; exact hrg0
  have HW0 : Hid (w0.ownsRow w.heap.size 3 1 (.slice (some ⟨w.heap.size, 0, none⟩) 0 (Maps.size DD)) 0 []) := hrow1.kept hg0 (Or.inr (by simp [Value.ownBlock]))
  have HO0 : Hid (Only (fun _ => False) w w0) := (Only.grown (S := fun _ => False) hg1 (fun k hk => by cases hk)).trans (Only.grown (S := fun _ => False) hg0 (fun k hk => by cases hk)) (fun _ _ h => h)
  have hs02 := hg0.size
  rw [hr] at hsa hs02 ⊢
  have HOWN := hide hown
  clear hr hrg0 hrow1 hg0 hg1 hc1 hc1b hs0 hown
  go_loopw [3] (fun v wr => ∃ (left : Lit → Bool) (cnt : Nat) (zs : List Int), Hid (wr.ranges Try.prog 3 secElem m r (Maps.size DD) DD left cnt) ∧ zs.length + cnt ≤ Maps.size DD ∧
      Hid (wr.ownsRow w.heap.size 3 1 v zs.length (zs.map (Value.int .i64))) ∧ Hid (v ≠ .slice none 0 0) ∧ Hid (Col DD left zs) ∧ Hid (Only (fun _ => False) w wr) ∧ r ≤ wr.heap.size)
    (fun _ wr => wr.rangeLeft m r)
  case atStart => exact ⟨_, _, [], HR0, by simp, HW0, hide (by simp), hide (Col.start DD), HO0, hs02⟩
  case round =>
    obtain ⟨left, cnt, zs, HR, hcs, HW, HN, HC, HO, hrs⟩ := hrel
    go_wp2_with (first
      | (at_next; refine wpList_next_ranges _ rfl _ rfl 3 keyed secElem (Value.int .i64) sec inv_key inv_sec m r _ _ _ _ rfl HR.out ?_ ?_))
    · intro hc0 hl0
      rcases HW.out.2 with ⟨hnil, _⟩ | ⟨g', cap, cur, rfl, hbase, hb, h1, h2, h3, h4⟩
      · exact absurd hnil HN.out
      have hH : Holds (Value.int .i64) wr g' 0 zs.toArray := holds_of_blockI hb (by simpa using h4)
      have hgl : g' < wr.heap.size := (Array.getElem?_eq_some_iff.1 hb).1
      have hc := sort_any g' 0 cap zs wr hH hgl (by omega)
      have hst := HC.out.sorted HD.out hl0
      rw [hst] at hc
      have hlen : zs.length = D.pend.length := by
        have := congrArg List.length hst
        simpa using this
      have HF : Hid (∀ nn os, (grow (putRow (Value.int .i64) (Sort.ahead wr nn) g' 0 (D.pend.map (fun k : Nat => (k : Int))).toArray) os).ownsRow w.heap.size 3 1 (.slice (some ⟨g', 0, none⟩) D.pend.length cap) D.pend.length (icells D.pend)
          ∧ Only (fun _ => False) w (grow (putRow (Value.int .i64) (Sort.ahead wr nn) g' 0 (D.pend.map (fun k : Nat => (k : Int))).toArray) os)) := by
        intro nn os
        constructor
        · have := ownsRow_sortedI (n := nn) (os := os) (ss := zs) (ts := D.pend.map (fun k : Nat => (k : Int))) (by simp [hlen]) hbase hb h1 h2 h3
          rw [hlen] at this
          simpa [icells, List.map_map, Function.comp_def] using this
        · refine HO.out.trans (Only.grown (S := fun i => i = g') (grownBy_sortedI _) (fun k hk => by cases hk; rfl)) (fun i hi e => ?_)
          omega
      have HLen := hide hlen
      clear hst hlen hH hb h1 h2 h3 h4
      go_wp2_with (go_at_call 38; refine hc.mono ?_; rintro e w' ⟨rfl, nn, os, rfl⟩)
      go_ret
      exact ⟨g', cap, by rw [← HLen.out]; rfl, (HF.out nn os).1, (HF.out nn os).2⟩
    · intro x c kl yd yp w2 cnt2 hkey hlk hv hat hrg2 hcl hg2 hs2 hen
      have hhas := Maps.has_true_of_atKey hat
      obtain ⟨k, hk, rfl, rfl, hf, hc64⟩ := entry_is HD.out hkey hv hat
      have hrow2 := HW.out.kept hg2 (Or.inr (row_ne_iter HW.out HR.out).symm)
      have hC2 := hide (HC.out.step hlk hhas)
      have hgs := hg2.size
      have HR2 := hide hrg2
      have HG2 := hide hg2
      have HW2 := hide hrow2
      have HM : Hid (cnt2 < cnt) := hcl
      have hos := HO.out.size
      clear hkey hlk hv hat hrg2 hg2 hs2 hrow2 hhas
      go_wp2_with (first
        | (at_builtin; go_must (refine wpList_append_own_at _ rfl _ _ 34 rfl w.heap.size 3 i0 (.int .i64 0) 1 8 Try.underlying34 hi hz0 hz1 hz2 rfl (by decide) _ _ _ rfl (HW2.out.alloc _) ⟨w2.heap.size, 0, none⟩ 1 1 [.int .i64 (k : Int)] rfl rfl (cell_one_new _ _ _) (by simp [Value.oneCell']) (by unfold maxLen at *; omega) (by omega) (by simp; omega) ?_); intro v' w3 hown' hg3 hnil3 hloc; go_frame))
      have hrg3 := (HR2.out.alloc _).kept hg3 (row_ne_low HW2.out hml) (row_ne_iter HW2.out HR2.out)
      go_roundw
      case rel =>
        refine ⟨_, cnt2, zs ++ [(k : Int)], hide hrg3, by simp; omega, hide (by simpa using hown'), hide (fun hv' => by have := (hnil3.1 hv').2; omega), hC2, hide ?_, by have := hg3.size; simp at this; omega⟩
        refine ((HO.out.trans (Only.grown (S := fun i => i = r) HG2.out (fun i hi => by cases hi; rfl)) (fun i hi e => by omega)).trans (Only.alloc (fun _ => False) _ _) (fun _ _ h => h)).trans (Only.grown (S := fun i => w.heap.size ≤ i) hg3 (fun i hi => (HW2.out.lt i hi).1)) (fun i hi e => by omega)
      case measure => rw [hrg3.left_eq, HR.out.left_eq]; exact HM.out
end Go.Proofs.Ytachbonlakbjmaa
