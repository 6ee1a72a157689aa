/- Lists that are lent, with marked room behind them. -/
import Derived.Test.YtachbonlakbjmaaDHelp
import Derived.Laws.OwnMore
namespace Go.Proofs.Ytachbonlakbjmaa
open Go.RowKit

def zcells (l : List Int) : List Value := l.map (Value.int .i64)
theorem zcells_length (l : List Int) : (zcells l).length = l.length := by simp [zcells]
theorem zcells_append (l m : List Int) : zcells (l ++ m) = zcells l ++ zcells m := by simp [zcells]
def mark : Int := -7770777
set_option maxRecDepth 100000 in
set_option maxHeartbeats 800000 in
theorem lent_some (w : World) (ad : Addr) (cp : Nat) (l : List Int) (hc : ∀ j u, (zcells l)[j]? = some u → w.cell? (ad.add j) = some u) (hn : l.length ≤ 17592186043904) :
    Calls Try.prog 23 #[.slice (some ad) l.length cp] w fun e w' => ∃ g cap, e = .returned (.slice (some ⟨g, 0, none⟩) l.length cap) ∧ w'.ownsRow w.heap.size 3 1 (.slice (some ⟨g, 0, none⟩) (l.length + 4) cap) (l.length + 4) (zcells (l ++ List.replicate 4 mark)) ∧ Only (fun _ => False) w w' := by
  obtain ⟨i0, hi, hz0, hz1, hz2⟩ := info_parts Try.infoInt
  have hnews : ∀ w', Only (fun _ => False) w w' → ∀ j u, (zcells l)[j]? = some u → w'.cell? (ad.add j) = some u := by
    intro w' ho j u hu
    have hcj := hc j u hu
    exact (ho.cell (p := ad.add j) (World.block_lt_of_cell? w _ hcj) (fun h => h)).trans hcj
  have HNW := hide hnews
  clear hnews hc
  go_enter Try.func23, Try.ntmps23
  go_wp2_with (first
    | (at_make; refine wpList_make_own _ rfl _ _ 34 rfl w.heap.size 3 i0 (.int .i64 0) 1 Try.underlying34 hi hz0 hz1 .i64 .i64 _ (l.length + 4) rfl rfl (by omega) (by rw [hz2]; omega) (by unfold maxLen; omega) (Nat.le_refl _) ?_; intro w1 hw1 hg1; have hO1 : Only (fun _ => False) w w1 := Only.grown hg1 (fun k hk => by cases hk))
    | (at_builtin; go_must (refine wpList_append_own_at _ rfl (.tmp 9) (.tmp 10) 34 rfl w.heap.size 3 i0 (.int .i64 0) 1 8 Try.underlying34 hi hz0 hz1 hz2 rfl (by decide) _ _ _ rfl hw1 ad l.length cp (zcells l) rfl (by simp [zcells]) (HNW.out w1 hO1) (by intro u hu; obtain ⟨z, _, rfl⟩ := List.mem_map.1 hu; rfl) (by unfold maxLen; omega) (by omega) hO1.size ?_); intro v2 w2 hw2 hg2 hn2 hl2; obtain ⟨ao2, ln2, cp2, rfl⟩ := owns_form hw2))
  have HW2 : Hid (w2.ownsRow w.heap.size 3 1 (.slice ao2 ln2 cp2) (l.length + 0) (zcells (l ++ List.replicate 0 mark))) := by
    unfold Hid
    simpa using hw2
  have HO2 : Hid (Only (fun _ => False) w w2) := hO1.trans (Only.grown (S := fun k => w.heap.size ≤ k) hg2 (fun k hk => (hw1.lt k hk).1)) (fun k hk e => by omega)
  clear hw1 hg1 hO1 hw2 hg2 hn2 hl2 HNW
  go_loopw [3, 4] (fun v y wr => ∃ (j : Nat), j ≤ 4 ∧ y = .int .i64 (j : Int) ∧ Hid (wr.ownsRow w.heap.size 3 1 v (l.length + j) (zcells (l ++ List.replicate j mark))) ∧ Hid (Only (fun _ => False) w wr)) (fun _ y _ => 4 - (intOf y).toNat)
  case atStart => exact ⟨0, by omega, rfl, HW2, HO2⟩
  case round =>
    obtain ⟨j, hj, rfl, HW, HO⟩ := hrel
    have hws := HO.out.size
    by_cases hlt : j < 4
    · go_wp2_with (first
        | (at_builtin; go_must (refine wpList_append_own_at _ rfl (.tmp 16) (.tmp 17) 34 rfl w.heap.size 3 i0 (.int .i64 0) 1 8 Try.underlying34 hi hz0 hz1 hz2 rfl (by decide) _ _ _ rfl (HW.out.alloc _) ⟨wr.heap.size, 0, none⟩ 1 1 [.int .i64 (-7770777)] rfl rfl (cell_one_new _ _ _) (by simp [Value.oneCell']) (by unfold maxLen; omega) (by omega) (by simp; omega) ?_); intro v3 w3 hw3 hg3 hn3 hl3; go_frame))
      have HX : Hid (w3.ownsRow w.heap.size 3 1 v3 (l.length + (j + 1)) (zcells (l ++ List.replicate (j + 1) mark)) ∧ Only (fun _ => False) w w3) := by
        refine ⟨?_, (HO.out.trans (Only.alloc (fun _ => False) _ _) (fun _ _ h => h)).trans (Only.grown (S := fun k => w.heap.size ≤ k) hg3 (fun k hk => (HW.out.lt k hk).1)) (fun k hk e => by omega)⟩
        have e : zcells (l ++ List.replicate (j + 1) mark) = zcells (l ++ List.replicate j mark) ++ [.int .i64 (-7770777)] := by
          rw [List.replicate_succ', ← List.append_assoc, zcells_append]
          rfl
        rw [e]
        exact hw3
      go_roundw
      case rel => exact ⟨j + 1, by omega, by go_num, hide HX.out.1, hide HX.out.2⟩
      case measure => simp [intOf]; omega
    · have ej : j = 4 := by omega
      subst ej
      rcases HW.out.2 with ⟨_, h0'⟩ | ⟨g, cap, cur, hv, hb, hg, hnc, hcm, hcs, htk⟩
      · omega
      · subst hv
        have hle : (l.length : Int) ≤ (cap : Int) := by omega
        have hl0 : (0 : Int) ≤ (l.length : Int) := by omega
        have hcap : ¬ cap = 0 := by omega
        clear hg hcs htk
        go_wp2_with fail
        go_ret
        exact ⟨g, cap, rfl, HW.out, HO.out⟩
set_option maxRecDepth 100000 in
set_option maxHeartbeats 800000 in
theorem lent_none (w : World) :
    Calls Try.prog 23 #[.slice none 0 0] w fun e w' => ∃ g cap, e = .returned (.slice (some ⟨g, 0, none⟩) 0 cap) ∧ w'.ownsRow w.heap.size 3 1 (.slice (some ⟨g, 0, none⟩) (0 + 4) cap) (0 + 4) (zcells ([] ++ List.replicate 4 mark)) ∧ Only (fun _ => False) w w' := by
  obtain ⟨i0, hi, hz0, hz1, hz2⟩ := info_parts Try.infoInt
  go_enter Try.func23, Try.ntmps23
  go_wp2_with (first
    | (at_make; refine wpList_make_own _ rfl _ _ 34 rfl w.heap.size 3 i0 (.int .i64 0) 1 Try.underlying34 hi hz0 hz1 .i64 .i64 _ 4 rfl rfl (by omega) (by rw [hz2]; omega) (by unfold maxLen; omega) (Nat.le_refl _) ?_; intro w2 hw2 hg1; have hO1 : Only (fun _ => False) w w2 := Only.grown hg1 (fun k hk => by cases hk)))
  have HW2 : Hid (w2.ownsRow w.heap.size 3 1 (.slice (some ⟨w.heap.size, 0, none⟩) 0 4) (0 + 0) (zcells (([] : List Int) ++ List.replicate 0 mark))) := by
    exact hide hw2
  have HO2 : Hid (Only (fun _ => False) w w2) := hO1
  clear hg1 hO1 hw2
  go_loopw [3, 4] (fun v y wr => ∃ (j : Nat), j ≤ 4 ∧ y = .int .i64 (j : Int) ∧ Hid (wr.ownsRow w.heap.size 3 1 v (0 + j) (zcells (([] : List Int) ++ List.replicate j mark))) ∧ Hid (Only (fun _ => False) w wr)) (fun _ y _ => 4 - (intOf y).toNat)
  case atStart => exact ⟨0, by omega, rfl, HW2, HO2⟩
  case round =>
    obtain ⟨j, hj, rfl, HW, HO⟩ := hrel
    have hws := HO.out.size
    by_cases hlt : j < 4
    · go_wp2_with (first
        | (at_builtin; go_must (refine wpList_append_own_at _ rfl (.tmp 16) (.tmp 17) 34 rfl w.heap.size 3 i0 (.int .i64 0) 1 8 Try.underlying34 hi hz0 hz1 hz2 rfl (by decide) _ _ _ rfl (HW.out.alloc _) ⟨wr.heap.size, 0, none⟩ 1 1 [.int .i64 (-7770777)] rfl rfl (cell_one_new _ _ _) (by simp [Value.oneCell']) (by unfold maxLen; omega) (by omega) (by simp; omega) ?_); intro v3 w3 hw3 hg3 hn3 hl3; go_frame))
      have HX : Hid (w3.ownsRow w.heap.size 3 1 v3 (0 + (j + 1)) (zcells (([] : List Int) ++ List.replicate (j + 1) mark)) ∧ Only (fun _ => False) w w3) := by
        refine ⟨?_, (HO.out.trans (Only.alloc (fun _ => False) _ _) (fun _ _ h => h)).trans (Only.grown (S := fun k => w.heap.size ≤ k) hg3 (fun k hk => (HW.out.lt k hk).1)) (fun k hk e => by omega)⟩
        have e : zcells (([] : List Int) ++ List.replicate (j + 1) mark) = zcells (([] : List Int) ++ List.replicate j mark) ++ [.int .i64 (-7770777)] := by
          rw [List.replicate_succ', ← List.append_assoc, zcells_append]
          rfl
        rw [e]
        exact hw3
      go_roundw
      case rel => exact ⟨j + 1, by omega, by go_num, hide HX.out.1, hide HX.out.2⟩
      case measure => simp [intOf]; omega
    · have ej : j = 4 := by omega
      subst ej
      rcases HW.out.2 with ⟨_, h0'⟩ | ⟨g, cap, cur, hv, hb, hg, hnc, hcm, hcs, htk⟩
      · omega
      · subst hv
        have hle : (0 : Int) ≤ (cap : Int) := by omega
        have hcap : ¬ cap = 0 := by omega
        clear hg hcs htk
        go_wp2_with fail
        go_ret
        exact ⟨g, cap, rfl, HW.out, HO.out⟩
/-- A list that is lent, whatever it is. -/
theorem lent_any (w : World) (B : Nat) (ao : Option Addr) (cp : Nat) (l : List Int) (h : Ints w B ao l) (hnil : ao = none → cp = 0) (hn : l.length ≤ 17592186043904) :
    Calls Try.prog 23 #[.slice ao l.length cp] w fun e w' => ∃ g cap, e = .returned (.slice (some ⟨g, 0, none⟩) l.length cap) ∧ w'.ownsRow w.heap.size 3 1 (.slice (some ⟨g, 0, none⟩) (l.length + 4) cap) (l.length + 4) (zcells (l ++ List.replicate 4 mark)) ∧ Only (fun _ => False) w w' := by
  cases ao with
  | none =>
    have hl : l = [] := by
      cases l with
      | nil => rfl
      | cons z r =>
        obtain ⟨o, e, _⟩ := h.at_ (by simp)
        cases e
    obtain rfl := hnil rfl
    subst hl
    exact lent_none w
  | some ad =>
    refine lent_some w ad cp l (fun j u hu => ?_) hn
    have hj : j < l.length := by
      have := (List.getElem?_eq_some_iff.1 hu).1
      simpa [zcells] using this
    obtain ⟨o, e, hc⟩ := h.at_ (by omega)
    cases e
    rw [Addr.add_mid, hc j hj, ← hu]
    simp [zcells, List.getD_eq_getElem?_getD, hj]
end Go.Proofs.Ytachbonlakbjmaa
