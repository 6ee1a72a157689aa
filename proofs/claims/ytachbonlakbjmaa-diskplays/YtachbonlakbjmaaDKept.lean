/- A list that was lent is as it was. -/
import Derived.Test.YtachbonlakbjmaaDLent
namespace Go.Proofs.Ytachbonlakbjmaa
open Go.RowKit

theorem lent_ints {w : World} {base g cap : Nat} {l : List Int} (h : w.ownsRow base 3 1 (.slice (some ⟨g, 0, none⟩) (l.length + 4) cap) (l.length + 4) (zcells (l ++ List.replicate 4 mark))) (hw : ∀ j, j < l.length → -9223372036854775808 ≤ l.getD j 0 ∧ l.getD j 0 < 9223372036854775808) (hl : l.length < 9223372036854775808) :
    Ints w g (some ⟨g, 0, none⟩) l ∧ (∀ j, j < 4 → w.cell? ⟨g, l.length + j, none⟩ = some (.int .i64 (-7770777))) ∧ l.length + 4 ≤ cap ∧ cap ≤ maxLen := by
  have hg : g < w.heap.size := (h.lt g rfl).2
  refine ⟨⟨fun _ => ⟨0, rfl, fun j hj => ?_⟩, hw, fun _ => hg, hl⟩, fun j hj => ?_, ?_⟩
  · rw [Nat.zero_add, h.cellAt j (by omega), zcells_append, List.getElem?_append_left (by rw [zcells_length]; exact hj)]
    simp [zcells, List.getD_eq_getElem?_getD, hj]
  · rw [h.cellAt (l.length + j) (by omega)]
    match j, hj with
    | 0, _ => simp [zcells, mark]
    | 1, _ => simp [zcells, mark]
    | 2, _ => simp [zcells, mark]
    | 3, _ => simp [zcells, mark]
  · rcases h.2 with ⟨h0, _⟩ | ⟨g', cap', cur, hv, _, _, hn, hm, _⟩
    · cases h0
    · cases hv
      exact ⟨hn, hm⟩
set_option maxRecDepth 100000 in
set_option maxHeartbeats 800000 in
theorem kept_true (w : World) (base g cap B c2 : Nat) (a2 : Option Addr) (l : List Int) (h : w.ownsRow base 3 1 (.slice (some ⟨g, 0, none⟩) (l.length + 4) cap) (l.length + 4) (zcells (l ++ List.replicate 4 mark))) (h2 : Ints w B a2 l) (hn : l.length ≤ 17592186043904) :
    Calls Try.prog 24 #[.slice (some ⟨g, 0, none⟩) l.length cap, .slice a2 l.length c2] w fun e w' => e = .returned (.bool true) ∧ Only (fun _ => False) w w' := by
  obtain ⟨h1, hm, hcap, hcm⟩ := lent_ints h h2.wf h2.len
  have hsi := sameInts_true w g B cap c2 (some ⟨g, 0, none⟩) a2 l h1 h2
  have HM := hide hm
  unfold maxLen at hcm
  clear h h1 h2 hm
  have hc0 : (0 : Int) ≤ (l.length : Int) + 4 := by omega
  have hc1 : (l.length : Int) + 4 ≤ (cap : Int) := by omega
  go_enter Try.func24, Try.ntmps24
  go_wp2_with fail
  refine hsi.mono ?_
  rintro e w1 ⟨rfl, hO1⟩
  have HO1 := hide hO1
  clear hO1 hsi
  go_wp2_with fail
  go_loopw [6] (fun y wr => ∃ (j : Nat), j ≤ 4 ∧ y = .int .i64 ((l.length + j : Nat) : Int) ∧ Hid (Only (fun _ => False) w wr)) (fun y _ => l.length + 4 - (intOf y).toNat)
  case atStart => exact ⟨0, by omega, by go_num, HO1⟩
  case round =>
    obtain ⟨j, hj, rfl, HO⟩ := hrel
    by_cases hlt : j < 4
    · have hcj := (HO.out.cell (p := ⟨g, l.length + j, none⟩) (World.block_lt_of_cell? w _ (HM.out j hlt)) (fun h => h)).trans (HM.out j hlt)
      obtain ⟨k, hk⟩ : ∃ k, l.length + j = k := ⟨_, rfl⟩
      rw [hk] at hcj
      have hkI : (l.length : Int) + (j : Int) = (k : Int) := by omega
      have hk0 : (0 : Int) ≤ (k : Int) := by omega
      have hk1 : (k : Int) < (l.length : Int) + 4 := by omega
      go_wp2_with fail
      go_roundw
      case rel => exact ⟨j + 1, by omega, by go_num, HO⟩
      case measure => simp [intOf]; omega
    · go_wp2_with fail
      go_ret
      exact ⟨rfl, HO.out⟩
end Go.Proofs.Ytachbonlakbjmaa
