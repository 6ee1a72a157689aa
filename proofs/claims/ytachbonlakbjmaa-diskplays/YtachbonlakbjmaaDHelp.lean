/- What the laws share: lists that are the same; what an act writes. -/
import Derived.Test.YtachbonlakbjmaaDRefG
namespace Go.Proofs.Ytachbonlakbjmaa
open Go.RowKit

/-- Numbers that a call owns, as a list that a slice leads to. -/
theorem ints_of_owns {w : World} {base : Nat} {v : Value} {l : List Nat} (h : w.ownsRow base 3 1 v l.length (icells l)) (hl : ∀ k ∈ l, k < 65536) (hn : l.length ≤ 65536) : ∃ B ao cp, v = .slice ao (l.map fun k : Nat => (k : Int)).length cp ∧ Ints w B ao (l.map fun k : Nat => (k : Int)) ∧ (0 < l.length → base ≤ B ∧ v.ownBlock = some B) := by
  rcases h.2 with ⟨rfl, h0⟩ | ⟨g, cap, cur, rfl, hb, hg, _⟩
  · have e : l = [] := List.eq_nil_of_length_eq_zero h0
    subst e
    exact ⟨0, none, 0, rfl, ⟨fun h => absurd h (by simp), fun j h => absurd h (by simp), fun h => absurd h (by simp), by simp⟩, fun h => absurd h (by simp)⟩
  · refine ⟨g, some ⟨g, 0, none⟩, cap, by simp, ⟨fun _ => ⟨0, rfl, fun j hj => ?_⟩, fun j hj => ?_, fun _ => (Array.getElem?_eq_some_iff.1 hg).1, by simp; omega⟩, fun _ => ⟨hb, rfl⟩⟩
    · have hj' : j < l.length := by simpa using hj
      have hc := h.cellAt j (by omega)
      simp only [Nat.zero_add]
      rw [hc]
      simp [icells, List.getD_eq_getElem?_getD, hj']
    · have hj' : j < l.length := by simpa using hj
      have hm := hl l[j] (List.getElem_mem hj')
      simp only [List.getD_eq_getElem?_getD, List.getElem?_map, List.getElem?_eq_getElem hj', Option.map_some, Option.getD_some]
      omega
set_option maxRecDepth 100000 in
set_option maxHeartbeats 800000 in
theorem sameInts_true (w : World) (B1 B2 c1 c2 : Nat) (a1 a2 : Option Addr) (l : List Int) (h1 : Ints w B1 a1 l) (h2 : Ints w B2 a2 l) :
    Calls Try.prog 26 #[.slice a1 l.length c1, .slice a2 l.length c2] w fun e w' => e = .returned (.bool true) ∧ Only (fun _ => False) w w' := by
  have hlen := h1.len
  have H1 := hide h1
  have H2 := hide h2
  clear h1 h2
  go_enter Try.func26, Try.ntmps26
  go_wp2_with fail
  go_loopw [5] (fun y wr => ∃ (j : Nat), j ≤ l.length ∧ y = .int .i64 (j : Int) ∧ Hid (Only (fun _ => False) w wr)) (fun y _ => l.length - (intOf y).toNat)
  case atStart => exact ⟨0, by omega, rfl, hide (Only.refl _ _)⟩
  case round =>
    obtain ⟨j, hj, rfl, HO⟩ := hrel
    by_cases hlt : j < l.length
    · obtain ⟨o1, e1, q1⟩ := (H1.out.kept HO.out (fun _ h => h)).at_ (by omega)
      obtain ⟨o2, e2, q2⟩ := (H2.out.kept HO.out (fun _ h => h)).at_ (by omega)
      have k1 := q1 j hlt
      have k2 := q2 j hlt
      obtain ⟨z, hz⟩ : ∃ z, l.getD j 0 = z := ⟨_, rfl⟩
      rw [hz] at k1 k2
      have hj0 : (0 : Int) ≤ (j : Int) := by omega
      have hj1 : (j : Int) < (l.length : Int) := by omega
      clear q1 q2 hz
      subst e1
      subst e2
      go_wp2_with fail
      go_region
      go_wp2_with fail
      go_roundw
      case rel => exact ⟨j + 1, by omega, by go_num, hide (HO.out.trans (Only.drew _ _) (fun _ _ h => h))⟩
      case measure => simp [intOf]; omega
    · go_wp2_with fail
      go_ret
      exact ⟨rfl, HO.out⟩
end Go.Proofs.Ytachbonlakbjmaa
