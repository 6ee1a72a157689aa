/- The document's disk: Pending, New. -/
import Derived.Test.YtachbonlakbjmaaDRefD
namespace Go.Proofs.Ytachbonlakbjmaa
open Go.RowKit

theorem icells_length (l : List Nat) : (icells l).length = l.length := by simp [icells]
set_option maxRecDepth 100000 in
set_option maxHeartbeats 800000 in
theorem xpending_any (w : World) (x a b c ka kb kc : Nat) (D : Dk) (h : Xd w x a b c ka kb kc D) :
    Calls Try.prog 27 #[.pointer (some ⟨x, 0, none⟩)] w fun e w' => ∃ v, e = .returned v ∧ w'.ownsRow w.heap.size 3 1 v D.pend.length (icells D.pend) ∧ Only (fun _ => False) w w' := by
  obtain ⟨i0, hi, hz0, hz1, hz2⟩ := info_parts Try.infoInt
  have h64 := h.ok.hi
  have H := hide h
  obtain ⟨n, hn⟩ : ∃ n, D.old.length = n := ⟨_, rfl⟩
  have HN := hide hn
  rw [hn] at h64
  clear h hn
  go_enter Try.func27, Try.ntmps27
  go_wp2_with fail
  go_loopw [3, 4] (fun v y wr => ∃ (i : Nat) (l : List Nat), i ≤ n ∧ y = .int .i64 (i : Int) ∧ l.length ≤ i ∧ Hid (l = (List.range i).filter fun k => (D.fresh k).isSome) ∧ Hid (wr.ownsRow w.heap.size 3 1 v l.length (icells l)) ∧ Hid (Only (fun _ => False) w wr)) (fun _ y _ => n - (intOf y).toNat)
  case atStart => exact ⟨0, [], by omega, rfl, by simp, hide rfl, hide (World.ownsRow_nil _ _ _ _), hide (Only.refl _ _)⟩
  case round =>
    obtain ⟨i, l, hil0, rfl, hll, HL, HW, HO⟩ := hrel
    have hX := H.out.same HO.out
    have hc2 := hX.c2
    rw [HN.out] at hc2
    by_cases hil : i < n
    · have hcc := hX.rc.cell (k := i) (by rw [HN.out]; exact hil)
      have hi0 : (0 : Int) ≤ (i : Int) := by omega
      have hi1 : (i : Int) < (n : Int) := by omega
      have hws := HO.out.size
      cases hf : (D.fresh i).isSome
      · simp only [hf] at hcc
        have HF : Hid (l = (List.range (i + 1)).filter fun k => (D.fresh k).isSome) := by unfold Hid; rw [List.range_succ, List.filter_append, ← HL.out]; simp [hf]
        clear hX hf
        go_wp2_with fail
        go_roundw
        case rel => exact ⟨i + 1, l, by omega, by go_num, by omega, HF, HW, HO⟩
        case measure => simp [intOf]; omega
      · simp only [hf] at hcc
        have HF : Hid (l ++ [i] = (List.range (i + 1)).filter fun k => (D.fresh k).isSome) := by unfold Hid; rw [List.range_succ, List.filter_append, ← HL.out]; simp [hf]
        clear hX hf
        go_wp2_with (first
          | (at_builtin; go_must (refine wpList_append_own_at _ rfl _ _ 34 rfl w.heap.size 3 i0 (.int .i64 0) 1 8 Try.underlying34 hi hz0 hz1 hz2 rfl (by decide) _ _ _ rfl (HW.out.alloc _) ⟨wr.heap.size, 0, none⟩ 1 1 [.int .i64 (i : Int)] rfl rfl (cell_one_new _ _ _) (by simp [Value.oneCell']) (by unfold maxLen; omega) (by omega) (by simp; omega) ?_); intro v' w3 hown' hg3 hnil3 hloc; go_frame))
        have HX : Hid (w3.ownsRow w.heap.size 3 1 v' (l ++ [i]).length (icells (l ++ [i])) ∧ Only (fun _ => False) w w3) := by
          refine ⟨?_, (HO.out.trans (Only.alloc (fun _ => False) _ _) (fun _ _ h => h)).trans (Only.grown (S := fun k => w.heap.size ≤ k) hg3 (fun k hk => (HW.out.lt k hk).1)) (fun k hk e => by omega)⟩
          simpa [icells] using hown'
        go_roundw
        case rel => exact ⟨i + 1, l ++ [i], by omega, by go_num, by simp; omega, HF, hide HX.out.1, hide HX.out.2⟩
        case measure => simp [intOf]; omega
    · have ei : i = n := by omega
      have HP : Hid (l = D.pend) := by unfold Hid Dk.pend; rw [HL.out, ei, HN.out]
      clear ei hX
      go_wp2_with fail
      go_ret
      refine ⟨_, rfl, ?_, HO.out⟩
      rw [← HP.out]
      exact HW.out
/-- A row that the call owns, by its places. -/
theorem frow_of_owns {w : World} {base g n cap : Nat} {e : TypeId} {xs : List Value} {f : Nat → Value} (h : w.ownsRow base e 1 (.slice (some ⟨g, 0, none⟩) n cap) n xs) (hf : ∀ k, k < n → xs[k]? = some (f k)) : FRow w g e n f := by
  rcases h.2 with ⟨h0, _⟩ | ⟨g', cap', cur, hv, _, hb, hn, _, hs, ht⟩
  · cases h0
  · cases hv
    refine ⟨cur, hb, fun k hk => ?_⟩
    rw [← Array.getElem?_toList, ← hf k hk]
    rw [Nat.mul_one] at ht
    rw [← ht, List.getElem?_take_of_lt hk]
theorem xnew_bad (w : World) (n : Int) (h : n < 1 ∨ 65536 < n) : Calls Try.prog 6 #[.int .i64 n] w fun e w' => e = .returned (.tuple #[.pointer none, .int .i64 1]) ∧ w' = w := by
  rcases h with h | h
  · go_enter Try.func6, Try.ntmps6
    go_wp2
    go_ret2
    exact ⟨rfl, rfl⟩
  · go_enter Try.func6, Try.ntmps6
    go_wp2
    go_ret2
    exact ⟨rfl, rfl⟩
end Go.Proofs.Ytachbonlakbjmaa
