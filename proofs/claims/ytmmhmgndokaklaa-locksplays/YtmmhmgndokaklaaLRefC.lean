/- What the document's Held, Waiting and Release do. -/
import Derived.Test.YtmmhmgndokaklaaLRefB
namespace Go.Proofs.Ytmmhmgndokaklaa
open Go.RowKit Go.Maps

theorem irow_one {w : World} {base : Nat} {v : Value} {L : List Int} (h : IRow w base v L) (x : Int) (hn : L.length + 1 ≤ 4398046511105) (hb : base ≤ w.heap.size) (c : Nat) :
    ∃ v' w', (Builtin.append_ #[31, 31] 31 #[v, .slice (some ⟨w.heap.size, 0, none⟩) 1 c]).run Try.prog (w.alloc (.cells #[.int .i64 x] 3)) = .ok v' w' ∧ IRow w' base v' (L ++ [x]) ∧ (w.alloc (.cells #[.int .i64 x] 3)).grownBy w' v.ownBlock ∧ (v'.ownBlock = v.ownBlock ∨ v'.ownBlock = some (w.heap.size + 1)) := by
  obtain ⟨i0, hi, hz0, hz1, hz2⟩ := info_parts Try.infoInt
  obtain ⟨v', w', hr, ho, hg, _, hloc⟩ := run_append_own_at (P := Try.prog) (w.alloc (.cells #[.int .i64 x] 3)) base 31 31 3 i0 (.int .i64 0) 1 8 Try.underlying31 hi hz0 hz1 hz2 rfl (by decide) v L.length (L.map iv) (World.ownsRow.alloc h _) ⟨w.heap.size, 0, none⟩ 1 c [.int .i64 x] rfl (cell_one_new _ _ _) (by simp [Value.oneCell']) (by unfold maxLen; omega) (by omega) (by simp; omega)
  refine ⟨v', w', hr, ?_, hg, ?_⟩
  · unfold IRow
    rw [List.length_append, List.map_append]
    exact ho
  · simpa using hloc
theorem srow_one {w : World} {base : Nat} {v : Value} {L : List ByteArray} (h : SRow w base v L) (x : ByteArray) (hn : L.length + 1 ≤ 4398046511105) (hb : base ≤ w.heap.size) (c : Nat) :
    ∃ v' w', (Builtin.append_ #[41, 41] 41 #[v, .slice (some ⟨w.heap.size, 0, none⟩) 1 c]).run Try.prog (w.alloc (.cells #[.string x] 9)) = .ok v' w' ∧ SRow w' base v' (L ++ [x]) ∧ (w.alloc (.cells #[.string x] 9)).grownBy w' v.ownBlock ∧ (v'.ownBlock = v.ownBlock ∨ v'.ownBlock = some (w.heap.size + 1)) := by
  obtain ⟨i0, hi, hz0, hz1, hz2⟩ := info_parts Try.infoStr
  obtain ⟨v', w', hr, ho, hg, _, hloc⟩ := run_append_own_at (P := Try.prog) (w.alloc (.cells #[.string x] 9)) base 41 41 9 i0 (.string ⟨#[]⟩) 1 16 Try.underlying41 hi hz0 hz1 hz2 rfl (by decide) v L.length (L.map sv) (World.ownsRow.alloc h _) ⟨w.heap.size, 0, none⟩ 1 c [.string x] rfl (cell_one_new _ _ _) (by simp [Value.oneCell']) (by unfold maxLen; omega) (by omega) (by simp; omega)
  refine ⟨v', w', hr, ?_, hg, ?_⟩
  · unfold SRow
    rw [List.length_append, List.map_append]
    exact ho
  · simpa using hloc
theorem hrow_oneL {w : World} {base : Nat} {v : Value} {L : List (ByteArray × Int)} (h : HRow w base v L) (k : ByteArray) (x : Int) (hn : L.length + 1 ≤ 4398046511105) (hb : base ≤ w.heap.size) (c : Nat) :
    ∃ v' w', (Builtin.append_ #[25, 25] 25 #[v, .slice (some ⟨w.heap.size, 0, none⟩) 1 c]).run Try.prog (w.alloc (.cells #[.string k, .int .i64 x] 55)) = .ok v' w' ∧ HRow w' base v' (L ++ [(k, x)]) ∧ (w.alloc (.cells #[.string k, .int .i64 x] 55)).grownBy w' v.ownBlock ∧ (v'.ownBlock = v.ownBlock ∨ v'.ownBlock = some (w.heap.size + 1)) := by
  obtain ⟨v', w', h1, h2, h3, h4⟩ := hrow_append (h.kept (Only.alloc (fun _ => False) w (.cells #[.string k, .int .i64 x] 55)) (fun _ _ => id)) (hsrc_new w k x 55) hn (by simp; omega) c
  exact ⟨v', w', h1, h2, h3, by simpa using h4⟩
theorem grown_only {w w' : World} {o : Obj} {base : Nat} {ob : Option Nat} (hg : (w.alloc o).grownBy w' ob) (hb : ∀ b, ob = some b → base ≤ b) : Only (fun i => base ≤ i) w w' :=
  (Only.alloc (fun i => base ≤ i) w o).trans (Only.grown (S := fun i => base ≤ i) hg hb) (fun _ _ e => e)
theorem HIs.held {T : Tb} {L : List (ByteArray × Int)} (h : HIs T L) (who : Int) : HeldIs T who ((L.filter (fun p => p.2 == who)).map (·.1)) := by
  refine ⟨?_, fun k => ?_⟩
  · exact List.pairwise_map.2 (h.up.sublist List.filter_sublist)
  · rw [List.mem_map]
    constructor
    · rintro ⟨⟨k', b⟩, hp, rfl⟩
      obtain ⟨h1, h2⟩ := List.mem_filter.1 hp
      simp at h2
      subst h2
      exact (h.mem k' b).1 h1
    · intro e
      exact ⟨(k, who), List.mem_filter.2 ⟨(h.mem k who).2 e, by simp⟩, rfl⟩
theorem WIs.waiting {T : Tb} {L : List (ByteArray × Int)} (h : WIs T L) : WaitIs T (L.map (·.2)) := by
  refine ⟨List.pairwise_map.2 h.up, fun a => ?_⟩
  rw [List.mem_map]
  constructor
  · rintro ⟨⟨k, b⟩, hp, rfl⟩
    exact ⟨k, (h.mem k b).1 hp⟩
  · rintro ⟨k, hk⟩
    exact ⟨(k, a), (h.mem k a).2 hk, rfl⟩
set_option maxRecDepth 100000 in
set_option maxHeartbeats 1600000 in
theorem jheld_any (w : World) (r base n : Nat) (T : Tb) (aH aW : Option Addr) (cH cW : Nat) (HL WL : List (ByteArray × Int)) (H : Rt w r base n T aH aW cH cW HL WL) (hn : n ≤ 4398046511104) (who : Int) :
    Calls Try.prog 20 #[.pointer (some ⟨r, 0, none⟩), .int .i64 who] w fun e w' => ∃ v L, e = .returned v ∧ HeldIs T who L ∧ SRow w' w.heap.size v L ∧ L.length ≤ n ∧ Only (fun _ => False) w w' := by
  have c0 := H.c0
  have hlen := H.hn
  have HH := hide H
  clear H
  go_enter Try.func20, Try.ntmps20
  go_wp2_with fail
  go_loopw [5, 6] (fun v y wr => ∃ j : Nat, j ≤ HL.length ∧ y = .int .i64 (j : Int) ∧ Hid (SRow wr w.heap.size v (((HL.take j).filter (fun p => p.2 == who)).map (·.1))) ∧ Hid (Only (fun _ => False) w wr)) (fun _ y _ => HL.length - (intOf y).toNat)
  case atStart => exact ⟨0, by omega, rfl, hide (SRow.nil _ _), hide (Only.refl _ _)⟩
  case round =>
    obtain ⟨j, hj, rfl, HV, HO⟩ := hrel
    have HHr := hide (HH.out.more HO.out)
    have c0r := HHr.out.c0
    by_cases hlt : j < HL.length
    · obtain ⟨g, e1, _, _, _, k1, k2⟩ := HHr.out.h.at_ hlt
      have hft := filter_take (fun p : ByteArray × Int => p.2 == who) hlt
      obtain ⟨x, hx⟩ : ∃ x, HL[j].1 = x := ⟨_, rfl⟩
      obtain ⟨b, hbx⟩ : ∃ b, HL[j].2 = b := ⟨_, rfl⟩
      have hp : HL[j] = (x, b) := by rw [← hx, ← hbx]
      rw [hp] at hft
      rw [hx] at k1
      rw [hbx] at k2
      have hfl : (((HL.take j).filter (fun p => p.2 == who)).map (·.1)).length ≤ HL.length := by rw [List.length_map]; exact Nat.le_trans (List.length_filter_le _ _) (by rw [List.length_take]; omega)
      have hsz := HO.out.size
      clear hx hbx hp
      subst e1
      by_cases he : b = who
      · have hbb : (b == who) = true := by simp [he]
        obtain ⟨v', w', hr1, hr2, hr3, hr4⟩ := srow_one HV.out x (by omega) hsz 1
        have HR1 := hide hr1
        have HV2 : Hid (SRow w' w.heap.size v' (((HL.take (j + 1)).filter (fun p => p.2 == who)).map (·.1))) := by
          rw [hft]
          simp only [hbb, if_true, List.map_append]
          exact hr2
        have HO2 : Hid (Only (fun _ => False) w w') := HO.out.trans (grown_only (base := w.heap.size) hr3 (fun b hb => (HV.out.low b hb).1)) (fun i hi e => by omega)
        clear he hft hr1 hr2 hr3 hr4
        go_wp2_with (at_builtin; go_must (refine Lib.wpList_append_run _ rfl _ _ _ _ rfl _ _ rfl rfl _ _ HR1.out ?_); go_frame)
        exact ⟨⟨j + 1, by omega, by go_num, HV2, HO2⟩, by simp [intOf]; omega⟩
      · have hbb : (b == who) = false := by simp [he]
        have HV2 : Hid (SRow wr w.heap.size u5 (((HL.take (j + 1)).filter (fun p => p.2 == who)).map (·.1))) := by
          rw [hft]
          simp only [hbb]
          exact HV.out
        clear he hft
        go_wp2_with fail
        exact ⟨⟨j + 1, by omega, by go_num, HV2, HO⟩, by simp [intOf]; omega⟩
    · have ej : HL.take j = HL := List.take_of_length_le (by omega)
      rw [ej] at HV
      have HHE := hide (HHr.out.hi.held who)
      have hfl : ((HL.filter (fun p => p.2 == who)).map (·.1)).length ≤ HL.length := by rw [List.length_map]; exact List.length_filter_le _ _
      obtain ⟨L2, hW2⟩ : ∃ l, (HL.filter (fun p => p.2 == who)).map (·.1) = l := ⟨_, rfl⟩
      rw [hW2] at HV HHE hfl
      clear ej hW2
      go_wp2_with fail
      go_ret
      exact ⟨_, L2, rfl, HHE.out, HV.out, by omega, HO.out⟩
set_option maxRecDepth 100000 in
set_option maxHeartbeats 1600000 in
theorem jwaiting_any (w : World) (r base n : Nat) (T : Tb) (aH aW : Option Addr) (cH cW : Nat) (HL WL : List (ByteArray × Int)) (H : Rt w r base n T aH aW cH cW HL WL) (hn : n ≤ 4398046511104) :
    Calls Try.prog 22 #[.pointer (some ⟨r, 0, none⟩)] w fun e w' => ∃ v L, e = .returned v ∧ WaitIs T L ∧ IRow w' w.heap.size v L ∧ L.length ≤ n ∧ Only (fun _ => False) w w' := by
  have c1 := H.c1
  have hlen := H.wn
  have HH := hide H
  clear H
  go_enter Try.func22, Try.ntmps22
  go_wp2_with fail
  go_loopw [3, 4] (fun v y wr => ∃ j : Nat, j ≤ WL.length ∧ y = .int .i64 (j : Int) ∧ Hid (IRow wr w.heap.size v ((WL.take j).map (·.2))) ∧ Hid (Only (fun _ => False) w wr)) (fun _ y _ => WL.length - (intOf y).toNat)
  case atStart => exact ⟨0, by omega, rfl, hide (IRow.nil _ _), hide (Only.refl _ _)⟩
  case round =>
    obtain ⟨j, hj, rfl, HV, HO⟩ := hrel
    have HHr := hide (HH.out.more HO.out)
    have c1r := HHr.out.c1
    by_cases hlt : j < WL.length
    · obtain ⟨g, e1, _, _, _, k1, k2⟩ := HHr.out.wr.at_ hlt
      obtain ⟨b, hbx⟩ : ∃ b, WL[j].2 = b := ⟨_, rfl⟩
      have hft : (WL.take (j + 1)).map (·.2) = (WL.take j).map (·.2) ++ [b] := by rw [List.take_succ_eq_append_getElem hlt, List.map_append, ← hbx]; rfl
      rw [hbx] at k2
      have hfl : ((WL.take j).map (·.2)).length ≤ WL.length := by rw [List.length_map, List.length_take]; omega
      have hsz := HO.out.size
      clear hbx
      subst e1
      obtain ⟨v', w', hr1, hr2, hr3, hr4⟩ := irow_one HV.out b (by omega) hsz 1
      have HR1 := hide hr1
      have HV2 : Hid (IRow w' w.heap.size v' ((WL.take (j + 1)).map (·.2))) := by
        rw [hft]
        exact hr2
      have HO2 : Hid (Only (fun _ => False) w w') := HO.out.trans (grown_only (base := w.heap.size) hr3 (fun b hb => (HV.out.low b hb).1)) (fun i hi e => by omega)
      clear hft hr1 hr2 hr3 hr4
      go_wp2_with (at_builtin; go_must (refine Lib.wpList_append_run _ rfl _ _ _ _ rfl _ _ rfl rfl _ _ HR1.out ?_); go_frame)
      exact ⟨⟨j + 1, by omega, by go_num, HV2, HO2⟩, by simp [intOf]; omega⟩
    · have ej : WL.take j = WL := List.take_of_length_le (by omega)
      rw [ej] at HV
      have HHE := hide (HHr.out.wi.waiting)
      have hfl : (WL.map (·.2)).length ≤ WL.length := by rw [List.length_map]; omega
      obtain ⟨L2, hW2⟩ : ∃ l, WL.map (·.2) = l := ⟨_, rfl⟩
      rw [hW2] at HV HHE hfl
      clear ej hW2
      go_wp2_with fail
      go_ret
      exact ⟨_, L2, rfl, HHE.out, HV.out, by omega, HO.out⟩
end Go.Proofs.Ytmmhmgndokaklaa
