/- What the document's Release does. -/
import Derived.Test.YtmmhmgndokaklaaLRefC
namespace Go.Proofs.Ytmmhmgndokaklaa
open Go.RowKit Go.Maps

/-- Who waits for what somebody holds. -/
def isFor (T : Tb) (who : Int) (p : ByteArray × Int) : Bool := T.hold p.1 == some who
theorem WIs.freeIs {T : Tb} {L : List (ByteArray × Int)} (h : WIs T L) (who : Int) : FreeIs T who ((L.filter (isFor T who)).map (·.2)) := by
  refine ⟨List.pairwise_map.2 (h.up.sublist List.filter_sublist), fun a => ?_⟩
  rw [List.mem_map]
  constructor
  · rintro ⟨⟨k, b⟩, hp, rfl⟩
    obtain ⟨h1, h2⟩ := List.mem_filter.1 hp
    simp only [isFor, beq_iff_eq] at h2
    exact ⟨k, (h.mem k b).1 h1, h2⟩
  · rintro ⟨k, h1, h2⟩
    exact ⟨(k, a), List.mem_filter.2 ⟨(h.mem k a).2 h1, by simp [isFor, h2]⟩, rfl⟩
theorem WIs.loose {T : Tb} {L : List (ByteArray × Int)} (h : WIs T L) (who : Int) : WIs (T.loose who) (L.filter (fun p => !isFor T who p)) := by
  refine ⟨h.up.sublist List.filter_sublist, fun k a => ?_⟩
  rw [List.mem_filter, h.mem k a, Tb.loose_wait]
  simp [isFor]
theorem HIs.dropped {T : Tb} {L : List (ByteArray × Int)} (h : HIs T L) (who : Int) : HIs (T.drop who) (L.filter (fun p => p.2 != who)) := by
  refine ⟨h.up.sublist List.filter_sublist, fun k a => ?_⟩
  rw [List.mem_filter, h.mem k a, Tb.drop_hold]
  simp
/-- Two rows made since: numbers, and holds. -/
structure Rw (w W : World) (v5 v6 : Value) (O : List Int) (S : List (ByteArray × Int)) : Prop where
  only : Only (fun _ => False) w W
  ro : IRow W w.heap.size v5 O
  rs : HRow W w.heap.size v6 S
  ap : ∀ b, v5.ownBlock = some b → v6.ownBlock ≠ some b
theorem Rw.addO {w W : World} {v5 v6 : Value} {O : List Int} {S : List (ByteArray × Int)} (H : Rw w W v5 v6 O S) (x : Int) (hn : O.length + 1 ≤ 4398046511105) :
    ∃ v' w', (Builtin.append_ #[31, 31] 31 #[v5, .slice (some ⟨W.heap.size, 0, none⟩) 1 1]).run Try.prog (W.alloc (.cells #[.int .i64 x] 3)) = .ok v' w' ∧ Rw w w' v' v6 (O ++ [x]) S := by
  have hsz := H.only.size
  obtain ⟨v', w', h1, h2, h3, h4⟩ := irow_one H.ro x hn hsz 1
  have hlow := H.rs.low
  refine ⟨v', w', h1, H.only.trans (grown_only (base := w.heap.size) h3 (fun b hb => (H.ro.low b hb).1)) (fun i hi e => by omega), h2, ?_, fun b hb e => ?_⟩
  · exact (H.rs.kept (Only.alloc (fun _ => False) _ _) (fun _ _ => id)).kept (Only.grown (S := fun i => v5.ownBlock = some i) h3 (fun k hk => hk)) (fun b hb e => H.ap b e hb)
  · rcases h4 with h4 | h4
    · exact H.ap b (h4 ▸ hb) e
    · rw [h4] at hb
      cases hb
      have := (hlow _ e).2
      omega
theorem Rw.addS {w W : World} {v5 v6 : Value} {O : List Int} {S : List (ByteArray × Int)} (H : Rw w W v5 v6 O S) (k : ByteArray) (x : Int) (hn : S.length + 1 ≤ 4398046511105) :
    ∃ v' w', (Builtin.append_ #[25, 25] 25 #[v6, .slice (some ⟨W.heap.size, 0, none⟩) 1 1]).run Try.prog (W.alloc (.cells #[.string k, .int .i64 x] 55)) = .ok v' w' ∧ Rw w w' v5 v' O (S ++ [(k, x)]) := by
  have hsz := H.only.size
  obtain ⟨v', w', h1, h2, h3, h4⟩ := hrow_oneL H.rs k x hn hsz 1
  have hlow := H.ro.low
  refine ⟨v', w', h1, H.only.trans (grown_only (base := w.heap.size) h3 (fun b hb => (H.rs.low b hb).1)) (fun i hi e => by omega), ?_, h2, fun b hb e => ?_⟩
  · exact (H.ro.kept (Only.alloc (fun _ => False) _ _) (fun _ _ => id)).kept (Only.grown (S := fun i => v6.ownBlock = some i) h3 (fun k hk => hk)) (fun b hb e => H.ap b hb e)
  · rcases h4 with h4 | h4
    · exact H.ap b hb (h4 ▸ e)
    · rw [h4] at e
      cases e
      have := (hlow _ hb).2
      omega
set_option maxRecDepth 100000 in
set_option maxHeartbeats 3200000 in
theorem jrelease_any (w : World) (r base n : Nat) (T : Tb) (hT : T.Ok) (aH aW : Option Addr) (cH cW : Nat) (HL WL : List (ByteArray × Int)) (H : Rt w r base n T aH aW cH cW HL WL) (hn : n ≤ 4398046511104) (hb : base ≤ w.heap.size) (who : Int) :
    Calls Try.prog 11 #[.pointer (some ⟨r, 0, none⟩), .int .i64 who] w fun e w' => ∃ v L aH' cH' aW' cW' HL' WL', e = .returned v ∧ FreeIs (T.quit who) who L ∧ IRow w' w.heap.size v L ∧ L.length ≤ n ∧ Rt w' r base n (T.freed who) aH' aW' cH' cW' HL' WL' ∧ Only (fun i => i = r) w w' := by
  have HQ := hide (jquit_any w r base n T aH aW cH cW HL WL H hn hb who)
  have HOK := hide (hT.quit who)
  clear H hT
  go_enter Try.func11, Try.ntmps11
  go_wp2_with fail
  refine HQ.out.mono ?_
  rintro e w1 ⟨aW1, cW1, WL1, rfl, H1, hO1⟩
  have HR1 := hide H1
  have HO1 := hide hO1
  have hs1 := hO1.size
  have hwl := H1.wn
  have hhl := H1.hn
  have hr1 := World.block_lt_of_cell? w1 _ H1.c0
  obtain ⟨T1, hT1⟩ : ∃ T1, T.quit who = T1 := ⟨_, rfl⟩
  have HTE := hide hT1
  rw [hT1] at HR1 HOK
  clear H1 hO1 HQ hT1
  go_wp2_with fail
  go_loopw [5, 6, 7] (fun v5 v6 y wr => ∃ j : Nat, j ≤ WL1.length ∧ y = .int .i64 (j : Int) ∧ Hid (Rw w1 wr v5 v6 (((WL1.take j).filter (isFor T1 who)).map (·.2)) ((WL1.take j).filter (fun p => !isFor T1 who p)))) (fun _ _ y _ => WL1.length - (intOf y).toNat)
  case atStart => exact ⟨0, by omega, rfl, ⟨Only.refl _ _, IRow.nil _ _, HRow.nil _ _, fun b hb => by cases hb⟩⟩
  case round =>
    obtain ⟨j, hj, rfl, HW⟩ := hrel
    have HHr := hide (HR1.out.more HW.out.only)
    have c1r := HHr.out.c1
    by_cases hlt : j < WL1.length
    · obtain ⟨g, e1, _, _, _, k1, k2⟩ := HHr.out.wr.at_ hlt
      have hf1 := filter_take (isFor T1 who) hlt
      have hf2 := filter_take (fun p => !isFor T1 who p) hlt
      obtain ⟨x, hx⟩ : ∃ x, WL1[j].1 = x := ⟨_, rfl⟩
      obtain ⟨b, hbx⟩ : ∃ b, WL1[j].2 = b := ⟨_, rfl⟩
      have hp : WL1[j] = (x, b) := by rw [← hx, ← hbx]
      have hwt : T1.wait b = some x := (HHr.out.wi.mem x b).1 (by rw [← hp]; exact List.getElem_mem hlt)
      obtain ⟨y, hy⟩ := HOK.out.held b x hwt
      have hho := jholder_any wr r base n T1 _ _ _ _ _ _ HHr.out hn x
      rw [hy] at hho
      simp only [Option.getD_some, Option.isSome_some] at hho
      have HHO := hide hho
      rw [hp] at hf1 hf2
      rw [hx] at k1
      rw [hbx] at k2
      have hl1 : (((WL1.take j).filter (isFor T1 who)).map (·.2)).length ≤ WL1.length := by rw [List.length_map]; exact Nat.le_trans (List.length_filter_le _ _) (by rw [List.length_take]; omega)
      have hl2 : ((WL1.take j).filter (fun p => !isFor T1 who p)).length ≤ WL1.length := Nat.le_trans (List.length_filter_le _ _) (by rw [List.length_take]; omega)
      clear hx hbx hp hho hwt
      subst e1
      by_cases he : y = who
      · have hbb : (y == who) = true := by simp [he]
        have hif : isFor T1 who (x, b) = true := by simp [isFor, hy, he]
        obtain ⟨v', w', hq1, hq2⟩ := HW.out.addO b (by omega)
        have HQ1 := hide hq1
        have HW2 : Hid (Rw w1 w' v' u6 (((WL1.take (j + 1)).filter (isFor T1 who)).map (·.2)) ((WL1.take (j + 1)).filter (fun p => !isFor T1 who p))) := by
          rw [hf1, hf2]
          simp only [hif, if_true, List.map_append, Bool.not_true]
          exact hq2
        clear hq1 hq2 hf1 hf2 hif he hy
        go_wp2_with (first
          | (go_at_call 15; refine HHO.out.mono ?_; rintro e wx ⟨rfl, hw⟩; obtain rfl := hw.symm; clear hw)
          | (at_builtin; go_must (refine Lib.wpList_append_run _ rfl _ _ _ _ rfl _ _ rfl rfl _ _ HQ1.out ?_); go_frame))
        exact ⟨⟨j + 1, by omega, by go_num, HW2⟩, by simp [intOf]; omega⟩
      · have hbb : (y == who) = false := by simp [he]
        have hif : isFor T1 who (x, b) = false := by simp [isFor, hy, he]
        obtain ⟨v', w', hq1, hq2⟩ := HW.out.addS x b (by omega)
        have HQ1 := hide hq1
        have HW2 : Hid (Rw w1 w' u5 v' (((WL1.take (j + 1)).filter (isFor T1 who)).map (·.2)) ((WL1.take (j + 1)).filter (fun p => !isFor T1 who p))) := by
          rw [hf1, hf2]
          simp only [hif, Bool.not_false, if_true]
          exact hq2
        clear hq1 hq2 hf1 hf2 hif he hy
        go_wp2_with (first
          | (go_at_call 15; refine HHO.out.mono ?_; rintro e wx ⟨rfl, hw⟩; obtain rfl := hw.symm; clear hw)
          | (at_builtin; go_must (refine Lib.wpList_append_run _ rfl _ _ _ _ rfl _ _ rfl rfl _ _ HQ1.out ?_); go_frame))
        exact ⟨⟨j + 1, by omega, by go_num, HW2⟩, by simp [intOf]; omega⟩
    · have ej : WL1.take j = WL1 := List.take_of_length_le (by omega)
      rw [ej] at HW
      have HFI := hide (HHr.out.wi.freeIs who)
      have HWI := hide (HHr.out.wi.loose who)
      have hl1 : ((WL1.filter (isFor T1 who)).map (·.2)).length ≤ WL1.length := by rw [List.length_map]; exact List.length_filter_le _ _
      have hl2 : (WL1.filter (fun p => !isFor T1 who p)).length ≤ WL1.length := List.length_filter_le _ _
      obtain ⟨OL, hOL⟩ : ∃ l, (WL1.filter (isFor T1 who)).map (·.2) = l := ⟨_, rfl⟩
      obtain ⟨SL, hSL⟩ : ∃ l, WL1.filter (fun p => !isFor T1 who p) = l := ⟨_, rfl⟩
      rw [hOL] at HW HFI hl1
      rw [hSL] at HW HWI hl2
      obtain ⟨a5, c5, hv5⟩ := HW.out.ro.form
      obtain ⟨a6, c6, hv6⟩ := HW.out.rs.form
      subst hv5
      subst hv6
      have f1 := HHr.out.f1
      have hb1 : base ≤ w1.heap.size := by omega
      have HS1 : Only (fun i => i = r) wr (wr.setCell ⟨r, 1, none⟩ (.slice a6 SL.length c6)) := Only.setCell (S := fun i => i = r) wr ⟨r, 1, none⟩ _ rfl
      have HR2 : Hid (Rt (wr.setCell ⟨r, 1, none⟩ (.slice a6 SL.length c6)) r base n (T1.loose who) aH a6 cH c6 HL SL) := HHr.out.setW rfl (HW.out.rs.base hb1) HWI.out (Nat.le_refl _) (by omega)
      have HI2 : Hid (IRow (wr.setCell ⟨r, 1, none⟩ (.slice a6 SL.length c6)) w.heap.size (.slice a5 OL.length c5) OL) := (HW.out.ro.kept HS1 (fun k hk e => by have := (HW.out.ro.low k hk).1; omega)).base hs1
      have HO2 : Hid (Only (fun i => i = r) w (wr.setCell ⟨r, 1, none⟩ (.slice a6 SL.length c6))) := (HO1.out.trans HW.out.only (fun _ _ e => e.elim)).trans HS1 (fun _ _ e => e)
      have hsr := HW.out.only.size
      clear ej hOL hSL
      go_upto_region 12 with fail
      obtain ⟨W2, hW2⟩ : ∃ W2, wr.setCell ⟨r, 1, none⟩ (.slice a6 SL.length c6) = W2 := ⟨_, rfl⟩
      rw [hW2] at HR2 HI2 HO2 ⊢
      clear hW2 HW HHr HS1 c1r f1
      have hs2 : w.heap.size ≤ W2.heap.size := HO2.out.size
      go_wp2_with fail
      go_loopw [10, 11] (fun v y wr => ∃ q : Nat, q ≤ HL.length ∧ y = .int .i64 (q : Int) ∧ Hid (HRow wr W2.heap.size v ((HL.take q).filter (fun p => p.2 != who))) ∧ Hid (Only (fun _ => False) W2 wr)) (fun _ y _ => HL.length - (intOf y).toNat)
      case atStart => exact ⟨0, by omega, rfl, hide (HRow.nil _ _), hide (Only.refl _ _)⟩
      case round =>
        obtain ⟨q, hq, rfl, HV, HO⟩ := hrel
        have HHr := hide (HR2.out.more HO.out)
        have c0r := HHr.out.c0
        by_cases hql : q < HL.length
        · obtain ⟨g, e1, _, _, _, k1, k2⟩ := HHr.out.h.at_ hql
          have hft := filter_take (fun p : ByteArray × Int => p.2 != who) hql
          obtain ⟨x, hx⟩ : ∃ x, HL[q].1 = x := ⟨_, rfl⟩
          obtain ⟨b, hbx⟩ : ∃ b, HL[q].2 = b := ⟨_, rfl⟩
          have hp : HL[q] = (x, b) := by rw [← hx, ← hbx]
          rw [hp] at hft
          rw [hx] at k1
          rw [hbx] at k2
          have hfl : ((HL.take q).filter (fun p => p.2 != who)).length ≤ HL.length := Nat.le_trans (List.length_filter_le _ _) (by rw [List.length_take]; omega)
          have hsz := HO.out.size
          clear hx hbx hp
          subst e1
          by_cases he : b = who
          · have hbb : (b != who) = false := by simp [he]
            have HV2 : Hid (HRow wr W2.heap.size u10 ((HL.take (q + 1)).filter (fun p => p.2 != who))) := by
              rw [hft]
              simp only [hbb]
              exact HV.out
            clear he hft
            go_wp2_with fail
            exact ⟨⟨q + 1, by omega, by go_num, HV2, HO⟩, by simp [intOf]; omega⟩
          · have hbb : (b != who) = true := by simp [he]
            obtain ⟨v', w', hr1, hr2, hr3⟩ := hrow_one HV.out x b (by omega) hsz 1
            have HR1 := hide hr1
            have HV2 : Hid (HRow w' W2.heap.size v' ((HL.take (q + 1)).filter (fun p => p.2 != who))) := by
              rw [hft]
              simp only [hbb, if_true]
              exact hr2
            have HO3 : Hid (Only (fun _ => False) W2 w') := HO.out.trans hr3 (fun i hi e => by omega)
            clear he hft hr1 hr2 hr3
            go_wp2_with (at_builtin; go_must (refine Lib.wpList_append_run _ rfl _ _ _ _ rfl _ _ rfl rfl _ _ HR1.out ?_); go_frame)
            exact ⟨⟨q + 1, by omega, by go_num, HV2, HO3⟩, by simp [intOf]; omega⟩
        · have ej : HL.take q = HL := List.take_of_length_le (by omega)
          rw [ej] at HV
          have HHI := hide (HHr.out.hi.dropped who)
          have hfl : (HL.filter (fun p => p.2 != who)).length ≤ HL.length := List.length_filter_le _ _
          obtain ⟨HL2, hH2⟩ : ∃ l, HL.filter (fun p => p.2 != who) = l := ⟨_, rfl⟩
          rw [hH2] at HV HHI hfl
          obtain ⟨a2, c2, rfl⟩ := HV.out.form
          have f0 := HHr.out.f0
          clear ej hH2
          go_wp2_with fail
          go_ret
          have HS : Only (fun i => i = r) wr (wr.setCell ⟨r, 0, none⟩ (.slice a2 HL2.length c2)) := Only.setCell (S := fun i => i = r) wr ⟨r, 0, none⟩ _ rfl
          have hrw : r < w.heap.size := by have := HHr.out.rb; omega
          have hf : T.freed who = (T1.loose who).drop who := by unfold Tb.freed; rw [HTE.out]
          refine ⟨_, OL, a2, c2, a6, c6, HL2, SL, rfl, by rw [HTE.out]; exact HFI.out, ?_, by omega, ?_, ?_⟩
          · exact (HI2.out.kept HO.out (fun _ _ => id)).kept HS (fun k hk e => by have := (HI2.out.low k hk).1; omega)
          · rw [hf]
            exact HHr.out.setH rfl (HV.out.base (by omega)) HHI.out (Nat.le_refl _) (by omega)
          · exact (HO2.out.trans HO.out (fun _ _ e => e.elim)).trans HS (fun _ _ e => e)
end Go.Proofs.Ytmmhmgndokaklaa
