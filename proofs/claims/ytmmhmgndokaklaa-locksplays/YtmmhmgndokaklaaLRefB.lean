/- What the document's quit, round, Held and Waiting do. -/
import Derived.Test.YtmmhmgndokaklaaLRefA
namespace Go.Proofs.Ytmmhmgndokaklaa
open Go.RowKit Go.Maps

theorem filter_take {α : Type} (f : α → Bool) {L : List α} {j : Nat} (hj : j < L.length) : (L.take (j + 1)).filter f = if f L[j] then (L.take j).filter f ++ [L[j]] else (L.take j).filter f := by
  rw [List.take_succ_eq_append_getElem hj, List.filter_append]
  by_cases h : f L[j] = true
  · simp [h]
  · simp [h]
theorem hsrc_new (w : World) (k : ByteArray) (x : Int) (t : TypeId) : HSrc (w.alloc (.cells #[.string k, .int .i64 x] t)) (some ⟨w.heap.size, 0, none⟩) 1 [(k, x)] := by
  refine ⟨rfl, .inr ⟨_, rfl, ?_⟩⟩
  intro j u hu
  rw [add_at]
  match j, hu with
  | 0, hu => simp [hcells] at hu; subst hu; simp
  | 1, hu => simp [hcells] at hu; subst hu; simp
theorem hrow_one {w : World} {base : Nat} {v : Value} {L : List (ByteArray × Int)} (h : HRow w base v L) (k : ByteArray) (x : Int) (hn : L.length + 1 ≤ 4398046511105) (hb : base ≤ w.heap.size) (c : Nat) :
    ∃ v' w', (Builtin.append_ #[25, 25] 25 #[v, .slice (some ⟨w.heap.size, 0, none⟩) 1 c]).run Try.prog (w.alloc (.cells #[.string k, .int .i64 x] 55)) = .ok v' w' ∧ HRow w' base v' (L ++ [(k, x)]) ∧ Only (fun i => base ≤ i) w w' := by
  obtain ⟨v', w', h1, h2, h3, _⟩ := hrow_append (h.kept (Only.alloc (fun _ => False) w (.cells #[.string k, .int .i64 x] 55)) (fun _ _ => id)) (hsrc_new w k x 55) hn (by simp; omega) c
  refine ⟨v', w', h1, h2, ?_⟩
  exact (Only.alloc (fun i => base ≤ i) w _).trans (Only.grown (S := fun i => base ≤ i) h3 (fun b hb => (h.low b hb).1)) (fun _ _ e => e)
theorem Rt.setW {w : World} {r base n n' : Nat} {T T' : Tb} {aH aW a2 : Option Addr} {cH cW c2 : Nat} {HL WL WL2 : List (ByteArray × Int)} (H : Rt w r base n T aH aW cH cW HL WL) (hT : T'.hold = T.hold) (row : HRow w base (.slice a2 WL2.length c2) WL2) (wi : WIs T' WL2) (hn : n ≤ n') (hl : WL2.length ≤ n') :
    Rt (w.setCell ⟨r, 1, none⟩ (.slice a2 WL2.length c2)) r base n' T' aH a2 cH c2 HL WL2 := by
  have HS : Only (fun i => i = r) w (w.setCell ⟨r, 1, none⟩ (.slice a2 WL2.length c2)) := Only.setCell (S := fun i => i = r) w ⟨r, 1, none⟩ _ rfl
  have hb2 := H.rb
  have hh := H.hn
  refine ⟨?_, ?_, ?_, ?_, H.h.kept HS (fun k hk e => by have := (H.h.low k hk).1; omega), row.kept HS (fun k hk e => by have := (row.low k hk).1; omega), ⟨H.hi.up, fun k b => by rw [hT]; exact H.hi.mem k b⟩, wi, by omega, hl, hb2⟩
  · rw [World.cell?_setCell_other _ _ _ _ (by simp)]; exact H.c0
  · exact World.cell?_setCell_same _ _ _ H.c1
  · rw [World.frozen?_setCell]; exact H.f0
  · rw [World.frozen?_setCell]; exact H.f1
theorem Rt.setH {w : World} {r base n n' : Nat} {T T' : Tb} {aH aW a2 : Option Addr} {cH cW c2 : Nat} {HL WL HL2 : List (ByteArray × Int)} (H : Rt w r base n T aH aW cH cW HL WL) (hT : T'.wait = T.wait) (row : HRow w base (.slice a2 HL2.length c2) HL2) (hi : HIs T' HL2) (hn : n ≤ n') (hl : HL2.length ≤ n') :
    Rt (w.setCell ⟨r, 0, none⟩ (.slice a2 HL2.length c2)) r base n' T' a2 aW c2 cW HL2 WL := by
  have HS : Only (fun i => i = r) w (w.setCell ⟨r, 0, none⟩ (.slice a2 HL2.length c2)) := Only.setCell (S := fun i => i = r) w ⟨r, 0, none⟩ _ rfl
  have hb2 := H.rb
  have hh := H.wn
  refine ⟨?_, ?_, ?_, ?_, row.kept HS (fun k hk e => by have := (row.low k hk).1; omega), H.wr.kept HS (fun k hk e => by have := (H.wr.low k hk).1; omega), hi, ⟨H.wi.up, fun k a => by rw [hT]; exact H.wi.mem k a⟩, hl, by omega, hb2⟩
  · exact World.cell?_setCell_same _ _ _ H.c0
  · rw [World.cell?_setCell_other _ _ _ _ (by simp)]; exact H.c1
  · rw [World.frozen?_setCell]; exact H.f0
  · rw [World.frozen?_setCell]; exact H.f1
theorem WIs.quit {T : Tb} {L : List (ByteArray × Int)} (h : WIs T L) (who : Int) : WIs (T.quit who) (L.filter (fun p => p.2 != who)) := by
  refine ⟨h.up.sublist List.filter_sublist, fun k a => ?_⟩
  rw [List.mem_filter, h.mem k a]
  simp only [Tb.quit]
  by_cases e : a = who
  · simp [e]
  · simp [e]
set_option maxRecDepth 100000 in
set_option maxHeartbeats 1600000 in
theorem jquit_any (w : World) (r base n : Nat) (T : Tb) (aH aW : Option Addr) (cH cW : Nat) (HL WL : List (ByteArray × Int)) (H : Rt w r base n T aH aW cH cW HL WL) (hn : n ≤ 4398046511104) (hb : base ≤ w.heap.size) (who : Int) :
    Calls Try.prog 25 #[.pointer (some ⟨r, 0, none⟩), .int .i64 who] w fun e w' => ∃ aW' cW' WL', e = .returned (.tuple #[]) ∧ Rt w' r base n (T.quit who) aH aW' cH cW' HL WL' ∧ Only (fun i => i = r) w w' := by
  have c1 := H.c1
  have hlen := H.wn
  have hr := World.block_lt_of_cell? w _ H.c0
  have HH := hide H
  clear H
  go_enter Try.func25, Try.ntmps25
  go_wp2_with fail
  go_loopw [4, 5] (fun v y wr => ∃ j : Nat, j ≤ WL.length ∧ y = .int .i64 (j : Int) ∧ Hid (HRow wr w.heap.size v ((WL.take j).filter (fun p => p.2 != who))) ∧ Hid (Only (fun _ => False) w wr)) (fun _ y _ => WL.length - (intOf y).toNat)
  case atStart => exact ⟨0, by omega, rfl, hide (HRow.nil _ _), hide (Only.refl _ _)⟩
  case round =>
    obtain ⟨j, hj, rfl, HV, HO⟩ := hrel
    have HHr := hide (HH.out.more HO.out)
    have c1r := HHr.out.c1
    by_cases hlt : j < WL.length
    · obtain ⟨g, e1, _, _, _, k1, k2⟩ := HHr.out.wr.at_ hlt
      have hft := filter_take (fun p : ByteArray × Int => p.2 != who) hlt
      obtain ⟨x, hx⟩ : ∃ x, WL[j].1 = x := ⟨_, rfl⟩
      obtain ⟨b, hbx⟩ : ∃ b, WL[j].2 = b := ⟨_, rfl⟩
      have hp : WL[j] = (x, b) := by rw [← hx, ← hbx]
      rw [hp] at hft
      rw [hx] at k1
      rw [hbx] at k2
      have hfl : ((WL.take j).filter (fun p => p.2 != who)).length ≤ WL.length := Nat.le_trans (List.length_filter_le _ _) (by rw [List.length_take]; omega)
      have hsz := HO.out.size
      clear hx hbx hp
      subst e1
      by_cases he : b = who
      · have hbb : (b != who) = false := by simp [he]
        have HV2 : Hid (HRow wr w.heap.size u4 ((WL.take (j + 1)).filter (fun p => p.2 != who))) := by
          rw [hft]
          simp only [hbb]
          exact HV.out
        clear he hft
        go_wp2_with fail
        exact ⟨⟨j + 1, by omega, by go_num, HV2, HO⟩, by simp [intOf]; omega⟩
      · have hbb : (b != who) = true := by simp [he]
        obtain ⟨v', w', hr1, hr2, hr3⟩ := hrow_one HV.out x b (by omega) hsz 1
        have HR1 := hide hr1
        have HV2 : Hid (HRow w' w.heap.size v' ((WL.take (j + 1)).filter (fun p => p.2 != who))) := by
          rw [hft]
          simp only [hbb, if_true]
          exact hr2
        have HO2 : Hid (Only (fun _ => False) w w') := HO.out.trans hr3 (fun i hi e => by omega)
        clear he hft hr1 hr2 hr3
        go_wp2_with (at_builtin; go_must (refine Lib.wpList_append_run _ rfl _ _ _ _ rfl _ _ rfl rfl _ _ HR1.out ?_); go_frame)
        exact ⟨⟨j + 1, by omega, by go_num, HV2, HO2⟩, by simp [intOf]; omega⟩
    · have ej : WL.take j = WL := List.take_of_length_le (by omega)
      rw [ej] at HV
      have HWI := hide (HHr.out.wi.quit who)
      have hfl : (WL.filter (fun p => p.2 != who)).length ≤ WL.length := List.length_filter_le _ _
      obtain ⟨WL2, hW2⟩ : ∃ l, WL.filter (fun p => p.2 != who) = l := ⟨_, rfl⟩
      rw [hW2] at HV HWI hfl
      obtain ⟨a2, c2, rfl⟩ := HV.out.form
      have f1 := HHr.out.f1
      clear ej hW2
      go_wp2_with fail
      refine bodyPost_end (results_none rfl _ _ _) rfl ?_
      have HS : Only (fun i => i = r) wr (wr.setCell ⟨r, 1, none⟩ (.slice a2 WL2.length c2)) := Only.setCell (S := fun i => i = r) wr ⟨r, 1, none⟩ _ rfl
      exact ⟨a2, c2, WL2, rfl, HHr.out.setW rfl (HV.out.base hb) HWI.out (Nat.le_refl _) (by omega), (HO.out.mono (fun _ _ e => e.elim) : Only (fun i => i = r) w wr).trans HS (fun _ _ e => e)⟩
theorem wis_len {T : Tb} {L : List (ByteArray × Int)} (h : WIs T L) {V : List Int} (hn : V.Nodup) (hv : ∀ a ∈ V, ∃ k, T.wait a = some k) : V.length ≤ L.length := by
  have := hn.length_le_of_subset (l₂ := L.map (·.2)) (fun a ha => by
    obtain ⟨k, hk⟩ := hv a ha
    exact List.mem_map.2 ⟨(k, a), (h.mem k a).2 hk, rfl⟩)
  simpa using this
set_option maxRecDepth 100000 in
set_option maxHeartbeats 1600000 in
theorem jround_any (w : World) (r base n : Nat) (T : Tb) (hT : T.Ok) (aH aW : Option Addr) (cH cW : Nat) (HL WL : List (ByteArray × Int)) (H : Rt w r base n T aH aW cH cW HL WL) (hn : n ≤ 4398046511104) (who of0 : Int) :
    Calls Try.prog 28 #[.pointer (some ⟨r, 0, none⟩), .int .i64 who, .int .i64 of0] w fun e w' => RB e (of0 = who ∨ T.Rch of0 who) ∧ w' = w := by
  obtain ⟨rk, hrk⟩ := hT.rank
  have HRK : Hid (∀ a b, T.Next a b → rk b < rk a) := hrk
  have c1 := H.c1
  have hlen := H.wn
  have HH := hide H
  have HFO := hide (fun a => jfor_any w r base n T aH aW cH cW HL WL H hn a)
  have HHO := hide (fun k => jholder_any w r base n T aH aW cH cW HL WL H hn k)
  have HT := hide hT
  clear H hrk hT
  go_enter Try.func28, Try.ntmps28
  go_wp2_with fail
  go_loopw [7, 8] (fun va vn wr => ∃ (a : Int) (V : List Int), va = .int .i64 a ∧ vn = .int .i64 (V.length : Int) ∧ V.length ≤ WL.length ∧ Hid (V.Nodup ∧ (∀ x ∈ V, ∃ k, T.wait x = some k) ∧ (∀ x ∈ V, rk a < rk x)) ∧ Hid ((of0 = who ∨ T.Rch of0 who) ↔ (a = who ∨ T.Rch a who)) ∧ wr = w) (fun va _ _ => rk (intOf va))
  case atStart => exact ⟨of0, [], rfl, rfl, by simp, ⟨List.nodup_nil, by simp, by simp⟩, Iff.rfl, rfl⟩
  case round =>
    obtain ⟨a, V, rfl, rfl, hvl, HV, HQ, hwr⟩ := hrel
    obtain rfl := hwr.symm
    clear hwr
    by_cases he : a = who
    · have hb : (a == who) = true := by simp [he]
      have HE := hide he
      clear he
      go_wp2_with fail
      go_ret
      exact ⟨⟨_, rfl, fun _ => HQ.out.2 (.inl HE.out), fun _ => rfl⟩, rfl⟩
    · have hb : (a == who) = false := by simp [he]
      have HE := hide he
      clear he
      have HFA := hide (HFO.out a)
      rcases some_or (T.wait a) with hw | ⟨ka, hw⟩
      · rw [hw] at HFA
        simp only [Option.getD_none, Option.isSome_none] at HFA
        have HN : Hid (¬ (of0 = who ∨ T.Rch of0 who)) := fun e => by
          rcases HQ.out.1 e with e | e
          · exact HE.out e
          · exact e.none hw
        clear hw
        go_wp2_with fail
        refine HFA.out.mono ?_
        rintro e wx ⟨rfl, hw⟩
        obtain rfl := hw.symm
        clear hw
        go_wp2_with fail
        go_ret
        exact ⟨⟨_, rfl, by simp, fun e => absurd e HN.out⟩, rfl⟩
      · rw [hw] at HFA
        simp only [Option.getD_some, Option.isSome_some] at HFA
        obtain ⟨y, hy⟩ := HT.out.held a ka hw
        have HHA := hide (HHO.out ka)
        rw [hy] at HHA
        simp only [Option.getD_some, Option.isSome_some] at HHA
        have HNX : Hid (T.Next a y) := ⟨ka, hw, hy⟩
        have hrb := HRK.out a y HNX.out
        have HRB := hide hrb
        have HV2 : Hid ((a :: V).Nodup ∧ (∀ x ∈ a :: V, ∃ k, T.wait x = some k) ∧ (∀ x ∈ a :: V, rk y < rk x)) := by
          refine ⟨List.nodup_cons.2 ⟨fun e => by have := HV.out.2.2 a e; omega, HV.out.1⟩, fun x hx => ?_, fun x hx => ?_⟩
          · rcases List.mem_cons.1 hx with e | e
            · rw [e]; exact ⟨ka, hw⟩
            · exact HV.out.2.1 x e
          · rcases List.mem_cons.1 hx with e | e
            · rw [e]; exact hrb
            · have := HV.out.2.2 x e; omega
        have hv2 := wis_len HH.out.wi HV2.out.1 HV2.out.2.1
        have HQ2 : Hid ((of0 = who ∨ T.Rch of0 who) ↔ (y = who ∨ T.Rch y who)) := by
          refine HQ.out.trans ⟨fun e => ?_, fun e => ?_⟩
          · rcases e with e | e
            · exact absurd e HE.out
            · exact e.on HNX.out
          · rcases e with e | e
            · exact .inr (.one (e ▸ HNX.out))
            · exact .inr (.step HNX.out e)
        have HV3 := hide hv2
        clear hw hy hrb hv2
        go_wp2_with fail
        refine HFA.out.mono ?_
        rintro e wx ⟨rfl, hw⟩
        obtain rfl := hw.symm
        clear hw
        go_wp2_with fail
        refine HHA.out.mono ?_
        rintro e wx ⟨rfl, hw⟩
        obtain rfl := hw.symm
        clear hw
        go_wp2_with fail
        exact ⟨⟨y, a :: V, rfl, by simp, HV3.out, HV2, HQ2, trivial⟩, HRB.out⟩
end Go.Proofs.Ytmmhmgndokaklaa
