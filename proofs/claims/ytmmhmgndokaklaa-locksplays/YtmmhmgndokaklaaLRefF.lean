/- What the document's Try does where the key is held. -/
import Derived.Test.YtmmhmgndokaklaaLRefE
namespace Go.Proofs.Ytmmhmgndokaklaa
open Go.RowKit Go.Maps

set_option maxRecDepth 100000 in
set_option maxHeartbeats 800000 in
theorem jtry_own (w : World) (r base n : Nat) (T : Tb) (aH aW : Option Addr) (cH cW : Nat) (HL WL : List (ByteArray × Int)) (H : Rt w r base n T aH aW cH cW HL WL) (hn : n < 4398046511104) (hb : base ≤ w.heap.size) (who : Int) (key : ByteArray) (hno : T.hold key = some who) :
    Calls Try.prog 13 #[.pointer (some ⟨r, 0, none⟩), .int .i64 who, .string key] w fun e w' => e = .returned (.tuple #[.bool true, .int .i64 0]) ∧ (∃ aH' cH' aW' cW' HL' WL', Rt w' r base n (T.quit who) aH' aW' cH' cW' HL' WL') ∧ Only (fun i => i = r) w w' := by
  have HQ := hide (jquit_any w r base n T aH aW cH cW HL WL H (by omega) hb who)
  have HNO : Hid ((T.quit who).hold key = some who) := hno
  clear H hno
  go_enter Try.func13, Try.ntmps13
  go_wp2_with fail
  refine HQ.out.mono ?_
  rintro e w1 ⟨aW1, cW1, WL1, rfl, H1, hO1⟩
  have HR1 := hide H1
  have HO1 := hide hO1
  have hho := jholder_any w1 r base n _ _ _ _ _ _ _ H1 (by omega) key
  rw [HNO.out] at hho
  simp only [Option.getD_some, Option.isSome_some] at hho
  have HHO := hide hho
  clear H1 hO1 HQ hho
  go_wp2_with fail
  refine HHO.out.mono ?_
  rintro e wx ⟨rfl, hw⟩
  obtain rfl := hw.symm
  clear hw HHO
  go_wp2_with fail
  go_ret2
  exact ⟨rfl, ⟨_, _, _, _, _, _, HR1.out⟩, HO1.out⟩
set_option maxRecDepth 100000 in
set_option maxHeartbeats 3200000 in
theorem jtry_held (w : World) (r base n : Nat) (T : Tb) (hT : T.Ok) (aH aW : Option Addr) (cH cW : Nat) (HL WL : List (ByteArray × Int)) (H : Rt w r base n T aH aW cH cW HL WL) (hn : n < 4398046511104) (hb : base ≤ w.heap.size) (who ho : Int) (key : ByteArray) (hno : T.hold key = some ho) (hne : ho ≠ who) :
    Calls Try.prog 13 #[.pointer (some ⟨r, 0, none⟩), .int .i64 who, .string key] w fun e w' =>
      (((T.quit who).Rch ho who ∧ e = .returned (.tuple #[.bool false, .int .i64 181]) ∧ ∃ aH' cH' aW' cW' HL' WL', Rt w' r base (n + 1) (T.quit who) aH' aW' cH' cW' HL' WL')
        ∨ (¬ (T.quit who).Rch ho who ∧ e = .returned (.tuple #[.bool false, .int .i64 0]) ∧ ∃ aH' cH' aW' cW' HL' WL', Rt w' r base (n + 1) ((T.quit who).queue who key) aH' aW' cH' cW' HL' WL')) ∧ Only (fun i => i = r) w w' := by
  have HQ := hide (jquit_any w r base n T aH aW cH cW HL WL H (by omega) hb who)
  have HNO : Hid ((T.quit who).hold key = some ho) := hno
  have HOK := hide (hT.quit who)
  have HNE := hide hne
  have hbh : (ho == who) = false := by simp [hne]
  clear H hno hne hT
  go_enter Try.func13, Try.ntmps13
  go_wp2_with fail
  refine HQ.out.mono ?_
  rintro e w1 ⟨aW1, cW1, WL1, rfl, H1, hO1⟩
  have HR1 := hide H1
  have HO1 := hide hO1
  have hs1 := hO1.size
  have hwl := H1.wn
  have hr1 := World.block_lt_of_cell? w1 _ H1.c0
  have hho := jholder_any w1 r base n _ _ _ _ _ _ _ H1 (by omega) key
  rw [HNO.out] at hho
  simp only [Option.getD_some, Option.isSome_some] at hho
  have HHO := hide hho
  have HRO := hide (jround_any w1 r base n _ HOK.out _ _ _ _ _ _ H1 (by omega) who ho)
  have c1 := H1.c1
  clear H1 hO1 HQ hho
  go_wp2_with fail
  refine HHO.out.mono ?_
  rintro e wx ⟨rfl, hw⟩
  obtain rfl := hw.symm
  clear hw HHO
  go_wp2_with fail
  refine HRO.out.mono ?_
  rintro e wx ⟨⟨b, rfl, hbR⟩, hw⟩
  obtain rfl := hw.symm
  have HB := hide hbR
  clear hw HRO hbR
  cases b
  case true =>
    go_wp2_with fail
    go_ret2
    refine ⟨.inl ⟨(HB.out.1 trivial).resolve_left HNE.out, rfl, ?_⟩, HO1.out⟩
    have h := HR1.out
    exact ⟨_, _, _, _, _, _, ⟨h.c0, h.c1, h.f0, h.f1, h.h, h.wr, h.hi, h.wi, by have := h.hn; omega, by have := h.wn; omega, h.rb⟩⟩
  have HNR : Hid (¬ (T.quit who).Rch ho who) := fun e => by have := HB.out.2 (.inr e); cases this
  clear HB
  go_wp2_with fail
  go_loop [12] (fun y => ∃ j : Nat, j ≤ WL1.length ∧ y = .int .i64 (j : Int) ∧ Hid (∀ q (hq : q < WL1.length), q < j → WL1[q].2 < who)) (fun y => WL1.length - (intOf y).toNat)
  case atStart => exact ⟨0, by omega, rfl, (fun k _ hk => by omega)⟩
  case round =>
    obtain ⟨j, hj, rfl, HQ⟩ := hrel
    by_cases hlt : j < WL1.length
    · obtain ⟨g, e1, _, _, hcp, k1, k2⟩ := HR1.out.wr.at_ hlt
      obtain ⟨x, hx⟩ : ∃ x, WL1[j].2 = x := ⟨_, rfl⟩
      have HX := hide hx
      rw [hx] at k2
      clear hx
      subst e1
      by_cases hbl : x < who
      · have HBL := hide hbl
        go_wp2_with fail
        refine ⟨⟨j + 1, by omega, by go_num, ?_⟩, by simp [intOf]; omega⟩
        intro q hq hqj
        by_cases eq : q = j
        · subst eq; rw [HX.out]; exact HBL.out
        · exact HQ.out q hq (by omega)
      · have HST : Hid (∀ hq : j < WL1.length, ¬ WL1[j].2 < who) := fun hq => by rw [HX.out]; exact hbl
        have hA2 : (if cW1 = j then some (⟨g, 0, none⟩ : Addr) else some ⟨g, j * 2, none⟩) = some ⟨g, j * 2, none⟩ := if_neg (by omega)
        obtain ⟨v1, w2, v2, w3, a3, c3, w4, r1, r2, r3, q3, o1, o2, o3⟩ := ins_run HR1.out.wr hj (by omega) key who (HR1.out.wr.srcD hj hA2)
        have HI := hide (HR1.out.wi.queue (key := key) (T.quit_none who) hj HQ.out HST.out)
        have hll : (WL1.take j ++ [(key, who)] ++ WL1.drop j).length ≤ n + 1 := by
          simp only [List.length_append, List.length_take, List.length_drop, List.length_singleton]
          omega
        obtain ⟨NL, hNL⟩ : ∃ l, WL1.take j ++ [(key, who)] ++ WL1.drop j = l := ⟨_, rfl⟩
        rw [hNL] at r3 q3 HI hll
        have HA1 := hide r1
        have HA2 := hide r2
        have HA3 := hide r3
        have c02 : w2.cell? ⟨r, 1, none⟩ = some (.slice (some ⟨g, 0, none⟩) WL1.length cW1) := (HR1.out.more o1).c1
        have c03 : w3.cell? ⟨r, 1, none⟩ = some (.slice (some ⟨g, 0, none⟩) WL1.length cW1) := (HR1.out.more o2).c1
        have c04 : w4.cell? ⟨r, 1, none⟩ = some (.slice (some ⟨g, 0, none⟩) WL1.length cW1) := (HR1.out.more o3).c1
        have f04 : w4.frozen? ⟨r, 1, none⟩ = false := (HR1.out.more o3).f1
        have HR4 := hide (HR1.out.more o3)
        have HQ3 := hide q3
        have HO3 := hide o3
        have hjc : (j : Int) ≤ (cW1 : Int) := by omega
        have hjl : (j : Int) ≤ (WL1.length : Int) := by omega
        have hlc : (WL1.length : Int) ≤ (cW1 : Int) := by omega
        clear r1 r2 r3 q3 o1 o2 o3 hNL
        go_upto_region 20 with fail
        go_upto_region 21 with (at_builtin; go_must (refine Lib.wpList_append_run _ rfl (.tmp 102) (.tmp 108) _ _ rfl (.slice none 0 0) (.slice (some ⟨g, 0, none⟩) j cW1) rfl rfl _ _ HA1.out ?_); go_frame)
        go_upto_region 22 with (at_builtin; go_must (refine Lib.wpList_append_run _ rfl (.tmp 110) (.tmp 114) _ _ rfl v1 (.slice (some ⟨w2.heap.size, 0, none⟩) 1 1) rfl rfl _ _ HA2.out ?_); go_frame)
        go_wp2_with (at_builtin; go_must (refine Lib.wpList_append_run _ rfl (.tmp 117) (.tmp 123) _ _ rfl v2 (.slice (some ⟨g, j * 2, none⟩) (WL1.length - j) (cW1 - j)) rfl rfl _ _ HA3.out ?_); go_frame)
        go_ret2
        have HS : Only (fun i => i = r) w4 (w4.setCell ⟨r, 1, none⟩ (.slice a3 NL.length c3)) := Only.setCell (S := fun i => i = r) w4 ⟨r, 1, none⟩ _ rfl
        exact ⟨.inr ⟨HNR.out, rfl, _, _, a3, c3, _, NL, HR4.out.setW rfl (HQ3.out.base (by omega)) HI.out (by omega) hll⟩, (HO1.out.trans HO3.out (fun _ _ e => e.elim)).trans HS (fun _ _ e => e)⟩
    · have HST : Hid (∀ hq : j < WL1.length, ¬ WL1[j].2 < who) := fun hq => absurd hq hlt
      rcases HR1.out.wr.2 with ⟨e, h0⟩ | ⟨g, cap, cur, e, _, _, hcp, _⟩
      · injection e with e1 e2 e3
        subst e1
        subst e3
        have hL0 : WL1 = [] := List.eq_nil_of_length_eq_zero h0
        subst hL0
        obtain rfl : j = 0 := by simpa using hj
        obtain ⟨v1, w2, v2, w3, a3, c3, w4, r1, r2, r3, q3, o1, o2, o3⟩ := ins_run (j := 0) HR1.out.wr (Nat.le_refl _) (by simp) key who (A2 := none) ⟨by simp, .inl ⟨rfl, by simp⟩⟩
        have HI := hide (HR1.out.wi.queue (key := key) (T.quit_none who) hj HQ.out HST.out)
        have hll : (([] : List (ByteArray × Int)).take 0 ++ [(key, who)] ++ ([] : List (ByteArray × Int)).drop 0).length ≤ n + 1 := by
          simp only [List.length_append, List.length_take, List.length_drop, List.length_singleton]
          omega
        obtain ⟨NL, hNL⟩ : ∃ l, ([] : List (ByteArray × Int)).take 0 ++ [(key, who)] ++ ([] : List (ByteArray × Int)).drop 0 = l := ⟨_, rfl⟩
        rw [hNL] at r3 q3 HI hll
        have HA1 := hide r1
        have HA2 := hide r2
        have HA3 := hide r3
        have c02 : w2.cell? ⟨r, 1, none⟩ = some (.slice none ([] : List (ByteArray × Int)).length 0) := (HR1.out.more o1).c1
        have c03 : w3.cell? ⟨r, 1, none⟩ = some (.slice none ([] : List (ByteArray × Int)).length 0) := (HR1.out.more o2).c1
        have c04 : w4.cell? ⟨r, 1, none⟩ = some (.slice none ([] : List (ByteArray × Int)).length 0) := (HR1.out.more o3).c1
        have f04 : w4.frozen? ⟨r, 1, none⟩ = false := (HR1.out.more o3).f1
        have HR4 := hide (HR1.out.more o3)
        have HQ3 := hide q3
        have HO3 := hide o3
        have hjc : (0 : Int) ≤ (0 : Int) := by omega
        have hjl : (0 : Int) ≤ (([] : List (ByteArray × Int)).length : Int) := by omega
        have hlc : (([] : List (ByteArray × Int)).length : Int) ≤ (0 : Int) := by omega
        clear r1 r2 r3 q3 o1 o2 o3 hNL
        go_upto_region 20 with fail
        go_upto_region 21 with (at_builtin; go_must (refine Lib.wpList_append_run _ rfl (.tmp 102) (.tmp 108) _ _ rfl (.slice none 0 0) (.slice none 0 0) rfl rfl _ _ HA1.out ?_); go_frame)
        go_upto_region 22 with (at_builtin; go_must (refine Lib.wpList_append_run _ rfl (.tmp 110) (.tmp 114) _ _ rfl v1 (.slice (some ⟨w2.heap.size, 0, none⟩) 1 1) rfl rfl _ _ HA2.out ?_); go_frame)
        go_wp2_with (at_builtin; go_must (refine Lib.wpList_append_run _ rfl (.tmp 117) (.tmp 123) _ _ rfl v2 (.slice none 0 0) rfl rfl _ _ HA3.out ?_); go_frame)
        go_ret2
        have HS : Only (fun i => i = r) w4 (w4.setCell ⟨r, 1, none⟩ (.slice a3 NL.length c3)) := Only.setCell (S := fun i => i = r) w4 ⟨r, 1, none⟩ _ rfl
        exact ⟨.inr ⟨HNR.out, rfl, _, _, a3, c3, _, NL, HR4.out.setW rfl (HQ3.out.base (by omega)) HI.out (by omega) hll⟩, (HO1.out.trans HO3.out (fun _ _ e => e.elim)).trans HS (fun _ _ e => e)⟩
      · injection e with e1 e2 e3
        subst e1
        subst e3
        have hcp : WL1.length ≤ cW1 := hcp
        clear e2
        obtain ⟨A2, hA2⟩ : ∃ A2, (if cW1 = j then some (⟨g, 0, none⟩ : Addr) else some ⟨g, j * 2, none⟩) = A2 := ⟨_, rfl⟩
        obtain ⟨v1, w2, v2, w3, a3, c3, w4, r1, r2, r3, q3, o1, o2, o3⟩ := ins_run HR1.out.wr hj (by omega) key who (HR1.out.wr.srcD hj hA2)
        have HI := hide (HR1.out.wi.queue (key := key) (T.quit_none who) hj HQ.out HST.out)
        have hll : (WL1.take j ++ [(key, who)] ++ WL1.drop j).length ≤ n + 1 := by
          simp only [List.length_append, List.length_take, List.length_drop, List.length_singleton]
          omega
        obtain ⟨NL, hNL⟩ : ∃ l, WL1.take j ++ [(key, who)] ++ WL1.drop j = l := ⟨_, rfl⟩
        rw [hNL] at r3 q3 HI hll
        have HA1 := hide r1
        have HA2 := hide r2
        have HA3 := hide r3
        have c02 : w2.cell? ⟨r, 1, none⟩ = some (.slice (some ⟨g, 0, none⟩) WL1.length cW1) := (HR1.out.more o1).c1
        have c03 : w3.cell? ⟨r, 1, none⟩ = some (.slice (some ⟨g, 0, none⟩) WL1.length cW1) := (HR1.out.more o2).c1
        have c04 : w4.cell? ⟨r, 1, none⟩ = some (.slice (some ⟨g, 0, none⟩) WL1.length cW1) := (HR1.out.more o3).c1
        have f04 : w4.frozen? ⟨r, 1, none⟩ = false := (HR1.out.more o3).f1
        have HR4 := hide (HR1.out.more o3)
        have HQ3 := hide q3
        have HO3 := hide o3
        have hjc : (j : Int) ≤ (cW1 : Int) := by omega
        have hjl : (j : Int) ≤ (WL1.length : Int) := by omega
        have hlc : (WL1.length : Int) ≤ (cW1 : Int) := by omega
        clear r1 r2 r3 q3 o1 o2 o3 hNL
        go_upto_region 20 with fail
        go_upto_region 21 with (at_builtin; go_must (refine Lib.wpList_append_run _ rfl (.tmp 102) (.tmp 108) _ _ rfl (.slice none 0 0) (.slice (some ⟨g, 0, none⟩) j cW1) rfl rfl _ _ HA1.out ?_); go_frame)
        go_upto_region 22 with (at_builtin; go_must (refine Lib.wpList_append_run _ rfl (.tmp 110) (.tmp 114) _ _ rfl v1 (.slice (some ⟨w2.heap.size, 0, none⟩) 1 1) rfl rfl _ _ HA2.out ?_); go_frame)
        go_wp2_with (at_builtin; go_must (refine Lib.wpList_append_run _ rfl (.tmp 117) (.tmp 123) _ _ rfl v2 (.slice A2 (WL1.length - j) (cW1 - j)) rfl rfl _ _ HA3.out ?_); go_frame)
        go_ret2
        have HS : Only (fun i => i = r) w4 (w4.setCell ⟨r, 1, none⟩ (.slice a3 NL.length c3)) := Only.setCell (S := fun i => i = r) w4 ⟨r, 1, none⟩ _ rfl
        exact ⟨.inr ⟨HNR.out, rfl, _, _, a3, c3, _, NL, HR4.out.setW rfl (HQ3.out.base (by omega)) HI.out (by omega) hll⟩, (HO1.out.trans HO3.out (fun _ _ e => e.elim)).trans HS (fun _ _ e => e)⟩
end Go.Proofs.Ytmmhmgndokaklaa
