/- Walk of RecBack. -/
import Derived.Test.YtebbfpdmcknkkaaGreatDoorRLawT
namespace Go.Proofs.YtebbfpdmcknkkaaGreatDoor
open Go.RowKit

set_option maxRecDepth 100000 in
set_option maxHeartbeats 3200000 in
theorem rback_law (w : World) (r : Rc) (L : Loc) (hat : RcAt w r L) (behind : ByteArray) (cut : Int) (hb : behind.size ≤ 140737488355328) : Calls Tryz.prog 5 #[.agg (r.cells L), .string behind, .int .i64 cut] w fun e w' => e = .returned (.bool true) ∧ Only (fun _ => False) w w' := by
  have HAT0 := hide hat
  obtain ⟨T, him⟩ := hat.images
  have HLS := hide him.lsn
  have HO0 := hide (onlyA w (.cells (r.cells L) 28))
  have HRN0 := hide (range_new w r L)
  obtain ⟨W0, hW0⟩ : ∃ W0, w.alloc (.cells (r.cells L) 28) = W0 := ⟨_, rfl⟩
  rw [hW0] at HO0 HRN0
  have HW0 := hide hW0
  obtain ⟨b0, hb0⟩ : ∃ b0, w.heap.size = b0 := ⟨_, rfl⟩
  have HB0 := hide hb0
  have hb0' : b0 < W0.heap.size := by rw [← hW0, ← hb0]; simp
  rw [hb0] at HRN0
  clear hat him hW0 hb0
  go_enter Tryz.func5, Tryz.ntmps5
  go_upto_region 1 with fail
  rw [HB0.out, HW0.out]
  go_wp2_with (refine wpList_load_rec rfl (.tmp 3) rfl b0 rfl r L HRN0.out ?_; go_frame)
  refine (rencode_any W0 r L (HAT0.out.go HO0.out)).mono ?_
  rintro e w1 hq
  have HO1 := hide (o2 HO0.out hq.only)
  have HRN1 := hide (range_kept HRN0.out hq.only (fun h => h))
  have hsz1 := hq.only.size
  have hb1 : b0 < w1.heap.size := by omega
  by_cases hv : r.valid
  · have he := hq.ok hv
    subst he
    have HV := hide hv
    have hlen := hv.len
    obtain ⟨E, hE⟩ : ∃ E, str r.enc = E := ⟨_, rfl⟩
    have hbE : bl E = r.enc := by rw [← hE, bl_str]
    have sE : E.size = r.enc.length := by rw [← bl_len, hbE]
    have hE1 : E.size ≤ 65543 := by rw [sE, renc_len]; omega
    have hE0 : 1 ≤ E.size := by rw [sE, renc_len]; omega
    have HBE := hide hbE
    have HSE := hide sE
    rw [hE]
    clear hv hq hE hbE sE hlen hsz1
    have hcat : ¬ (9223372036854775807 : Int) < (E.size : Int) + (behind.size : Int) := by omega
    have HBC : Hid (bl (E ++ behind) = r.enc ++ bl behind) := by
      unfold Hid
      rw [← str_bl E, ← str_bl behind, str_cat, bl_str, HBE.out, bl_str]
    have HSC : Hid ((E ++ behind).size ≤ 9223372036854775807) := by
      unfold Hid
      rw [ByteArray.size_append]; omega
    go_wp2_with fail
    refine (rdecode_any w1 (E ++ behind) HSC.out).mono ?_
    rintro e w2 hq
    obtain ⟨q, n, c, L2, hd, hat2, rfl⟩ := hq.ex
    rw [HBC.out] at hd
    obtain ⟨hqr, hn, hc⟩ := dec_back HV.out HLS.out hd
    subst hqr
    have hn2 : n = (E.size : Int) := by rw [hn, HSE.out]
    clear hn hd
    subst hn2 hc
    have HAT2 := hide hat2
    have HO2 := hide (o2 HO1.out hq.only)
    have HRN2 := hide (range_kept HRN1.out hq.only (fun h => h))
    have hsz2 := hq.only.size
    have hb2 : b0 < w2.heap.size := by omega
    have HNEW := hide (there_new w2 Rc.none Loc.none)
    have HOA := hide (onlyA w2 (.cells (Rc.none.cells Loc.none) 28))
    clear hq hat2 hsz2
    go_upto_region 5 with (refine wpList_lay_rec rfl (.tmp 9) (.tmp 32) rfl w2.heap.size rfl q L2 rfl HNEW.out ?_; intro W3 HW3; go_frame)
    have HK3 : Hid (Only (fun _ => False) w2 W3) := HOA.out.trans HW3.out.only (fun i hi e => by omega)
    have HO3 := hide (o2 HO2.out HK3.out)
    obtain ⟨b3, hb3⟩ : ∃ b3, w2.heap.size = b3 := ⟨_, rfl⟩
    have HRN3 := hide HW3.out.range
    rw [hb3] at HRN3 ⊢
    have hb3' : b3 < W3.heap.size := by
      have h1 := HW3.out.only.size
      simp at h1
      omega
    have HB3 := hide hb3
    clear hb3
    go_wp2_with fail
    obtain ⟨X, hX⟩ : ∃ X, E.extract 0 (min (max cut 0) (max 0 ((E.size : Int) - 1))).toNat = X := ⟨_, rfl⟩
    have hkk : (min (max cut 0) (max 0 ((E.size : Int) - 1))).toNat < E.size := by omega
    have bX : bl X = q.enc.take (min (max cut 0) (max 0 ((E.size : Int) - 1))).toNat := by rw [← hX, ext_bl, List.drop_zero, HBE.out]
    have sX : X.size ≤ 65543 := by rw [← bl_len, bX, List.length_take]; omega
    rw [HSE.out] at hkk
    have HKK := hide hkk
    have HBX := hide bX
    rw [hX]
    clear hX bX hkk
    refine (rdecode_any W3 X (by unfold maxLen; omega)).mono ?_
    rintro e w4 hq
    obtain ⟨q3, n3, c3, L3, hd3, _, rfl⟩ := hq.ex
    rw [HBX.out] at hd3
    have hc3 := dec_cut HV.out (by rw [← HSE.out] at HKK ⊢; exact HKK.out) hd3
    subst hc3
    have HNEW4 := hide (there_new w4 Rc.none Loc.none)
    have HOA4 := hide (onlyA w4 (.cells (Rc.none.cells Loc.none) 28))
    have HK4 := hide hq.only
    have hsz4 := hq.only.size
    have hb4 : b0 < w4.heap.size ∧ b3 < w4.heap.size := by have := HK3.out.size; omega
    clear hq hd3 hsz4
    go_upto_region 6 with (refine wpList_lay_rec rfl (.tmp 12) (.tmp 46) rfl w4.heap.size rfl q3 L3 rfl HNEW4.out ?_; intro W5 HW5; go_frame)
    have HK5 : Hid (Only (fun _ => False) W3 W5) := (o2 HK4.out HOA4.out).trans HW5.out.only (fun i hi e => by have := HK4.out.size; omega)
    have HO5 := hide (o2 HO3.out HK5.out)
    have HRA := hide (range_kept HRN3.out HK5.out (fun h => h))
    have HRB := hide (range_kept (range_kept HRN2.out HK3.out (fun h => h)) HK5.out (fun h => h))
    go_wp2_with (first
      | (refine wpList_loadg_rec rfl (.tmp 9) rfl b3 rfl q L2 HRA.out ?_; go_frame)
      | (refine wpList_loadg_rec rfl (.tmp 3) rfl b0 rfl q L HRB.out ?_; go_frame))
    refine (rsame_any W5 q q L2 L (HAT2.out.go (o2 HK3.out HK5.out)) (HAT0.out.go HO5.out)).mono ?_
    rintro e w6 ⟨hrb, ho6⟩
    obtain ⟨cc, rfl, hcc⟩ := hrb.ex
    have hct := hcc.2 rfl
    subst hct
    have HO6 := hide (o2 HO5.out ho6)
    clear hrb hcc ho6
    go_wp2_with fail
    refine (rawake_any w6).mono ?_
    rintro e w7 ⟨rfl, ho7⟩
    have HO7 := hide (o2 HO6.out ho7)
    clear ho7
    go_wp2_with fail
    go_ret
    exact ⟨ret_bool (by simp), HO7.out⟩
  · obtain ⟨c, hc, _, rfl⟩ := hq.bad hv
    have hc' : (c != 0) = true := by simpa using hc
    clear hq hv hc
    go_wp2_with fail
    refine (rawake_any w1).mono ?_
    rintro e w7 ⟨rfl, ho7⟩
    have HO7 := hide (o2 HO1.out ho7)
    clear ho7
    go_wp2_with fail
    go_ret
    exact ⟨rfl, HO7.out⟩
end Go.Proofs.YtebbfpdmcknkkaaGreatDoor
