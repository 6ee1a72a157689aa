/- Walk of RecTorn. -/
import Derived.Test.YtebbfpdmcknkkaaGreatDoorRLawT
namespace Go.Proofs.YtebbfpdmcknkkaaGreatDoor
open Go.RowKit

theorem torn_ne (l : List UInt8) (k : Nat) (b : UInt8) (hk : k < l.length) (hb : l.getD k 0 ≠ b) : l.take k ++ [b] ++ l.drop (k + 1) ≠ l := by
  intro h
  have h1 : (l.take k ++ [b] ++ l.drop (k + 1)).getD k 0 = l.getD k 0 := by rw [h]
  have h2 : (l.take k ++ [b] ++ l.drop (k + 1)).getD k 0 = b := by
    have hl : (l.take k).length = k := by rw [List.length_take]; omega
    rw [List.append_assoc, List.getD_eq_getElem?_getD, List.getElem?_append_right (by omega), hl]
    simp
  rw [h2] at h1
  exact hb h1.symm
set_option maxRecDepth 100000 in
set_option maxHeartbeats 3200000 in
theorem rtorn_law (w : World) (r : Rc) (L : Loc) (hat : RcAt w r L) (at' : Int) (b : Int) (b0' : 0 ≤ b) (b1' : b < 256) : Calls Tryz.prog 7 #[.agg (r.cells L), .int .i64 at', .int .u8 b] w fun e w' => e = .returned (.bool true) ∧ Only (fun _ => False) w w' := by
  have HAT0 := hide hat
  have HO0 := hide (onlyA w (.cells (r.cells L) 28))
  have HRN0 := hide (range_new w r L)
  obtain ⟨W0, hW0⟩ : ∃ W0, w.alloc (.cells (r.cells L) 28) = W0 := ⟨_, rfl⟩
  rw [hW0] at HO0 HRN0
  have HW0 := hide hW0
  obtain ⟨b0, hb0⟩ : ∃ b0, w.heap.size = b0 := ⟨_, rfl⟩
  have HB0 := hide hb0
  have hb0' : b0 < W0.heap.size := by rw [← hW0, ← hb0]; simp
  rw [hb0] at HRN0
  clear hat hW0 hb0
  go_enter Tryz.func7, Tryz.ntmps7
  go_upto_region 1 with fail
  rw [HB0.out, HW0.out]
  go_wp2_with (refine wpList_load_rec rfl (.tmp 3) rfl b0 rfl r L HRN0.out ?_; go_frame)
  refine (rencode_any W0 r L (HAT0.out.go HO0.out)).mono ?_
  rintro e w1 hq
  have HO1 := hide (o2 HO0.out hq.only)
  have HRN1 := hide (range_kept HRN0.out hq.only (fun h => h))
  have hsz1 := hq.only.size
  have hb1 : b0 < w1.heap.size := by omega
  have HAW : Hid (∀ W, Only (fun _ => False) w W → Calls Tryz.prog 15 #[] W fun e w' => e = .returned (.bool true) ∧ Only (fun _ => False) w w') := fun W hW => (rawake_any W).mono fun e w' hx => ⟨hx.1, o2 hW hx.2⟩
  by_cases hv : r.valid
  · have he := hq.ok hv
    subst he
    have HV := hide hv
    have hlen := hv.len
    obtain ⟨E, hE⟩ : ∃ E, str r.enc = E := ⟨_, rfl⟩
    have hbE : bl E = r.enc := by rw [← hE, bl_str]
    have sE : E.size = r.enc.length := by rw [← bl_len, hbE]
    have hE1 : E.size ≤ 65543 := by rw [sE, renc_len]; omega
    have HBE := hide hbE
    have HSE := hide sE
    rw [hE]
    clear hv hq hE hbE sE hlen hsz1
    by_cases h0 : at' < 0
    · go_wp2_with fail
      refine (HAW.out _ HO1.out).mono ?_
      rintro e w7 ⟨rfl, ho7⟩
      have HO7 := hide ho7
      clear ho7
      go_wp2_with fail
      go_ret
      exact ⟨rfl, HO7.out⟩
    · obtain ⟨k, rfl⟩ := Int.eq_ofNat_of_zero_le (by omega : 0 ≤ at')
      by_cases h1 : E.size ≤ k
      · have h1' : (E.size : Int) ≤ (k : Int) := by omega
        go_wp2_with fail
        refine (HAW.out _ HO1.out).mono ?_
        rintro e w7 ⟨rfl, ho7⟩
        have HO7 := hide ho7
        clear ho7
        go_wp2_with fail
        go_ret
        exact ⟨rfl, HO7.out⟩
      · have hk : k < E.size := by omega
        have hk' : (k : Int) < (E.size : Int) := by omega
        by_cases h2 : ((E[k].toNat : Int) == b) = true
        · go_wp2_with fail
          refine (HAW.out _ HO1.out).mono ?_
          rintro e w7 ⟨rfl, ho7⟩
          have HO7 := hide ho7
          clear ho7
          go_wp2_with fail
          go_ret
          exact ⟨rfl, HO7.out⟩
        · have h2' : ((E[k].toNat : Int) == b) = false := by simpa using h2
          have HNE : Hid ((bl E).getD k 0 ≠ u8 b) := by
            intro h
            have h3 := u8_to b b0' b1'
            rw [← h, ← idx hk] at h3
            rw [h3] at h2'
            simp at h2'
          clear h2 h0 h1
          have hkE : k ≤ E.size := by omega
          have hk1 : (k : Int) + 1 ≤ (E.size : Int) := by omega
          have hk0 : (k : Int) ≤ (E.size : Int) := by omega
          obtain ⟨A, hA⟩ : ∃ A, E.extract 0 k = A := ⟨_, rfl⟩
          obtain ⟨C, hC⟩ : ∃ C, E.extract (k + 1) E.size = C := ⟨_, rfl⟩
          obtain ⟨B, hB⟩ : ∃ B, str [u8 b] = B := ⟨_, rfl⟩
          have bA : bl A = (bl E).take k := by rw [← hA, ext_bl, List.drop_zero]
          have bC : bl C = (bl E).drop (k + 1) := by rw [← hC, ext_bl, List.take_of_length_le (by rw [bl_len]; exact Nat.le_refl _)]
          have sA : A.size ≤ 65543 := by rw [← bl_len, bA, List.length_take]; omega
          have sC : C.size ≤ 65543 := by rw [← bl_len, bC, List.length_drop, bl_len]; omega
          have sB : B.size ≤ 1 := by rw [← hB, str_size]; exact Nat.le_refl _
          have sAB : (A ++ B).size = A.size + B.size := ByteArray.size_append
          have sABC : (A ++ B ++ C).size = A.size + B.size + C.size := by rw [ByteArray.size_append, sAB]
          have HT : Hid (bl (A ++ B ++ C) = (bl E).take k ++ [u8 b] ++ (bl E).drop (k + 1)) := by
            unfold Hid
            rw [← str_bl A, ← hB, ← str_bl C, str_cat, str_cat, bl_str, bA, bC]
          have HTS : Hid ((A ++ B ++ C).size ≤ 131090) := by unfold Hid; omega
          have hx1 : ¬ (9223372036854775807 : Int) < (A.size : Int) + (B.size : Int) := by omega
          have hx2 : ¬ (9223372036854775807 : Int) < ((A ++ B).size : Int) + (C.size : Int) := by omega
          have hu8 := u8_to b b0' b1'
          have hcv : (convert 39 9 (.slice (some ⟨w1.heap.size, 0, none⟩) 1 1)).run Tryz.prog (w1.alloc (.cells #[.int .u8 b] 5)).drew = .ok (.string B) (w1.alloc (.cells #[.int .u8 b] 5)).drew := by
            have h9 := run_convert_bytes_back (P := Tryz.prog) (w1.alloc (.cells #[.int .u8 b] 5)).drew 39 9 5 ⟨w1.heap.size, 0, none⟩ 1 [u8 b] Tryz.underlying39 Tryz.underlying5 Tryz.underlying9 (by
              intro j hj
              have e : j = 0 := by simpa using hj
              subst e
              rw [add_at]
              simp [hu8])
            rw [← hB]
            exact h9
          have HOB := hide (o2 (onlyA w1 (.cells #[.int .u8 b] 5)) (Only.drew (fun _ => False) _))
          clear bA bC sA sC sB sAB sABC hB hu8
          go_upto_region 4 with fail
          go_region
          go_wp2_with fail
          clear hcv
          refine (rdecode_any _ (A ++ B ++ C) (by unfold maxLen; have := HTS.out; omega)).mono ?_
          rintro e w2 hq
          obtain ⟨q, n, c, L2, hd, hat2, rfl⟩ := hq.ex
          rw [HT.out] at hd
          have HX : Hid (c = 0 → q ≠ r) := by
            intro hc hqr
            subst hqr
            rcases dec_there hd with ⟨_, _, _, _, _, htk⟩ | ⟨h, _, _⟩
            · have hkl : k < (bl E).length := by rw [bl_len]; exact hk
              refine torn_ne (bl E) k (u8 b) hkl HNE.out ?_
              rw [List.take_of_length_le (by rw [← HBE.out]; simp; omega), ← HBE.out] at htk
              exact htk
            · rename_i h3 h4
              rcases h4 with h4 | h4 | h4 <;> omega
          have HAT2 := hide hat2
          have HO2 := hide (o2 (o2 HO1.out HOB.out) hq.only)
          have HRN2 := hide (range_kept (range_kept HRN1.out HOB.out (fun h => h)) hq.only (fun h => h))
          have hsz2 := hq.only.size
          have hszB := HOB.out.size
          have hb2 : b0 < w2.heap.size := by omega
          have HNEW := hide (there_new w2 Rc.none Loc.none)
          have HOA := hide (onlyA w2 (.cells (Rc.none.cells Loc.none) 28))
          clear hq hat2 hsz2 hszB hd
          go_upto_region 6 with (refine wpList_lay_rec rfl (.tmp 10) (.tmp 53) rfl w2.heap.size rfl q L2 rfl HNEW.out ?_; intro W3 HW3; go_frame)
          have HK3 : Hid (Only (fun _ => False) w2 W3) := HOA.out.trans HW3.out.only (fun i hi e => by omega)
          have HO3 := hide (o2 HO2.out HK3.out)
          obtain ⟨b3, hb3⟩ : ∃ b3, w2.heap.size = b3 := ⟨_, rfl⟩
          have HRA := hide HW3.out.range
          have HRB := hide (range_kept HRN2.out HK3.out (fun h => h))
          rw [hb3] at HRA ⊢
          clear hb3
          by_cases hc : c = 0
          · subst hc
            have hqr := HX.out rfl
            by_cases hn : n = (E.size : Int)
            · subst hn
              go_wp2_with (first
                | (refine wpList_loadg_rec rfl (.tmp 10) rfl b3 rfl q L2 HRA.out ?_; go_frame)
                | (refine wpList_loadg_rec rfl (.tmp 3) rfl b0 rfl r L HRB.out ?_; go_frame))
              refine (rsame_any W3 q r L2 L (HAT2.out.go HK3.out) (HAT0.out.go HO3.out)).mono ?_
              rintro e w6 ⟨hrb, ho6⟩
              obtain ⟨cc, rfl, hcc⟩ := hrb.ex
              have hct : cc = false := by
                cases cc
                · rfl
                · exact absurd (hcc.1 rfl) hqr
              subst hct
              have HO6 := hide (o2 HO3.out ho6)
              clear hrb hcc ho6 hqr
              go_wp2_with fail
              refine (HAW.out _ HO6.out).mono ?_
              rintro e w7 ⟨rfl, ho7⟩
              have HO7 := hide ho7
              clear ho7
              go_wp2_with fail
              go_ret
              exact ⟨ret_bool (by simp), HO7.out⟩
            · have hn' : (n != (E.size : Int)) = true := by simpa using hn
              go_wp2_with fail
              refine (HAW.out _ HO3.out).mono ?_
              rintro e w7 ⟨rfl, ho7⟩
              have HO7 := hide ho7
              clear ho7
              go_wp2_with fail
              go_ret
              exact ⟨ret_bool (by simp), HO7.out⟩
          · have hc' : (c != 0) = true := by simpa using hc
            go_wp2_with fail
            refine (HAW.out _ HO3.out).mono ?_
            rintro e w7 ⟨rfl, ho7⟩
            have HO7 := hide ho7
            clear ho7
            go_wp2_with fail
            go_ret
            exact ⟨ret_bool (by simp), HO7.out⟩
  · obtain ⟨c, hc, _, rfl⟩ := hq.bad hv
    have hc' : (c != 0) = true := by simpa using hc
    clear hq hv hc
    go_wp2_with fail
    refine (HAW.out _ HO1.out).mono ?_
    rintro e w7 ⟨rfl, ho7⟩
    have HO7 := hide ho7
    clear ho7
    go_wp2_with fail
    go_ret
    exact ⟨rfl, HO7.out⟩
end Go.Proofs.YtebbfpdmcknkkaaGreatDoor
