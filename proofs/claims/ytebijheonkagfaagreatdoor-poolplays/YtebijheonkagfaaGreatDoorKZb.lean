/- The document's Encode of a record. -/
import Derived.Test.YtebijheonkagfaaGreatDoorKZBody
namespace Go.Proofs.YtebijheonkagfaaGreatDoor
open Go.RowKit
set_option maxRecDepth 100000 in
set_option maxHeartbeats 3200000 in
theorem zcheck_any (w : World) (r : Rc) (L : Loc) (h : RcAt w r L) :
    Calls Tryz.prog 91 #[.agg (r.cells L)] w fun e w' => CkQ w w' e r := by
  have HR := hide h; have hk0 := h.kind.1; have hk1 := h.kind.2; clear h; have HO0 := hide (onlyA w (.cells (r.cells L) 59)); have HB := hide (Bx.new w r L); obtain ⟨W0, hW0⟩ : ∃ W0, w.alloc (.cells (r.cells L) 59) = W0 := ⟨_, rfl⟩; rw [hW0] at HO0 HB; have HW0 := hide hW0; clear hW0
  by_cases hk : 1 ≤ r.kind ∧ r.kind ≤ 13
  · obtain ⟨k0, k1⟩ := hk
    have k0' : ¬ r.kind < 1 := by omega
    have k1' : ¬ 13 < r.kind := by omega
    go_enter Tryz.func91, Tryz.ntmps91
    go_wp2_with fail
    rw [HW0.out]; refine (zranges_any W0 r L (HR.out.go HO0.out)).mono ?_; rintro e w1 ⟨hb, ho1⟩; obtain ⟨c, rfl, hc⟩ := hb.ex; have HC1 := hide hc; have HO1 := hide (o2 HO0.out ho1); have HB1 := hide (HB.out.more ho1); clear hc hb ho1
    cases c with
    | false =>
      go_wp2_with fail
      go_ret
      exact ⟨⟨([], 4), bd_rng ⟨k0, k1⟩ (fun h => by have := HC1.out.2 h; simp at this), rfl⟩, HO1.out⟩
    | true =>
      have HRG := hide (HC1.out.1 (by trivial)); obtain ⟨_, _, _, _, _, _, _, _, _, _, b10, b11, b12, b13, b14, b15, _⟩ := HB1.out
      by_cases q0 : r.data.size ≤ 512
      · have q0' : ¬ (512 : Int) < (r.data.size : Int) := by omega
        by_cases q1 : r.slots.length ≤ 255
        · have q1' : ¬ (255 : Int) < (r.slots.length : Int) := by omega
          by_cases q2 : r.more.length ≤ 255
          · have q2' : ¬ (255 : Int) < (r.more.length : Int) := by omega
            by_cases q3 : r.images.length ≤ 4
            · have q3' : ¬ (4 : Int) < (r.images.length : Int) := by omega
              by_cases q4 : r.pages.length ≤ 8192
              · have q4' : ¬ (8192 : Int) < (r.pages.length : Int) := by omega
                by_cases q5 : r.txns.length ≤ 1024
                · have q5' : ¬ (1024 : Int) < (r.txns.length : Int) := by omega
                  have HSH : Hid r.short := ⟨q0, q1, q2, q3, q4, q5⟩; have HR1 := hide (HR.out.go HO1.out); obtain ⟨T, hims⟩ := HR1.out.images; have HI := hide hims; clear hims
                  go_wp2_with fail
                  clear b10 b11 b12 b13 b14 b15 q0' q1' q2' q3' q4' q5'
                  go_loopw [3, 4, 5] (fun x _ _ wr => ∃ (j : Nat), j ≤ r.images.length ∧ x = .int .i64 (j : Int) ∧ Hid (imErr (r.images.take j) = 0) ∧ Hid (Only (fun _ => False) w1 wr)) (fun x _ _ _ => r.images.length - (intOf x).toNat)
                  case atStart => exact ⟨0, by omega, rfl, rfl, Only.refl _ _⟩
                  case round =>
                    obtain ⟨j, hj, rfl, HE, HX⟩ := hrel; have b13 := (HB1.out.more HX.out).c13
                    by_cases hlt : j < r.images.length
                    · have hj1 : (j : Int) < (r.images.length : Int) := by omega
                      obtain ⟨o, e1, c1⟩ := (HI.out.more HX.out).at_ (by omega); obtain ⟨D, a, c, kim, _⟩ := c1 j hlt; obtain ⟨z, hz⟩ : ∃ z, r.images[j] = z := ⟨_, rfl⟩
                      have HT : Hid (r.images.take (j + 1) = r.images.take j ++ [z]) := by unfold Hid; rw [List.take_succ_eq_append_getElem hlt, hz]
                      rw [hz] at kim
                      have HOUT : Hid (imErr (r.images.take (j + 1)) = z.body.out.2) := by unfold Hid; rw [HT.out]; exact imErr_app _ _ HE.out
                      have HEN := hide (yencode_any wr z.body.lsn z.body.kind z.body.level z.body.right z.body.high D c a z.body.items kim.strs kim.high kim.lsn); have d1 := kim.c1; have d2 := kim.c2; have d3 := kim.c3; have d4 := kim.c4; have d5 := kim.c5; have d6 := kim.c6; rw [e1] at b13; clear c1 hz kim e1
                      go_wp2_with fail
                      refine HEN.out.mono ?_; rintro e w2 ⟨rfl, ho2⟩; have HX2 := hide (o2 HX.out ho2); have HB2 := hide (HB1.out.more HX2.out); obtain ⟨X, hX⟩ : ∃ X, str (Pg.out ⟨z.body.lsn, z.body.kind, z.body.level, z.body.right, z.body.high, z.body.items⟩).1 = X := ⟨_, rfl⟩; obtain ⟨q, hq⟩ : ∃ q, (Pg.out ⟨z.body.lsn, z.body.kind, z.body.level, z.body.right, z.body.high, z.body.items⟩).2 = q := ⟨_, rfl⟩; rw [hX, hq]; have HQ : Hid (z.body.out.2 = q) := hq; clear hX hq ho2 b13 d1 d2 d3 d4 d5 d6
                      by_cases hc : q = 0
                      · have hc' : (q != 0) = false := by simpa using hc
                        have HC0 := hide hc; clear hc
                        go_wp2_with fail
                        go_roundw
                        case rel => exact ⟨j + 1, by omega, by go_num, HOUT.out.trans (HQ.out.trans HC0.out), HX2⟩
                        case measure => simp [intOf]; omega
                      · have hc' : (q != 0) = true := by simpa using hc
                        have HC0 := hide hc; clear hc
                        have HER : Hid (imErr r.images = q) := by
                          unfold Hid; rw [← HQ.out, ← HOUT.out]
                          exact imErr_take r.images (j + 1) (by rw [HOUT.out, HQ.out]; exact HC0.out)
                        go_wp2_with fail
                        go_ret
                        refine ⟨⟨([], imErr r.images), bd_ims ⟨k0, k1⟩ HRG.out HSH.out (by rw [HER.out]; exact HC0.out), ?_⟩, o2 HO1.out HX2.out⟩; rw [HER.out]; rfl
                    · have hj1 : ¬ (j : Int) < (r.images.length : Int) := by omega
                      have ej : r.images.take j = r.images := List.take_of_length_le (by omega); rw [ej] at HE; clear b13; obtain ⟨b0, b1, b2, b3, b4, b5, b6, b7, b8, b9, b10, b11, b12, b13, b14, b15, _⟩ := HB1.out.more HX.out; have HR2 := hide (HR1.out.go HX.out)
                      go_wp2_with fail
                      refine (zbody_any wr r L HR2.out k0 k1 HRG.out HSH.out HE.out).mono ?_; rintro e w4 ⟨rfl, ho4⟩; have HO4 := hide (o2 HO1.out (o2 HX.out ho4)); clear ho4 b0 b1 b2 b3 b4 b5 b6 b7 b8 b9 b10 b11 b12 b13 b14 b15; obtain ⟨X, hX⟩ : ∃ X, str r.lay = X := ⟨_, rfl⟩
                      have hXs : X.size = r.lay.length := by rw [← hX, str_size]
                      rw [hX]; clear hX
                      by_cases hl : 65535 < r.lay.length
                      · have hl' : (65535 : Int) < (X.size : Int) := by omega
                        clear hXs
                        go_wp2_with fail
                        go_ret
                        exact ⟨⟨([], 3), bd_len ⟨k0, k1⟩ HRG.out HSH.out HE.out hl, rfl⟩, HO4.out⟩
                      · have hl' : ¬ (65535 : Int) < (X.size : Int) := by omega
                        clear hXs
                        go_wp2_with fail
                        go_ret
                        exact ⟨⟨(r.lay, 0), bd_ok ⟨k0, k1, HRG.out, HSH.out, HE.out, by omega⟩, rfl⟩, HO4.out⟩
                · have q5' : (1024 : Int) < (r.txns.length : Int) := by omega
                  go_wp2_with fail
                  go_ret
                  exact ⟨⟨([], 3), bd_short ⟨k0, k1⟩ HRG.out (fun h => q5 h.txns), rfl⟩, HO1.out⟩
              · have q4' : (8192 : Int) < (r.pages.length : Int) := by omega
                go_wp2_with fail
                go_ret
                exact ⟨⟨([], 3), bd_short ⟨k0, k1⟩ HRG.out (fun h => q4 h.pages), rfl⟩, HO1.out⟩
            · have q3' : (4 : Int) < (r.images.length : Int) := by omega
              go_wp2_with fail
              go_ret
              exact ⟨⟨([], 3), bd_short ⟨k0, k1⟩ HRG.out (fun h => q3 h.images), rfl⟩, HO1.out⟩
          · have q2' : (255 : Int) < (r.more.length : Int) := by omega
            go_wp2_with fail
            go_ret
            exact ⟨⟨([], 3), bd_short ⟨k0, k1⟩ HRG.out (fun h => q2 h.more), rfl⟩, HO1.out⟩
        · have q1' : (255 : Int) < (r.slots.length : Int) := by omega
          go_wp2_with fail
          go_ret
          exact ⟨⟨([], 3), bd_short ⟨k0, k1⟩ HRG.out (fun h => q1 h.slots), rfl⟩, HO1.out⟩
      · have q0' : (512 : Int) < (r.data.size : Int) := by omega
        go_wp2_with fail
        go_ret
        exact ⟨⟨([], 3), bd_short ⟨k0, k1⟩ HRG.out (fun h => q0 h.data), rfl⟩, HO1.out⟩
  · by_cases hk2 : r.kind < 1
    · go_enter Tryz.func91, Tryz.ntmps91
      go_wp2_with fail
      rw [HW0.out]
      go_ret
      exact ⟨⟨([], 41), bd_kind (by omega), rfl⟩, HO0.out⟩
    · have hk3 : 13 < r.kind := by omega
      clear hk
      go_enter Tryz.func91, Tryz.ntmps91
      go_wp2_with fail
      rw [HW0.out]
      go_ret
      exact ⟨⟨([], 41), bd_kind (by omega), rfl⟩, HO0.out⟩
theorem zout_zero {r : Rc} {o : List UInt8 × Int} (h : r.Out o) (h2 : o.2 = 0) : r.valid := by
  rcases h.cases with ⟨hv, _⟩ | ⟨_, _, h3⟩
  · exact hv
  · exact absurd h2 h3
set_option maxRecDepth 100000 in
set_option maxHeartbeats 1600000 in
theorem zencode_any (w : World) (r : Rc) (L : Loc) (h : RcAt w r L) :
    Calls Tryz.prog 62 #[.agg (r.cells L)] w fun e w' => EnQ w w' e r := by
  have HR := hide h; clear h; have HO0 := hide (onlyA w (.cells (r.cells L) 59)); have HB := hide (Bx.new w r L); obtain ⟨W0, hW0⟩ : ∃ W0, w.alloc (.cells (r.cells L) 59) = W0 := ⟨_, rfl⟩; rw [hW0] at HO0 HB; have HW0 := hide hW0; clear hW0; have HCALL := hide (zcheck_any W0 r L (HR.out.go HO0.out))
  go_enter Tryz.func62, Tryz.ntmps62
  go_wp2_with fail
  rw [HW0.out]; refine HCALL.out.mono ?_; rintro e w1 hq; obtain ⟨o, ho, rfl⟩ := hq.ex; have HO1 := hide (o2 HO0.out hq.only); have HB1 := hide (HB.out.more hq.only); obtain ⟨o1, c⟩ := o; have HOU := hide ho; clear hq ho
  simp only
  by_cases hc : c = 0
  · have HV := hide (zout_zero HOU.out hc)
    have hc' : (c != 0) = false := by simpa using hc
    clear hc; obtain ⟨b0, b1, b2, b3, b4, b5, b6, b7, b8, b9, b10, b11, b12, b13, b14, b15, _⟩ := HB1.out
    go_wp2_with fail
    refine (zbody_any w1 r L (HR.out.go HO1.out) HV.out.k0 HV.out.k1 HV.out.rng HV.out.short HV.out.ims).mono ?_; rintro e w2 ⟨rfl, ho2⟩; have HO2 := hide (o2 HO1.out ho2); clear ho2 b0 b1 b2 b3 b4 b5 b6 b7 b8 b9 b10 b11 b12 b13 b14 b15; have hlen := HV.out.len; obtain ⟨l, hl⟩ : ∃ l, r.lay = l := ⟨_, rfl⟩
    have HENC : Hid (r.enc = bigF 4 l.length ++ (bigF 4 (sum l).toNat ++ l)) := by unfold Hid Rc.enc; rw [hl]
    rw [hl] at hlen ⊢; obtain ⟨X, hX⟩ : ∃ X, str l = X := ⟨_, rfl⟩
    have hXs : X.size = l.length := by rw [← hX, str_size]
    have HX := hide hX
    have hXle : X.size ≤ 65535 := by omega
    have HXS := hide hXs; have hsb := sum_bd l
    have HSUM : Hid (sum X.data.toList = sum l) := by unfold Hid; rw [← hX]; rfl
    rw [hX]; obtain ⟨z, hz⟩ : ∃ z, sum l = z := ⟨_, rfl⟩; rw [hz] at hsb HSUM HENC; clear hl hX hXs hz hlen; have hz0 := hsb.1; have hz1 := hsb.2
    go_wp2_with fail
    refine (refBig_any X.size 4 _ (by omega) (by omega) (by omega)).mono ?_; rintro e w3 ⟨rfl, ho3⟩; obtain ⟨Y, hY⟩ : ∃ Y, (⟨(bigF 4 X.size).toArray⟩ : ByteArray) = Y := ⟨_, rfl⟩
    have hYs : Y.size ≤ 4 := by rw [← hY]; show (bigF 4 X.size).toArray.size ≤ 4; rw [List.size_toArray, bigF_len]; omega
    have HY : Hid (str (bigF 4 X.size) = Y) := hY; have HO3 := hide (o2 HO2.out ho3); rw [hY]; clear ho3 hY
    go_wp2_with fail
    refine (refSum_any X w3 (by unfold maxLen; omega)).mono ?_; rw [HSUM.out]; rintro e w4 ⟨rfl, rfl⟩
    go_wp2_with fail
    refine (refBig_int z 4 w4 (by omega) (by omega) hz0 (by omega)).mono ?_; rintro e w5 ⟨rfl, ho5⟩; obtain ⟨U, hU⟩ : ∃ U, str (bigF 4 z.toNat) = U := ⟨_, rfl⟩
    have hUs : U.size ≤ 4 := by rw [← hU, str_size, bigF_len]; omega
    have HU := hide hU; have HO5 := hide (o2 HO3.out ho5); rw [hU]; clear ho5 hU; have hYU : (Y ++ U).size = Y.size + U.size := ByteArray.size_append
    have HFIN : Hid (Y ++ U ++ X = str r.enc) := by
      unfold Hid; rw [HENC.out, ← HY.out, ← HU.out, ← HX.out, str_cat, str_cat, List.append_assoc, str_size]
    have hXY : ¬ (9223372036854775807 : Int) < (Y.size : Int) + (U.size : Int) := by omega
    have hXY2 : ¬ (9223372036854775807 : Int) < ((Y ++ U).size : Int) + (X.size : Int) := by omega
    go_wp2_with fail
    go_ret2
    refine ⟨fun _ => ?_, fun h => absurd HV.out h, HO5.out⟩; rw [← HFIN.out]; rfl
  · have hne : (c != 0) = true := by simpa using hc
    have H2 := hide hc; clear hc
    have HV : Hid (¬ r.valid) := fun v => by
      rcases HOU.out.cases with ⟨_, h1⟩ | ⟨h1, _, _⟩
      · exact H2.out (congrArg Prod.snd h1)
      · exact h1 v
    have HO9 : Hid (r.Out ([], c)) := by
      rcases HOU.out.cases with ⟨h0, _⟩ | ⟨_, h1, _⟩
      · exact absurd h0 HV.out
      · have e : o1 = [] := h1
        have := HOU.out; rw [e] at this
        exact this
    go_wp2_with fail
    go_ret2
    exact ⟨fun h => absurd h HV.out, fun _ => ⟨c, H2.out, HO9.out, rfl⟩, HO1.out⟩
end Go.Proofs.YtebijheonkagfaaGreatDoor
