/- What body, Check and Encode do. -/
import Derived.Test.YtbfafijfhaejmaaGreatDoorRLay
namespace Go.Proofs.YtbfafijfhaejmaaGreatDoor
open Go.RowKit

/-- What body answers, as a call's ending. -/
structure BdQ (w w' : World) (e : Ending) (r : Rc) : Prop where
  ex : ∃ o : List UInt8 × Int, r.Out o ∧ e = .returned (.tuple #[.string (str o.1), .int .i64 o.2])
  only : Only (fun _ => False) w w'
theorem bd_kind {r : Rc} (h : ¬ (1 ≤ r.kind ∧ r.kind ≤ 13)) : r.Out ([], 41) := ⟨fun _ => rfl, fun h' => absurd h' h, fun h' => absurd h' h, fun h' => absurd h' h, fun h' => absurd h' h, fun v => absurd ⟨v.k0, v.k1⟩ h⟩
theorem bd_rng {r : Rc} (hk : 1 ≤ r.kind ∧ r.kind ≤ 13) (h : ¬ r.inRange) : r.Out ([], 4) := ⟨fun h' => absurd hk h', fun _ _ => rfl, fun _ h' => absurd h' h, fun _ h' => absurd h' h, fun _ h' => absurd h' h, fun v => absurd v.rng h⟩
theorem bd_short {r : Rc} (hk : 1 ≤ r.kind ∧ r.kind ≤ 13) (hr : r.inRange) (h : ¬ r.short) : r.Out ([], 3) := ⟨fun h' => absurd hk h', fun _ h' => absurd hr h', fun _ _ _ => rfl, fun _ _ h' => absurd h' h, fun _ _ h' => absurd h' h, fun v => absurd v.short h⟩
theorem bd_ims {r : Rc} (hk : 1 ≤ r.kind ∧ r.kind ≤ 13) (hr : r.inRange) (hs : r.short) (h : imErr r.images ≠ 0) : r.Out ([], imErr r.images) := ⟨fun h' => absurd hk h', fun _ h' => absurd hr h', fun _ _ h' => absurd hs h', fun _ _ _ _ => rfl, fun _ _ _ h' => absurd h' h, fun v => absurd v.ims h⟩
theorem bd_len {r : Rc} (hk : 1 ≤ r.kind ∧ r.kind ≤ 13) (hr : r.inRange) (hs : r.short) (hi : imErr r.images = 0) (h : 65535 < r.lay.length) : r.Out ([], 3) := ⟨fun h' => absurd hk h', fun _ h' => absurd hr h', fun _ _ h' => absurd hs h', fun _ _ _ h' => absurd hi h', fun _ _ _ _ _ => rfl, fun v => by have := v.len; omega⟩
theorem bd_ok {r : Rc} (v : r.valid) : r.Out (r.lay, 0) := ⟨fun h' => absurd ⟨v.k0, v.k1⟩ h', fun _ h' => absurd v.rng h', fun _ _ h' => absurd v.short h', fun _ _ _ h' => absurd v.ims h', fun _ _ _ _ h => by have := v.len; omega, fun _ => rfl⟩
set_option maxRecDepth 100000 in
set_option maxHeartbeats 1600000 in
theorem rbody_any (w : World) (r : Rc) (L : Loc) (h : RcAt w r L) :
    Calls Tryz.prog 100 #[.agg (r.cells L)] w fun e w' => BdQ w w' e r := by
  have HR := hide h
  have hk0 := h.kind.1
  have hk1 := h.kind.2
  clear h
  have HO0 := hide (onlyA w (.cells (r.cells L) 59))
  have HB := hide (Bx.new w r L)
  obtain ⟨W0, hW0⟩ : ∃ W0, w.alloc (.cells (r.cells L) 59) = W0 := ⟨_, rfl⟩
  rw [hW0] at HO0 HB
  have HW0 := hide hW0
  clear hW0
  by_cases hk : 1 ≤ r.kind ∧ r.kind ≤ 13
  · obtain ⟨k0, k1⟩ := hk
    have k0' : ¬ r.kind < 1 := by omega
    have k1' : ¬ 13 < r.kind := by omega
    go_enter Tryz.func100, Tryz.ntmps100
    go_wp2_with fail
    rw [HW0.out]
    refine (rinRange_any W0 r L (HR.out.go HO0.out)).mono ?_
    rintro e w1 ⟨hb, ho1⟩
    obtain ⟨c, rfl, hc⟩ := hb.ex
    have HC1 := hide hc
    have HO1 := hide (o2 HO0.out ho1)
    have HB1 := hide (HB.out.more ho1)
    clear hc hb ho1
    cases c with
    | false =>
      go_wp2_with fail
      go_ret2
      exact ⟨⟨_, bd_rng ⟨k0, k1⟩ (fun h => by have := HC1.out.2 h; simp at this), rfl⟩, HO1.out⟩
    | true =>
      have HRG := hide (HC1.out.1 (by trivial))
      obtain ⟨b0, b1, b2, b3, b4, b5, b6, b7, b8, b9, b10, b11, b12, b13, b14, b15, _⟩ := HB1.out
      go_wp2_with fail
      refine (rtooLong_any w1 r L).mono ?_
      rintro e w2 ⟨hb, ho2⟩
      obtain ⟨c, rfl, hc⟩ := hb.ex
      have HC2 := hide hc
      have HO2 := hide (o2 HO1.out ho2)
      have HB2 := hide (HB1.out.more ho2)
      clear hc hb ho2 b0 b1 b2 b3 b4 b5 b6 b7 b8 b9 b10 b11 b12 b13 b14 b15
      cases c with
      | true =>
        go_wp2_with fail
        go_ret2
        exact ⟨⟨_, bd_short ⟨k0, k1⟩ HRG.out (HC2.out.1 (by trivial)), rfl⟩, HO2.out⟩
      | false =>
        have HSH : Hid r.short := Classical.byContradiction fun h => by have := HC2.out.2 h; simp at this
        have HR2 := hide (HR.out.go HO2.out)
        obtain ⟨T, hims⟩ := HR2.out.images
        have HI := hide hims
        have b13 := HB2.out.c13
        clear hims
        go_wp2_with fail
        refine (imageTexts_any w2 T _ _ _ _ HI.out HSH.out.images).mono ?_
        rintro e w3 hq
        have HQ := hide hq
        have HO3 := hide (o2 HO2.out hq.only)
        have HB3 := hide (HB2.out.more hq.only)
        clear hq b13
        by_cases hi : imErr r.images = 0
        · obtain ⟨Bt, at', ct, rfl, hst⟩ := HQ.out.good hi
          have HST := hide hst
          have HIE := hide hi
          clear hst hi
          obtain ⟨b0, b1, b2, b3, b4, b5, b6, b7, b8, b9, b10, b11, b12, b13, b14, b15, _⟩ := HB3.out
          go_wp2_with fail
          refine (lay_any w3 r L (HR.out.go HO3.out) k0 k1 HRG.out HSH.out HIE.out Bt ct at' HST.out).mono ?_
          rintro e w4 ⟨rfl, ho4⟩
          have HO4 := hide (o2 HO3.out ho4)
          clear ho4 b0 b1 b2 b3 b4 b5 b6 b7 b8 b9 b10 b11 b12 b13 b14 b15
          obtain ⟨X, hX⟩ : ∃ X, str r.lay = X := ⟨_, rfl⟩
          have hXs : X.size = r.lay.length := by rw [← hX, str_size]
          have HX := hide hX
          have HXS := hide hXs
          rw [hX]
          clear hX
          by_cases hl : 65535 < r.lay.length
          · have hl' : (65535 : Int) < (X.size : Int) := by omega
            clear hXs
            go_wp2_with fail
            go_ret2
            exact ⟨⟨_, bd_len ⟨k0, k1⟩ HRG.out HSH.out HIE.out hl, rfl⟩, HO4.out⟩
          · have hl' : ¬ (65535 : Int) < (X.size : Int) := by omega
            clear hXs
            go_wp2_with fail
            go_ret2
            refine ⟨⟨_, bd_ok ⟨k0, k1, HRG.out, HSH.out, HIE.out, by omega⟩, ?_⟩, HO4.out⟩
            rw [HX.out]; rfl
        · have he := HQ.out.bad hi
          subst he
          have hne : (imErr r.images != 0) = true := by simpa using hi
          have HIE := hide hi
          obtain ⟨q, hq⟩ : ∃ q, imErr r.images = q := ⟨_, rfl⟩
          rw [hq] at hne ⊢
          have HQQ := hide hq
          clear hi hq
          go_wp2_with fail
          go_ret2
          refine ⟨⟨_, bd_ims ⟨k0, k1⟩ HRG.out HSH.out HIE.out, ?_⟩, HO3.out⟩
          rw [HQQ.out]; rfl
  · by_cases hk2 : r.kind < 1
    · go_enter Tryz.func100, Tryz.ntmps100
      go_wp2_with fail
      rw [HW0.out]
      go_ret2
      exact ⟨⟨_, bd_kind (by omega), rfl⟩, HO0.out⟩
    · have hk3 : 13 < r.kind := by omega
      clear hk
      go_enter Tryz.func100, Tryz.ntmps100
      go_wp2_with fail
      rw [HW0.out]
      go_ret2
      exact ⟨⟨_, bd_kind (by omega), rfl⟩, HO0.out⟩
/-- What Check answers. -/
structure CkQ (w w' : World) (e : Ending) (r : Rc) : Prop where
  ex : ∃ o : List UInt8 × Int, r.Out o ∧ e = .returned (.int .i64 o.2)
  only : Only (fun _ => False) w w'
/-- What Encode answers. -/
structure EnQ (w w' : World) (e : Ending) (r : Rc) : Prop where
  ok : r.valid → e = .returned (.tuple #[.string (str r.enc), .int .i64 0])
  bad : ¬ r.valid → ∃ c, c ≠ 0 ∧ r.Out ([], c) ∧ e = .returned (.tuple #[.string ⟨#[]⟩, .int .i64 c])
  only : Only (fun _ => False) w w'
set_option maxRecDepth 100000 in
set_option maxHeartbeats 1600000 in
theorem rencode_any (w : World) (r : Rc) (L : Loc) (h : RcAt w r L) :
    Calls Tryz.prog 66 #[.agg (r.cells L)] w fun e w' => EnQ w w' e r := by
  have HR := hide h
  clear h
  have HO0 := hide (onlyA w (.cells (r.cells L) 59))
  have HCALL := hide (rbody_any _ r L (HR.out.go HO0.out))
  go_enter Tryz.func66, Tryz.ntmps66
  go_wp2_with fail
  refine HCALL.out.mono ?_
  rintro e w1 hq
  obtain ⟨o, ho, rfl⟩ := hq.ex
  have HO1 := hide (o2 HO0.out hq.only)
  rcases ho.cases with ⟨hv, rfl⟩ | ⟨hv, h1, h2⟩
  · have HV := hide hv
    have hlen := hv.len
    obtain ⟨l, hl⟩ : ∃ l, r.lay = l := ⟨_, rfl⟩
    have HENC : Hid (r.enc = bigF 4 l.length ++ (bigF 4 (sum l).toNat ++ l)) := by unfold Hid Rc.enc; rw [hl]
    rw [hl] at hlen ⊢
    simp only
    obtain ⟨X, hX⟩ : ∃ X, str l = X := ⟨_, rfl⟩
    have hXs : X.size = l.length := by rw [← hX, str_size]
    have HX := hide hX
    have hXle : X.size ≤ 65535 := by omega
    have HXS := hide hXs
    have hsb := sum_bd l
    have HSUM : Hid (sum X.data.toList = sum l) := by unfold Hid; rw [← hX]; rfl
    rw [hX]
    obtain ⟨z, hz⟩ : ∃ z, sum l = z := ⟨_, rfl⟩
    rw [hz] at hsb HSUM HENC
    clear hq ho hv hl hX hXs hz hlen
    have hz0 := hsb.1
    have hz1 := hsb.2
    go_wp2_with fail
    refine (big_nat X.size 4 _ (by omega) (by omega) (by omega)).mono ?_
    rintro e w2 ⟨rfl, ho2⟩
    obtain ⟨Y, hY⟩ : ∃ Y, str (bigF 4 X.size) = Y := ⟨_, rfl⟩
    have hYs : Y.size ≤ 4 := by rw [← hY, str_size, bigF_len]; omega
    have HY := hide hY
    have HO2 := hide (o2 HO1.out ho2)
    rw [hY]
    clear ho2 hY
    go_wp2_with fail
    refine (sum_any X w2 (by unfold maxLen; omega)).mono ?_
    rw [HSUM.out]
    rintro e w3 ⟨rfl, rfl⟩
    go_wp2_with fail
    refine (big_int z 4 w3 (by omega) (by omega) hz0 (by omega)).mono ?_
    rintro e w4 ⟨rfl, ho4⟩
    obtain ⟨U, hU⟩ : ∃ U, str (bigF 4 z.toNat) = U := ⟨_, rfl⟩
    have hUs : U.size ≤ 4 := by rw [← hU, str_size, bigF_len]; omega
    have HU := hide hU
    have HO4 := hide (o2 HO2.out ho4)
    rw [hU]
    clear ho4 hU
    have hYU : (Y ++ U).size = Y.size + U.size := ByteArray.size_append
    have HFIN : Hid (Y ++ U ++ X = str r.enc) := by
      unfold Hid
      rw [HENC.out, ← HY.out, ← HU.out, ← HX.out, str_cat, str_cat, List.append_assoc, str_size]
    have hXY : ¬ (9223372036854775807 : Int) < (Y.size : Int) + (U.size : Int) := by omega
    have hXY2 : ¬ (9223372036854775807 : Int) < ((Y ++ U).size : Int) + (X.size : Int) := by omega
    go_wp2_with fail
    go_ret2
    refine ⟨fun _ => ?_, fun h => absurd HV.out h, HO4.out⟩
    rw [← HFIN.out]; rfl
  · obtain ⟨o1, c⟩ := o
    simp only at h1 h2 ⊢
    subst h1
    have hne : (c != 0) = true := by simpa using h2
    have HOU := hide ho
    have H2 := hide h2
    have HV := hide hv
    clear hq ho h2 hv
    go_wp2_with fail
    go_ret2
    exact ⟨fun h => absurd h HV.out, fun _ => ⟨c, H2.out, HOU.out, rfl⟩, HO1.out⟩
end Go.Proofs.YtbfafijfhaejmaaGreatDoor
