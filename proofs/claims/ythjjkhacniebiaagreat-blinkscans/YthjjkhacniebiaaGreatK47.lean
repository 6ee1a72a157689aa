/- The law's forest: its method enters, which calls itself. -/
import Derived.Test.YthjjkhacniebiaaGreatK46
namespace Go.Proofs.YthjjkhacniebiaaGreat
open Go.RowKit

variable {K : Nat → Prop}

section
variable {ops : Array Oper} {rest : List Oper} {o : Oper} {a : Act} {w : World} {Q : Exit → Act → World → Prop}
theorem wpList_loadg_br (hw : Region.wanted o (yielded ops a.tmps) = true) (x : Operand) (hop : o.op = .load 36 x) (b : Nat) (hx : a.eval x = .pointer (some ⟨b, 0, none⟩)) (r : Br) (hc : Rg w b 0 r.cl)
    (h : wpList Tryz.prog ops Q rest (a.put o.dst (.agg r.cells)) w) : wpList Tryz.prog ops Q (o :: rest) a w :=
  BigFrame.wpList_want hw fun _ hK => wp_load_mid 36 x hop b 0 hx r.cl _ hc.range Tryz.underlying36 rfl Tryz.sizeRecB (hK _ _ h)
end
/-- The pages that are fresh. -/
def frL (N n : Nat) : List Int := (List.range n).map (fun q => ((N + q : Nat) : Int))
theorem frL_len (N n : Nat) : (frL N n).length = n := by unfold frL; simp
theorem frL_succ (N n : Nat) : frL N (n + 1) = frL N n ++ [((N + n : Nat) : Int)] := by unfold frL; rw [List.range_succ, List.map_append]; rfl
theorem frs_one {N : Nat} (h : 2 ≤ N) : frs [(N : Int)] = true := by
  unfold frs
  rw [decide_eq_true_iff]
  intro k hk
  match k, hk with
  | 0, _ => exact ⟨by simp; omega, by simp⟩
theorem frs_two {N : Nat} (h : 2 ≤ N) : frs [(N : Int), ((N + 1 : Nat) : Int)] = true := by
  unfold frs
  rw [decide_eq_true_iff]
  intro k hk
  match k, hk with
  | 0, _ => exact ⟨by simp; omega, by simp⟩
  | 1, _ => exact ⟨by simp; omega, by simp; omega⟩
set_option maxRecDepth 100000 in
set_option maxHeartbeats 12800000 in
theorem enters_step (w : World) (f g cap : Nat) (zs : List Pz) (N : Nat) (F : Nat → Nd) (lo : Nat → En) (A : En → Prop) (v : Nat) (e : En) (c : Int) (told : Bool) (hE : EnPre K w f g cap zs N F lo A v e c)
    (ih : ∀ (w' : World) (g' cap' : Nat) (zs' : List Pz) (F' : Nat → Nd) (lo' : Nat → En) (A' : En → Prop) (e' : En), (F' 1).lv = (F 1).lv → v + 1 ≤ (F 1).lv → EnPre K w' f g' cap' zs' (N + 1) F' lo' A' (v + 1) e' N → Calls Tryz.prog 17 #[.pointer (some ⟨f, 0, none⟩), .int .i64 ((v : Int) + 1), e'.agg, .string (itB (v + 1) (e', (N : Int))), .bool true] w' fun x w'' => x = .returned (.bool true) ∧ EnPost K w' w'' f g' (N + 1) F' A' (v + 1) e') :
    Calls Tryz.prog 17 #[.pointer (some ⟨f, 0, none⟩), .int .i64 v, e.agg, .string (itB v (e, c)), .bool told] w fun x w' => x = .returned (.bool true) ∧ EnPost K w w' f g N F A v e := by
  have HV := hide (Ev.new w e)
  have HO := hide (onlyA w (.cells #[.string e.key, .int .i64 e.page, .int .i64 e.slot] 41))
  have HE := hide hE
  have HIH := hide ih
  have HFI : Hid (∀ W, Only (fun _ => False) w W → Calls Tryz.prog 18 #[.pointer (some ⟨f, 0, none⟩), .int .i64 v, .agg #[.string e.key, .int .i64 e.page, .int .i64 e.slot]] W fun x w' => ∃ i : Nat, x = .returned (.int .i64 i) ∧ (pg N i ∧ (F i).lv = v ∧ (lo i).lt e ∧ byd (F i).hi e = false) ∧ Only (fun _ => False) W w') := fun W ho => finds_ok W f g cap zs N F lo A v e (hE.hM.more ho) hE.hZ hE.hF (by have := hE.num; omega) (by have := hE.top; omega) hE.lv hE.ok
  have HBR := hide hE.brd
  have HZL := hide hE.hZ.len
  have hN9 : N ≤ 9999 := by have := hE.num; omega
  clear hE ih
  obtain ⟨s, hs⟩ : ∃ s, itB v (e, c) = s := ⟨_, rfl⟩
  rw [hs] at HBR ⊢
  have HS := hide hs
  clear hs
  unfold En.agg
  go_enter Tryz.func17, Tryz.ntmps17
  go_upto_region 1 with fail
  obtain ⟨W0, hW0⟩ : ∃ x, w.alloc (.cells #[.string e.key, .int .i64 e.page, .int .i64 e.slot] 41) = x := ⟨_, rfl⟩
  rw [hW0] at HV HO ⊢
  clear hW0
  obtain ⟨d0, d1, d2, _⟩ := HV.out
  go_wp2_with fail
  refine (HFI.out _ HO.out).mono ?_
  rintro x w1 ⟨i, rfl, hfi, ho⟩
  have HO1 := hide (o2 HO.out ho)
  have HI := hide hfi
  obtain ⟨ao, cp, B, hil, hzi, hgd, hst, hft⟩ := HE.out.page hfi.1
  have HM1 := hide (HE.out.hM.more HO1.out)
  have HP := hide (And.intro hgd (And.intro hst hft))
  have HRG := hide (HM1.out.rg i hil)
  have HZI : Hid (∀ hh : i < zs.length, zs[i] = (F i).z 0 ao cp) := fun _ => hzi
  rw [hzi] at HRG
  have HND : Hid (∀ W, Only (fun _ => False) w W → Calls Tryz.prog 7 #[.agg ((F i).z 0 ao cp).ar, .int .i64 (i : Int), .string s] W fun x w' => x = .returned (.tuple #[.int .i64 ((F i).need (i : Int) (some (e, c))).1, .int .i64 ((F i).need (i : Int) (some (e, c))).2]) ∧ Only (fun _ => False) W w') := fun W ho => by
    have h := need_nd W 0 (i : Int) (F i) s B cp ao (hgd.nm (hst.more ho)) hft (by decide)
    rw [hfi.2.1, HBR.out, ← hfi.2.1] at h
    exact h
  have hi1 : ¬ (i : Int) < 1 := by have := hfi.1.1; omega
  have hi2 : ¬ (zs.length : Int) ≤ (i : Int) := by omega
  have hi3 : (i : Int) < (zs.length : Int) := by omega
  have fc := HM1.out.cell
  have HIL : Hid (i < zs.length) := hil
  obtain ⟨n, hn⟩ : ∃ n, zs.length = n := ⟨_, rfl⟩
  rw [hn] at hi2 hi3 fc
  have HNN : Hid (n = N) := by rw [← hn]; exact HZL.out
  have HNZ := hide hn
  obtain ⟨z, hz⟩ : ∃ z, (F i).z 0 ao cp = z := ⟨_, rfl⟩
  have HZ := hide hz
  rw [hz] at HRG HND
  have hn9 : n ≤ 9999 := by have := HNN.out; omega
  clear ho hzi hgd hst hft hfi hil d0 d1 d2 hn hz HFI HV
  have c0 := HRG.out.cell 0 (.int .i64 z.p.lsn) rfl
  have c1 := HRG.out.cell 1 (.int .i64 z.p.kind) rfl
  have c2 := HRG.out.cell 2 (.int .i64 z.p.level) rfl
  have c3 := HRG.out.cell 3 (.int .i64 z.p.right) rfl
  have c4 := HRG.out.cell 4 (.string z.p.high) rfl
  have c5 := HRG.out.cell 5 (.slice z.ao z.p.items.length z.cp) rfl
  rw [Nat.add_zero] at c0
  rcases HE.out.cases HI.out.1 HI.out.2.1 HI.out.2.2.1 HI.out.2.2.2 with ⟨hst, hme⟩ | ⟨hst, hmay⟩
  · have HST := hide (HE.out.stays HI.out.1 HI.out.2.1 hme (w' := W0))
    rw [need_std hst] at HND
    simp only [] at HND
    have HRS := hide (fun (W : World) (h : Only (fun _ => False) w W) => HE.out.stays HI.out.1 HI.out.2.1 hme h)
    clear hst hme HST
    go_wp2_with fail
    refine (HND.out _ HO1.out).mono ?_
    rintro x w2 ⟨rfl, ho⟩
    have HO2 := hide (o2 HO1.out ho)
    clear ho
    go_wp2_with fail
    go_ret
    exact ⟨rfl, HRS.out _ HO2.out⟩
  · have HMAY := hide hmay
    have HNB := hide hmay.not
    by_cases hsz : ((F i).ins e c).size ≤ 512
    · rw [need_fit hst hmay.not hsz] at HND
      simp only [] at HND
      have HSTD := hide hst
      clear hst hmay
      go_wp2_with fail
      refine (HND.out _ HO1.out).mono ?_
      rintro x w2 ⟨rfl, ho⟩
      have HO2 := hide (o2 HO1.out ho)
      have HM2 := hide (HM1.out.more ho)
      have HRG2 := hide (HRG.out.more ho)
      clear ho HND fc c0 c1 c2 c3 c4 c5
      go_upto_region 11 with fail
      go_loopw [14, 15] (fun u y wr => ∃ (j : Nat), j ≤ 0 ∧ y = .int .i64 (j : Int) ∧ Hid (Kts wr w2.heap.size u (frL n j)) ∧ Hid (Only (fun _ => False) w2 wr)) (fun _ y _ => 0 - (intOf y).toNat)
      case atStart => exact ⟨0, by omega, rfl, hide (Kts.nil _ _), hide (Only.refl _ _)⟩
      case round =>
        obtain ⟨j, hj, rfl, HK, HW⟩ := hrel
        by_cases hlt : j < 0
        · exact absurd hlt (by omega)
        · have hlk : ¬ (j : Int) < 0 := by omega
          have ej : j = 0 := by omega
          subst ej
          obtain ⟨fa, fcp, fB, hfv, hns, hf1, hf2⟩ := HK.out.ns (by rw [frL_len]; omega)
          rw [frL_len] at hfv
          subst hfv
          have HNS := hide (And.intro hns (And.intro hf1 hf2))
          have HO3 := hide (o2 HO2.out HW.out)
          have HM3 := hide (HM2.out.more HW.out)
          have HRG3 := hide (HRG2.out.more HW.out)
          clear hns hf1 hf2 HK
          have c0 := HRG3.out.cell 0 (.int .i64 z.p.lsn) rfl
          have c1 := HRG3.out.cell 1 (.int .i64 z.p.kind) rfl
          have c2 := HRG3.out.cell 2 (.int .i64 z.p.level) rfl
          have c3 := HRG3.out.cell 3 (.int .i64 z.p.right) rfl
          have c4 := HRG3.out.cell 4 (.string z.p.high) rfl
          have c5 := HRG3.out.cell 5 (.slice z.ao z.p.items.length z.cp) rfl
          rw [Nat.add_zero] at c0
          have fc := HM3.out.cell
          rw [HNZ.out] at fc
          have HEN : Hid (Calls Tryz.prog 9 #[.agg z.ar, .int .i64 (i : Int), .string s, .slice fa 0 fcp] wr fun x w' => x = .returned (.tuple #[.agg (Br.cells ⟨3, (i : Int), s, none, 0, 0⟩), .int .i64 0]) ∧ Only (fun _ => False) wr w') := by
            have h := enter_in wr 0 (i : Int) (F i) s B cp ao (frL n 0) fB fcp fa HP.out.1 (HP.out.2.1.more HO3.out) HP.out.2.2 (by decide) HNS.out.1 HNS.out.2.1 HNS.out.2.2 (by rw [HI.out.2.1, HBR.out]; exact need_fit HSTD.out HNB.out hsz) rfl
            rw [frL_len] at h
            rw [← HZ.out]
            exact h
          unfold Pz.ar at HEN
          go_wp2_with fail
          refine HEN.out.mono ?_
          rintro x w4 ⟨rfl, ho⟩
          have HO4 := hide (o2 HO3.out ho)
          have HM4 := hide (HM3.out.more ho)
          have HZ4 : Hid (wr.heap.size ≤ w4.heap.size) := ho.size
          clear ho c0 c1 c2 c3 c4 c5 fc HEN
          have HNEW := hide (Rg.new w4 Br.none.cells 36)
          have HAL := hide (onlyA w4 (.cells Br.none.cells 36))
          go_upto_region 15 with (refine wpList_put_br rfl (.tmp 16) (.tmp 73) rfl w4.heap.size rfl Br.none.cl rfl ⟨3, (i : Int), s, none, 0, 0⟩ rfl HNEW.out ?_; intro W9 HW9; go_frame)
          have HO9 : Hid (Only (fun _ => False) w4 W9) := HAL.out.trans HW9.out.only (fun q hq e => by omega)
          have HOW := hide (o2 HO4.out HO9.out)
          have HM9 := hide (HM4.out.more HO9.out)
          have HRC := hide HW9.out.at_
          have HFB : Hid (f < w4.heap.size ∧ g < w4.heap.size) := ⟨HM4.out.flt, (World.ownsRow.lt HM4.out.row g rfl).2⟩
          have HFW : Hid (f < wr.heap.size ∧ g < wr.heap.size) := ⟨HM3.out.flt, (World.ownsRow.lt HM3.out.row g rfl).2⟩
          clear HNEW HAL HW9
          have HDO : Hid (Calls Tryz.prog 22 #[.pointer (some ⟨f, 0, none⟩), .agg (Br.cells ⟨3, (i : Int), s, none, 0, 0⟩)] W9 fun x w' => x = .returned (.bool true) ∧ ∃ ao cp, Fk K W9 w' f g (zs.set i ⟨((F i).ins e c).pg 0, ao, cp⟩)) := does_one W9 f g cap zs i 3 s (((F i).ins e c).pg 0) HM9.out HI.out.1.1 HIL.out (.inl rfl) (by rw [HNZ.out]; omega) (fun W hoW => by
            rw [HZI.out HIL.out]
            have hS := HP.out.2.1.more (o2 HOW.out hoW)
            by_cases v0 : v = 0
            · have h := changed_leaf W (i : Int) (F i) e c B cp ao HP.out.1 hS HP.out.2.2 (HI.out.2.1.trans v0) HNB.out hsz
              have es : e.enc = s := by rw [← HS.out]; unfold itB; rw [if_pos v0]
              rw [es] at h
              have el : ((F i).z 0 ao cp).ar = #[.int .i64 0, .int .i64 3, .int .i64 0, .int .i64 (F i).rt, .string (hiB (F i).hi), .slice ao (F i).items.length cp] := by
                show (#[.int .i64 0, .int .i64 3, .int .i64 ((F i).lv : Int), .int .i64 (F i).rt, .string (hiB (F i).hi), .slice ao (F i).items.length cp] : Array Value) = _
                rw [HI.out.2.1, v0]; rfl
              rw [el]
              exact h
            · have hc : okC c = true := HE.out.okc (by omega)
              have h := changed_inner W (i : Int) (F i) e c B cp ao HP.out.1 hS HP.out.2.2 (by rw [HI.out.2.1]; omega) hc HNB.out hsz
              have es : e.encS c = s := by rw [← HS.out]; unfold itB; rw [if_neg v0]
              rw [es] at h
              exact h)
          go_wp2_with (refine wpList_loadg_br rfl (.tmp 16) rfl w4.heap.size rfl ⟨3, (i : Int), s, none, 0, 0⟩ HRC.out ?_; go_frame)
          refine HDO.out.mono ?_
          rintro x w6 ⟨rfl, ao6, cp6, hfk⟩
          have HFK := hide hfk
          have HRC6 := hide (HRC.out.kept hfk.only (fun e => by have := HFB.out; rcases e with e | e <;> omega))
          clear hfk HDO
          have HAB := hide (above_no w6 ⟨3, (i : Int), s, none, 0, 0⟩ (.inl (by show ¬ (3 : Int) = 5; decide)))
          go_wp2_with (refine wpList_load_br rfl (.tmp 16) rfl w4.heap.size rfl ⟨3, (i : Int), s, none, 0, 0⟩ HRC6.out ?_; go_frame)
          refine HAB.out.mono ?_
          rintro x w7 ⟨rfl, ho⟩
          unfold En.agg
          have HO7 := hide ho
          clear ho HAB
          go_wp2_with fail
          go_ret
          exact ⟨rfl, HE.out.fit HMAY.out HI.out.2.1 hsz (ao := ao6) (cp := cp6) (Fk.wrap HOW.out HFK.out (o2 HO7.out (onlyA _ _)))⟩
    · have hsz2 : 512 < ((F i).ins e c).size := by omega
      rw [need_full hst hmay.not hsz2] at HND
      simp only [] at HND
      by_cases hi0 : i = 1
      · rw [if_pos (by omega)] at HND
        have HSTD := hide hst
        clear hst hmay hsz
        subst hi0
        have hI1 : ((1 : Nat) : Int) = 1 := rfl
        go_wp2_with fail
        refine (HND.out _ HO1.out).mono ?_
        rintro x w2 ⟨rfl, ho⟩
        have HO2 := hide (o2 HO1.out ho)
        have HM2 := hide (HM1.out.more ho)
        have HRG2 := hide (HRG.out.more ho)
        clear ho HND fc c0 c1 c2 c3 c4 c5
        go_upto_region 11 with fail
        go_loopw [14, 15] (fun u y wr => ∃ (j : Nat), j ≤ 2 ∧ y = .int .i64 (j : Int) ∧ Hid (Kts wr w2.heap.size u (frL n j)) ∧ Hid (Only (fun _ => False) w2 wr)) (fun _ y _ => 2 - (intOf y).toNat)
        case atStart => exact ⟨0, by omega, rfl, hide (Kts.nil _ _), hide (Only.refl _ _)⟩
        case round =>
          obtain ⟨j, hj, rfl, HK, HW⟩ := hrel
          by_cases hlt : j < 2
          · have hlk : (j : Int) < 2 := by omega
            have fc := (HM2.out.more HW.out).cell
            rw [HNZ.out] at fc
            have HSUM : Hid ((n : Int) + (j : Int) = ((n + j : Nat) : Int)) := by unfold Hid; omega
            have hwr : IntKind.i64.wrap ((n : Int) + (j : Int)) = (n : Int) + (j : Int) := by rw [IntKind.wrap_i64]; omega
            have HA := hide (onlyA wr (.cells #[.int .i64 ((n : Int) + (j : Int))] 3))
            obtain ⟨A3, C3, w3, hr3, hk3, ho3, _⟩ := kts_append (wr.alloc (.cells #[.int .i64 ((n : Int) + (j : Int))] 3)) w2.heap.size _ _ (HK.out.more HA.out) wr.heap.size ((n : Int) + (j : Int)) (by simp) (by rw [frL_len]; omega) (Nat.le_trans HW.out.size HA.out.size)
            rw [HSUM.out, ← frL_succ] at hk3
            rw [frL_len] at hr3 hk3
            clear HSUM
            have HK3 := hide hk3
            have HW3 : Hid (Only (fun _ => False) w2 w3) := (o2 HW.out HA.out).trans ho3 (fun q hq z => by have := (World.ownsRow.lt HK.out q z).1; omega)
            have HR3 := hide hr3
            clear hr3 hk3 ho3 HA
            go_wp2_with (at_builtin; go_must (refine Lib.wpList_append_run _ rfl _ _ _ _ rfl _ _ rfl rfl _ _ HR3.out ?_))
            go_roundw
            case rel => exact ⟨j + 1, by omega, by go_num, HK3, HW3⟩
            case measure => simp [intOf]; omega
          · have hlk : ¬ (j : Int) < 2 := by omega
            have ej : j = 2 := by omega
            subst ej
            obtain ⟨fa, fcp, fB, hfv, hns, hf1, hf2⟩ := HK.out.ns (by rw [frL_len]; omega)
            rw [frL_len] at hfv
            subst hfv
            have HNS := hide (And.intro hns (And.intro hf1 hf2))
            have HO3 := hide (o2 HO2.out HW.out)
            have HM3 := hide (HM2.out.more HW.out)
            have HRG3 := hide (HRG2.out.more HW.out)
            clear hns hf1 hf2 HK
            have c0 := HRG3.out.cell 0 (.int .i64 z.p.lsn) rfl
            have c1 := HRG3.out.cell 1 (.int .i64 z.p.kind) rfl
            have c2 := HRG3.out.cell 2 (.int .i64 z.p.level) rfl
            have c3 := HRG3.out.cell 3 (.int .i64 z.p.right) rfl
            have c4 := HRG3.out.cell 4 (.string z.p.high) rfl
            have c5 := HRG3.out.cell 5 (.slice z.ao z.p.items.length z.cp) rfl
            rw [Nat.add_zero] at c0
            have fc := HM3.out.cell
            rw [HNZ.out] at fc
            have hfr2 : frL n 2 = [(N : Int), ((N + 1 : Nat) : Int)] := by rw [HNN.out]; rfl
            have HEN : Hid (Calls Tryz.prog 9 #[.agg z.ar, .int .i64 ((1 : Nat) : Int), .string s, .slice fa 2 fcp] wr fun x w' => En2 wr w' x (F 1) N (N + 1) e c) := by
              have h := enter_two wr 0 ((1 : Nat) : Int) (F 1) s B cp ao (frL n 2) fB fcp fa HP.out.1 (HP.out.2.1.more HO3.out) HP.out.2.2 (by decide) HNS.out.1 HNS.out.2.1 HNS.out.2.2 N (N + 1) e c (by rw [HI.out.2.1, HBR.out, need_full HSTD.out HNB.out hsz2]; rfl) hfr2 (okC_iff.2 ⟨by have := HE.out.hF.two; omega, by omega⟩) (okC_iff.2 ⟨by omega, by omega⟩) (frs_two HE.out.hF.two) (by have := HE.out.top; have := HI.out.2.1; omega) (by rw [HI.out.2.1]; exact HBR.out) HNB.out hsz2
              rw [frL_len] at h
              rw [← HZ.out]
              exact h
            unfold Pz.ar at HEN
            go_wp2_with fail
            refine HEN.out.mono ?_
            rintro x w4 ⟨b, cq, ao1, cp1, ao2, cp2, ao3, cp3, rfl, hr4, hA1, hA2, hA3, ho⟩
            have HR4 := hide (own_rg hr4)
            have HBW : Hid (wr.heap.size ≤ b) := (World.ownsRow.lt hr4 b rfl).1
            have HA4 := hide (And.intro hA1 (And.intro hA2 hA3))
            have HO4 := hide (o2 HO3.out ho)
            have HM4 := hide (HM3.out.more ho)
            have HZ4 : Hid (wr.heap.size ≤ w4.heap.size) := ho.size
            clear ho hr4 hA1 hA2 hA3 c0 c1 c2 c3 c4 c5 fc HEN
            have HNEW := hide (Rg.new w4 Br.none.cells 36)
            have HAL := hide (onlyA w4 (.cells Br.none.cells 36))
            go_upto_region 15 with (refine wpList_put_br rfl (.tmp 16) (.tmp 73) rfl w4.heap.size rfl Br.none.cl rfl ⟨5, 0, ⟨#[]⟩, some ⟨b, 0, none⟩, 3, cq⟩ rfl HNEW.out ?_; intro W9 HW9; go_frame)
            have HO9 : Hid (Only (fun _ => False) w4 W9) := HAL.out.trans HW9.out.only (fun q hq e => by omega)
            have HOW := hide (o2 HO4.out HO9.out)
            have HM9 := hide (HM4.out.more HO9.out)
            have HRC := hide HW9.out.at_
            have HFB : Hid (f < w4.heap.size ∧ g < w4.heap.size) := ⟨HM4.out.flt, (World.ownsRow.lt HM4.out.row g rfl).2⟩
            have HFW : Hid (f < wr.heap.size ∧ g < wr.heap.size) := ⟨HM3.out.flt, (World.ownsRow.lt HM3.out.row g rfl).2⟩
            clear HNEW HAL HW9
            have HDO : Hid (Calls Tryz.prog 22 #[.pointer (some ⟨f, 0, none⟩), .agg (Br.cells ⟨5, 0, ⟨#[]⟩, some ⟨b, 0, none⟩, 3, cq⟩)] W9 fun x w' => x = .returned (.bool true) ∧ Fk K W9 w' f g ([(N, ((F 1).nl e c (N + 1)).z 0 ao1 cp1), (N + 1, ((F 1).nr e c).z 0 ao2 cp2), (1, ((F 1).over N (N + 1)).z 0 ao3 cp3)].foldl putZ zs)) := by
              have hl := HNZ.out
              have hNn := HNN.out
              have h2N := HE.out.hF.two
              have hiL := HIL.out
              have h := does_images W9 f g cap zs [(N, ((F 1).nl e c (N + 1)).z 0 ao1 cp1), (N + 1, ((F 1).nr e c).z 0 ao2 cp2), (1, ((F 1).over N (N + 1)).z 0 ao3 cp3)] b cq HM9.out (by have r := HR4.out.more HO9.out; simpa [imf] using r) (by have h1 := HFW.out; have h2 := HBW.out; exact ⟨by omega, by omega⟩) (by
                intro q hq
                simp only [List.mem_cons, List.not_mem_nil, or_false] at hq
                rcases hq with rfl | rfl | rfl
                · exact (HA4.out.1.more HO9.out).mono (fun k hk => by have h1 := HFW.out.1; have h2 := HFW.out.2; exact ⟨by omega, by omega, fun q => by have := HM3.out.kk k q; omega⟩)
                · exact (HA4.out.2.1.more HO9.out).mono (fun k hk => by have h1 := HFW.out.1; have h2 := HFW.out.2; exact ⟨by omega, by omega, fun q => by have := HM3.out.kk k q; omega⟩)
                · exact (HA4.out.2.2.more HO9.out).mono (fun k hk => by have h1 := HFW.out.1; have h2 := HFW.out.2; exact ⟨by omega, by omega, fun q => by have := HM3.out.kk k q; omega⟩)) (by simp) (by
                intro q hq
                match q, hq with
                | 0, _ => simp <;> omega
                | 1, _ => simp [putZ_len] <;> omega
                | 2, _ => simp [putZ_len] <;> omega
                | 3, _ => simp [putZ_len] <;> omega) (by
                intro q hq
                match q, hq with
                | 0, _ => simp <;> omega
                | 1, _ => simp [putZ_len] <;> omega
                | 2, _ => simp [putZ_len] <;> omega)
              exact h
            go_wp2_with (refine wpList_loadg_br rfl (.tmp 16) rfl w4.heap.size rfl ⟨5, 0, ⟨#[]⟩, some ⟨b, 0, none⟩, 3, cq⟩ HRC.out ?_; go_frame)
            refine HDO.out.mono ?_
            rintro x w6 ⟨rfl, hfk⟩
            have HFK := hide hfk
            have HRC6 := hide (HRC.out.kept hfk.only (fun e => by have := HFB.out; rcases e with e | e <;> omega))
            clear hfk HDO
            have HAB := hide (above_no w6 ⟨5, 0, ⟨#[]⟩, some ⟨b, 0, none⟩, 3, cq⟩ (.inr (by show ¬ ((3 : Nat) : Int) = 2; decide)))
            go_wp2_with (refine wpList_load_br rfl (.tmp 16) rfl w4.heap.size rfl ⟨5, 0, ⟨#[]⟩, some ⟨b, 0, none⟩, 3, cq⟩ HRC6.out ?_; go_frame)
            refine HAB.out.mono ?_
            rintro x w7 ⟨rfl, ho⟩
            unfold En.agg
            have HO7 := hide ho
            clear ho HAB
            go_wp2_with fail
            go_ret
            exact ⟨rfl, HE.out.two HMAY.out HI.out.2.1 hsz2 (Fk.wrap HOW.out HFK.out (o2 HO7.out (onlyA _ _)))⟩
      · rw [if_neg (by omega)] at HND
        have HSTD := hide hst
        clear hst hmay hsz
        go_wp2_with fail
        refine (HND.out _ HO1.out).mono ?_
        rintro x w2 ⟨rfl, ho⟩
        have HO2 := hide (o2 HO1.out ho)
        have HM2 := hide (HM1.out.more ho)
        have HRG2 := hide (HRG.out.more ho)
        clear ho HND fc c0 c1 c2 c3 c4 c5
        go_upto_region 11 with fail
        go_loopw [14, 15] (fun u y wr => ∃ (j : Nat), j ≤ 1 ∧ y = .int .i64 (j : Int) ∧ Hid (Kts wr w2.heap.size u (frL n j)) ∧ Hid (Only (fun _ => False) w2 wr)) (fun _ y _ => 1 - (intOf y).toNat)
        case atStart => exact ⟨0, by omega, rfl, hide (Kts.nil _ _), hide (Only.refl _ _)⟩
        case round =>
          obtain ⟨j, hj, rfl, HK, HW⟩ := hrel
          by_cases hlt : j < 1
          · have hlk : (j : Int) < 1 := by omega
            have fc := (HM2.out.more HW.out).cell
            rw [HNZ.out] at fc
            have HSUM : Hid ((n : Int) + (j : Int) = ((n + j : Nat) : Int)) := by unfold Hid; omega
            have hwr : IntKind.i64.wrap ((n : Int) + (j : Int)) = (n : Int) + (j : Int) := by rw [IntKind.wrap_i64]; omega
            have HA := hide (onlyA wr (.cells #[.int .i64 ((n : Int) + (j : Int))] 3))
            obtain ⟨A3, C3, w3, hr3, hk3, ho3, _⟩ := kts_append (wr.alloc (.cells #[.int .i64 ((n : Int) + (j : Int))] 3)) w2.heap.size _ _ (HK.out.more HA.out) wr.heap.size ((n : Int) + (j : Int)) (by simp) (by rw [frL_len]; omega) (Nat.le_trans HW.out.size HA.out.size)
            rw [HSUM.out, ← frL_succ] at hk3
            rw [frL_len] at hr3 hk3
            clear HSUM
            have HK3 := hide hk3
            have HW3 : Hid (Only (fun _ => False) w2 w3) := (o2 HW.out HA.out).trans ho3 (fun q hq z => by have := (World.ownsRow.lt HK.out q z).1; omega)
            have HR3 := hide hr3
            clear hr3 hk3 ho3 HA
            go_wp2_with (at_builtin; go_must (refine Lib.wpList_append_run _ rfl _ _ _ _ rfl _ _ rfl rfl _ _ HR3.out ?_))
            go_roundw
            case rel => exact ⟨j + 1, by omega, by go_num, HK3, HW3⟩
            case measure => simp [intOf]; omega
          · have hlk : ¬ (j : Int) < 1 := by omega
            have ej : j = 1 := by omega
            subst ej
            obtain ⟨fa, fcp, fB, hfv, hns, hf1, hf2⟩ := HK.out.ns (by rw [frL_len]; omega)
            rw [frL_len] at hfv
            subst hfv
            have HNS := hide (And.intro hns (And.intro hf1 hf2))
            have HO3 := hide (o2 HO2.out HW.out)
            have HM3 := hide (HM2.out.more HW.out)
            have HRG3 := hide (HRG2.out.more HW.out)
            clear hns hf1 hf2 HK
            have c0 := HRG3.out.cell 0 (.int .i64 z.p.lsn) rfl
            have c1 := HRG3.out.cell 1 (.int .i64 z.p.kind) rfl
            have c2 := HRG3.out.cell 2 (.int .i64 z.p.level) rfl
            have c3 := HRG3.out.cell 3 (.int .i64 z.p.right) rfl
            have c4 := HRG3.out.cell 4 (.string z.p.high) rfl
            have c5 := HRG3.out.cell 5 (.slice z.ao z.p.items.length z.cp) rfl
            rw [Nat.add_zero] at c0
            have fc := HM3.out.cell
            rw [HNZ.out] at fc
            have hfr1 : frL n 1 = [(N : Int)] := by rw [HNN.out]; rfl
            have HEN : Hid (Calls Tryz.prog 9 #[.agg z.ar, .int .i64 (i : Int), .string s, .slice fa 1 fcp] wr fun x w' => En1 wr w' x (i : Int) (F i) N e c) := by
              have h := enter_one wr 0 (i : Int) (F i) s B cp ao (frL n 1) fB fcp fa HP.out.1 (HP.out.2.1.more HO3.out) HP.out.2.2 (by decide) HNS.out.1 HNS.out.2.1 HNS.out.2.2 N e c (by rw [HI.out.2.1, HBR.out, need_full HSTD.out HNB.out hsz2, if_neg (by omega)]) hfr1 (okC_iff.2 ⟨by have := HE.out.hF.two; omega, by omega⟩) (frs_one HE.out.hF.two) (by rw [HI.out.2.1]; exact HBR.out) HNB.out hsz2
              rw [frL_len] at h
              rw [← HZ.out]
              exact h
            unfold Pz.ar at HEN
            go_wp2_with fail
            refine HEN.out.mono ?_
            rintro x w4 ⟨b, ao1, cp1, ao2, cp2, rfl, hr4, hA1, hA2, ho⟩
            have HR4 := hide (own_rg hr4)
            have HBW : Hid (wr.heap.size ≤ b) := (World.ownsRow.lt hr4 b rfl).1
            have HA4 := hide (And.intro hA1 hA2)
            have HO4 := hide (o2 HO3.out ho)
            have HM4 := hide (HM3.out.more ho)
            have HZ4 : Hid (wr.heap.size ≤ w4.heap.size) := ho.size
            clear ho hr4 hA1 hA2 c0 c1 c2 c3 c4 c5 fc HEN
            have HNEW := hide (Rg.new w4 Br.none.cells 36)
            have HAL := hide (onlyA w4 (.cells Br.none.cells 36))
            go_upto_region 15 with (refine wpList_put_br rfl (.tmp 16) (.tmp 73) rfl w4.heap.size rfl Br.none.cl rfl ⟨5, 0, ⟨#[]⟩, some ⟨b, 0, none⟩, 2, 2⟩ rfl HNEW.out ?_; intro W9 HW9; go_frame)
            have HO9 : Hid (Only (fun _ => False) w4 W9) := HAL.out.trans HW9.out.only (fun q hq e => by omega)
            have HOW := hide (o2 HO4.out HO9.out)
            have HM9 := hide (HM4.out.more HO9.out)
            have HRC := hide HW9.out.at_
            have HFB : Hid (f < w4.heap.size ∧ g < w4.heap.size) := ⟨HM4.out.flt, (World.ownsRow.lt HM4.out.row g rfl).2⟩
            have HFW : Hid (f < wr.heap.size ∧ g < wr.heap.size) := ⟨HM3.out.flt, (World.ownsRow.lt HM3.out.row g rfl).2⟩
            clear HNEW HAL HW9
            have HDO : Hid (Calls Tryz.prog 22 #[.pointer (some ⟨f, 0, none⟩), .agg (Br.cells ⟨5, 0, ⟨#[]⟩, some ⟨b, 0, none⟩, 2, 2⟩)] W9 fun x w' => x = .returned (.bool true) ∧ Fk K W9 w' f g ([(i, ((F i).nl e c N).z 0 ao1 cp1), (N, ((F i).nr e c).z 0 ao2 cp2)].foldl putZ zs)) := by
              have hl := HNZ.out
              have hNn := HNN.out
              have h2N := HE.out.hF.two
              have hiL := HIL.out
              have h := does_images W9 f g cap zs [(i, ((F i).nl e c N).z 0 ao1 cp1), (N, ((F i).nr e c).z 0 ao2 cp2)] b 2 HM9.out (by have r := HR4.out.more HO9.out; simpa [imf] using r) (by have h1 := HFW.out; have h2 := HBW.out; exact ⟨by omega, by omega⟩) (by
                intro q hq
                simp only [List.mem_cons, List.not_mem_nil, or_false] at hq
                rcases hq with rfl | rfl
                · exact (HA4.out.1.more HO9.out).mono (fun k hk => by have h1 := HFW.out.1; have h2 := HFW.out.2; exact ⟨by omega, by omega, fun q => by have := HM3.out.kk k q; omega⟩)
                · exact (HA4.out.2.more HO9.out).mono (fun k hk => by have h1 := HFW.out.1; have h2 := HFW.out.2; exact ⟨by omega, by omega, fun q => by have := HM3.out.kk k q; omega⟩)) (by simp) (by
                intro q hq
                match q, hq with
                | 0, _ => simp <;> omega
                | 1, _ => simp [putZ_len] <;> omega
                | 2, _ => simp [putZ_len] <;> omega) (by
                intro q hq
                match q, hq with
                | 0, _ => simp <;> omega
                | 1, _ => simp [putZ_len] <;> omega)
              exact h
            go_wp2_with (refine wpList_loadg_br rfl (.tmp 16) rfl w4.heap.size rfl ⟨5, 0, ⟨#[]⟩, some ⟨b, 0, none⟩, 2, 2⟩ HRC.out ?_; go_frame)
            refine HDO.out.mono ?_
            rintro x w6 ⟨rfl, hfk⟩
            have HFK := hide hfk
            have HRC6 := hide (HRC.out.kept hfk.only (fun e => by have := HFB.out; rcases e with e | e <;> omega))
            clear hfk HDO
            have hbo := (HE.out.one HMAY.out hi0 HI.out.2.1 hsz2 (ao1 := ao1) (ao2 := ao2) (cp1 := cp1) (cp2 := cp2)).2.2.2.2.1
            have hvl := (HE.out.one HMAY.out hi0 HI.out.2.1 hsz2 (ao1 := ao1) (ao2 := ao2) (cp1 := cp1) (cp2 := cp2)).2.2.2.1
            have HAB := hide (above_two w6 0 ⟨#[]⟩ b 2 (i : Int) (N : Int) (((F i).nl e c N).z 0 ao1 cp1) (((F i).nr e c).z 0 ao2 cp2) [] (F i).bord (by rw [List.append_nil]; exact (HR4.out.more HO9.out).kept HFK.out.only (fun e => by have h1 := HFW.out; have h2 := HBW.out; rcases e with e | e <;> omega)) (by show hiB ((F i).nl e c N).hi = _; rw [nl_hi, hiB_ok hbo]) hbo)
            have HUP : Hid (∀ (w' : World) (g' cap' : Nat), Fm K w' f g' cap' ([(i, ((F i).nl e c N).z 0 ao1 cp1), (N, ((F i).nr e c).z 0 ao2 cp2)].foldl putZ zs) → EnPre K w' f g' cap' ([(i, ((F i).nl e c N).z 0 ao1 cp1), (N, ((F i).nr e c).z 0 ao2 cp2)].foldl putZ zs) (N + 1) (upd (upd F i ((F i).nl e c N)) N ((F i).nr e c)) (upd lo N (F i).bord) (fun x => A x ∨ (v = 0 ∧ x = e)) (v + 1) (F i).bord N) := fun w' g' cap' hM => HE.out.up HMAY.out hi0 HI.out.2.1 hsz2 hM
            have HJN : Hid (∀ (w6 w7 : World) (g' : Nat), Only (fun k => k = f ∨ k = g) w w6 → (g' = g ∨ w.heap.size ≤ g') → EnPost K w6 w7 f g' (N + 1) (upd (upd F i ((F i).nl e c N)) N ((F i).nr e c)) (fun x => A x ∨ (v = 0 ∧ x = e)) (v + 1) (F i).bord → EnPost K w w7 f g N F A v e) := fun w6 w7 g' q1 q2 q3 => HE.out.join HMAY.out hi0 HI.out.2.1 hsz2 q1 q2 q3
            have HQT : Hid (∀ w7 : World, Fk K w w7 f g ([(i, ((F i).nl e c N).z 0 ao1 cp1), (N, ((F i).nr e c).z 0 ao2 cp2)].foldl putZ zs) → EnPost K w w7 f g N F A v e) := fun w7 q => HE.out.quiet HMAY.out hi0 HI.out.2.1 hsz2 q
            have HLV1 := hide (HE.out.one HMAY.out hi0 HI.out.2.1 hsz2 (ao1 := ao1) (ao2 := ao2) (cp1 := cp1) (cp2 := cp2)).2.2.1
            have HSE : Hid (∀ W, Calls Tryz.prog 44 #[.agg #[.string (F i).bord.key, .int .i64 (F i).bord.page, .int .i64 (F i).bord.slot], .int .i64 (N : Int)] W fun x w' => x = .returned (.tuple #[.string (itB (v + 1) ((F i).bord, (N : Int))), .int .i64 0]) ∧ Only (fun _ => False) W w') := fun W => by
              have h := sep_any (F i).bord (N : Int) W
              have hk : ((F i).bord.sp && okC (N : Int)) = true := by
                rw [En.sp_iff.2 (.inr hbo), Bool.true_and]
                exact okC_iff.2 ⟨by have := HE.out.hF.two; omega, by omega⟩
              rw [hk] at h
              have es : itB (v + 1) ((F i).bord, (N : Int)) = (F i).bord.encS (N : Int) := by unfold itB; rw [if_neg (by omega)]
              rw [es]
              exact h
            unfold En.agg at HAB
            have hvw : IntKind.i64.wrap ((v : Int) + 1) = (v : Int) + 1 := by have := HE.out.top; rw [IntKind.wrap_i64]; omega
            obtain ⟨u, hu⟩ : ∃ u, (F i).bord = u := ⟨_, rfl⟩
            rw [hu] at HAB HUP HJN HSE
            clear hbo hu
            go_wp2_with (refine wpList_load_br rfl (.tmp 16) rfl w4.heap.size rfl ⟨5, 0, ⟨#[]⟩, some ⟨b, 0, none⟩, 2, 2⟩ HRC6.out ?_; go_frame)
            refine HAB.out.mono ?_
            rintro x w7 ⟨rfl, ho⟩
            have HO7 := hide ho
            clear ho HAB
            go_upto_region 18 with fail
            have HAE := hide (onlyA w7 (.cells #[.string u.key, .int .i64 u.page, .int .i64 u.slot] 41))
            have HVE := hide (Ev.new w7 u)
            obtain ⟨w8, hw8⟩ : ∃ x, w7.alloc (.cells #[.string u.key, .int .i64 u.page, .int .i64 u.slot] 41) = x := ⟨_, rfl⟩
            rw [hw8] at HAE HVE ⊢
            clear hw8
            obtain ⟨eb, heb⟩ : ∃ b, w7.heap.size = b := ⟨_, rfl⟩
            rw [heb] at HVE ⊢
            clear heb
            have HK8 := hide (Fk.wrap HOW.out HFK.out (o2 HO7.out HAE.out))
            cases told with
            | false =>
              go_wp2_with fail
              go_ret
              exact ⟨rfl, HQT.out _ HK8.out⟩
            | true =>
              obtain ⟨g8, cap8, hM8, hg8⟩ := HK8.out.ex
              have HM8 := hide hM8
              have HG8 := hide hg8
              have HN8 := hide HK8.out.only
              clear hM8 hg8
              obtain ⟨d0, d1, d2, _⟩ := HVE.out
              go_wp2_with fail
              refine (HSE.out _).mono ?_
              rintro x w9 ⟨rfl, ho⟩
              have HV9 := hide (HVE.out.more ho)
              have HM9b := hide (HM8.out.more ho)
              have HN9 := hide (HN8.out.trans ho (fun _ _ h => h.elim))
              clear ho d0 d1 d2 HSE
              obtain ⟨d0, d1, d2, _⟩ := HV9.out
              have HIH9 := hide (HIH.out w9 g8 cap8 _ _ _ _ _ (by rw [HLV1.out]) (by omega) (HUP.out _ _ _ HM9b.out))
              unfold En.agg at HIH9
              obtain ⟨S9, hS9⟩ : ∃ S, itB (v + 1) (u, (N : Int)) = S := ⟨_, rfl⟩
              rw [hS9] at HIH9 ⊢
              clear hS9
              go_wp2_with fail
              refine HIH9.out.mono ?_
              rintro x w10 ⟨rfl, hp⟩
              have HPO := hide hp
              clear hp
              go_wp2_with fail
              go_ret
              exact ⟨rfl, HJN.out _ _ _ HN9.out HG8.out HPO.out⟩
theorem enters_ok (d : Nat) : ∀ (w : World) (f g cap : Nat) (zs : List Pz) (N : Nat) (F : Nat → Nd) (lo : Nat → En) (A : En → Prop) (v : Nat) (e : En) (c : Int) (told : Bool), (F 1).lv - v = d → EnPre K w f g cap zs N F lo A v e c →
    Calls Tryz.prog 17 #[.pointer (some ⟨f, 0, none⟩), .int .i64 v, e.agg, .string (itB v (e, c)), .bool told] w fun x w' => x = .returned (.bool true) ∧ EnPost K w w' f g N F A v e := by
  induction d with
  | zero =>
    intro w f g cap zs N F lo A v e c told hd hE
    exact enters_step w f g cap zs N F lo A v e c told hE (fun w' g' cap' zs' F' lo' A' e' h1 h2 _ => absurd h2 (by omega))
  | succ d ih =>
    intro w f g cap zs N F lo A v e c told hd hE
    exact enters_step w f g cap zs N F lo A v e c told hE (fun w' g' cap' zs' F' lo' A' e' h1 h2 hE' => ih w' f g' cap' zs' (N + 1) F' lo' A' (v + 1) e' N true (by rw [h1]; omega) hE')
end Go.Proofs.YthjjkhacniebiaaGreat
