/- Parts. -/
import Derived.Test.YtpnbhddmdfcjdaaGreatK45
import Derived.Test.YtpnbhddmdfcjdaaGreatK46
import Derived.Test.YtpnbhddmdfcjdaaGreatK48
set_option maxRecDepth 100000
namespace Go.Proofs.YtpnbhddmdfcjdaaGreat
open Go.RowKit
theorem stT_live {s : ByteArray} {t : Tu} (hd : decT (bl s) = some t) : stT (bl s) = 3 := by unfold stT; rw [hd]; rfl
theorem stT_not {s : ByteArray} (hd : decT (bl s) = none) : (stT (bl s) == 3) = false := by
  unfold stT
  rw [hd]
  simp only [Option.isSome_none]
  split
  · rename_i h; cases h
  · split
    · decide
    · split <;> decide
theorem keyB_lv {s : ByteArray} {t : Tu} (hd : decT (bl s) = some t) : keyB s = t.key := by unfold keyB keyT; rw [hd]; rfl
set_option maxRecDepth 100000 in
set_option maxHeartbeats 6400000 in
theorem rsort_heap (w : World) (V : Vw) (q : Lo) (h pg a lv r : Int) (hi : ByteArray) (B cp : Nat) (ao : Option Addr) (l : List ByteArray) (hV : Sn w V q) (hl : Strs w B ao l) (hh : I64 h) (hb : l.length < 4398046511104) :
    Calls Tryz.prog 8 #[.agg #[.int .i64 V.m, .int .i64 V.next, .slice q.aA V.act.length q.cA, .int .i64 V.own, .slice q.aR V.run.length q.cR, .int .i64 V.pg.lsn, .int .i64 V.pg.kind, .int .i64 V.pg.level, .int .i64 V.pg.right, .string V.pg.high, .slice q.aP V.pg.items.length q.cP], .int .i64 h, .int .i64 pg, .agg #[.int .i64 a, .int .i64 2, .int .i64 lv, .int .i64 r, .string hi, .slice ao l.length cp]] w fun e w' => ∃ v0 v1 v2, e = .returned (.agg #[v0, v1, v2]) ∧ WkAt w' w.heap.size v0 v1 v2 (wkN V h pg l l.length) ∧ Only (fun _ => False) w w' := by
  have HN := hide (sort_new w V q a 2 lv r hi cp l.length ao)
  have HSN := hide hV
  have HSTR := hide hl
  have HH := hide hh
  have HBD := hide hb
  clear hV hl hh hb
  go_enter Tryz.func8, Tryz.ntmps8
  go_upto_region 2 with fail
  obtain ⟨W1, hW1⟩ : ∃ x, (((w.alloc (.cells #[.int .i64 V.m, .int .i64 V.next, .slice q.aA V.act.length q.cA, .int .i64 V.own, .slice q.aR V.run.length q.cR, .int .i64 V.pg.lsn, .int .i64 V.pg.kind, .int .i64 V.pg.level, .int .i64 V.pg.right, .string V.pg.high, .slice q.aP V.pg.items.length q.cP] 32)).alloc (.cells #[.int .i64 a, .int .i64 2, .int .i64 lv, .int .i64 r, .string hi, .slice ao l.length cp] 30)).alloc (.cells #[.slice none 0 0, .slice none 0 0, .slice none 0 0] 39)).alloc (.cells #[.slice none 0 0, .slice none 0 0, .slice none 0 0] 39) = x := ⟨_, rfl⟩
  rw [hW1] at HN ⊢
  clear hW1
  obtain ⟨b9, hb9⟩ : ∃ b, w.heap.size + 1 + 1 + 1 = b := ⟨_, rfl⟩
  rw [hb9] at HN ⊢
  obtain ⟨b8, hb8⟩ : ∃ b, w.heap.size + 1 + 1 = b := ⟨_, rfl⟩
  rw [hb8] at HN ⊢
  obtain ⟨b7, hb7⟩ : ∃ b, w.heap.size + 1 = b := ⟨_, rfl⟩
  rw [hb7] at HN ⊢
  have HBK : Hid (b7 = w.heap.size + 1 ∧ b8 = w.heap.size + 2 ∧ b9 = w.heap.size + 3) := ⟨by omega, by omega, by omega⟩
  clear hb7 hb8 hb9
  have HO1 := hide HN.out.2.2.2.2.1
  have HSZ1 := hide HN.out.2.2.2.2.2
  have HP1 := hide HN.out.2.1
  have HW8 := hide HN.out.2.2.1
  have HS0 : Hid (SoSt W1 W1 b9 (.slice none 0 0) (.slice none 0 0) (.slice none 0 0) (wkN V h pg l 0)) := ⟨HN.out.2.2.2.1, WkAt.nil _ _, Only.refl _ _, HN.out.2.2.2.1.lt⟩
  have HVB := hide HN.out.1
  obtain ⟨b4, hb4⟩ : ∃ b, w.heap.size = b := ⟨_, rfl⟩
  rw [hb4] at HVB ⊢
  have HB4 : Hid (b4 < W1.heap.size ∧ b4 ≠ b9) := ⟨by have := HSZ1.out; omega, by have := HBK.out; omega⟩
  clear hb4
  obtain ⟨p0, p1, p2, p3, p4, p5, _⟩ := HP1.out
  go_upto_region 4 with fail
  clear p0 p1 p2 p3 p4 p5
  go_wp2_with fail
  go_loopw [10] (fun y wr => ∃ (j : Nat) (v0 v1 v2 : Value), j ≤ l.length ∧ y = .int .i64 (j : Int) ∧ Hid (SoSt W1 wr b9 v0 v1 v2 (wkN V h pg l j))) (fun y _ => l.length - (intOf y).toNat)
  case atStart => exact ⟨0, _, _, _, by omega, rfl, HS0⟩
  case round =>
    obtain ⟨j, v0, v1, v2, hj, rfl, HS⟩ := hrel
    have HOW : Hid (Only (fun _ => False) w wr) := HO1.out.trans HS.out.only (fun i hi e => by have := HSZ1.out; have := HBK.out; omega)
    have HPR := hide (HP1.out.kept HS.out.only (fun e => by have e2 : b7 = b9 ∨ W1.heap.size ≤ b7 := e; have := HBK.out; have := HSZ1.out; omega))
    obtain ⟨q0, q1, q2, q3, q4, q5, _⟩ := HPR.out
    by_cases hlt : j < l.length
    · have hin : (j : Int) < (l.length : Int) := by omega
      obtain ⟨o, rfl, hc⟩ := (HSTR.out.more HOW.out).at_ (by omega)
      have ck : wr.cell? ⟨B, o + j, none⟩ = some (.string l[j]) := hc j hlt
      have HBL := hide (World.block_lt_of_cell? wr ⟨B, o + j, none⟩ ck)
      have HK := hide (wkN_step (V := V) (h := h) (pg := pg) hlt)
      have HSZ : Hid (l[j].size ≤ 140737488355328) := HSTR.out.size _ (List.getElem_mem hlt)
      have HLEN := hide (wkN_len V h pg l j)
      have HBJ : Hid (j < 4398046511104) := by have := HBD.out; unfold Hid; omega
      have hjb := HBJ.out
      have hj0 : (0 : Int) ≤ (j : Int) := by omega
      obtain ⟨K, hK⟩ : ∃ K, wkN V h pg l j = K := ⟨_, rfl⟩
      obtain ⟨s, hs⟩ : ∃ s, l[j] = s := ⟨_, rfl⟩
      rw [hs] at ck HK HSZ
      have HLT := hide hlt
      rw [hK] at HK HLEN HS
      clear hc hK hs
      have HVR := hide (HVB.out.kept HS.out.only (fun e => by have e2 : b4 = b9 ∨ W1.heap.size ≤ b4 := e; have := HB4.out; omega))
      have HST := hide (fun W => tstate_any s W HSZ.out)
      cases hD : (stT (bl s) == 2) with
      | true =>
        have HGN := hide (gnS_dead (V := V) (h := h) hD)
        have hst : stT (bl s) = 2 := by simpa using hD
        rw [hst] at HST
        have HKY : Hid (∀ W, ∃ b, Calls Tryz.prog 30 #[.string s] W fun e w' => e = .returned (.tuple #[.string (keyB s), .bool b]) ∧ Only (fun _ => False) W w') := fun W => by
          have h := tkey_any s W HSZ.out
          unfold keyB
          cases hk : keyT (bl s) with
          | none => rw [hk] at h; exact ⟨false, h⟩
          | some k => rw [hk] at h; exact ⟨true, h⟩
        obtain ⟨kb, hkb⟩ : ∃ k, keyB s = k := ⟨_, rfl⟩
        have HKB := hide hkb
        rw [hkb] at HKY
        clear hkb hD hst
        go_wp2_with fail
        refine (HST.out _).mono ?_
        rintro e w2 ⟨rfl, ho2⟩
        have HS2 := hide (HS.out.more ho2)
        obtain ⟨p0, p1, p2, p3, p4, p5, _⟩ := HPR.out.more ho2
        have ck2 := (ho2.cell (p := ⟨B, o + j, none⟩) HBL.out (fun h => h)).trans ck
        clear ho2 q0 q1 q2 q3 q4 q5
        obtain ⟨bk, hky⟩ := HKY.out w2
        have HKZ := hide hky
        clear hky
        go_wp2_with fail
        refine HKZ.out.mono ?_
        rintro e w3 ⟨rfl, ho3⟩
        have HS3 := hide (HS2.out.more ho3)
        clear ho3 p0 p1 p2 p3 p4 p5 ck ck2
        obtain ⟨vn, w5, hr5, hg5, ho5, hob5⟩ := erw_one (w := w3) HS3.out.at_.gn ⟨kb, pg, (j : Int)⟩ (by have := HLEN.out.2.2; have := HBJ.out; show K.gn.length + 1 ≤ 4398046511104; omega) HS3.out.only.size 37 1
        obtain ⟨a5, n5, c5, rfl⟩ := hg5.frm
        have HR5 := hide hr5
        have HS5 := hide (HS3.out.gn hg5 ho5 hob5)
        have HO56 := hide ho5
        have HC5 := hide (HS3.out.wb.kept ho5 (fun e => by have := (HS3.out.at_.gn.low b9 e.symm).1; have := HS3.out.lt; omega))
        clear hr5 hg5 ho5 hob5
        obtain ⟨z0, z1, z2, zf0, zf1, zf2, zfl⟩ := HS3.out.wb
        obtain ⟨y0, y1, y2, yf0, yf1, yf2, yfl⟩ := HC5.out
        go_wp2_with (at_builtin; go_must (refine Lib.wpList_append_run _ rfl _ _ _ _ rfl _ _ rfl rfl _ _ HR5.out ?_))
        go_roundw
        case rel => exact ⟨j + 1, _, _, _, HLT.out, by go_num, by rw [HK.out, Wk.step_gn HGN.out, HKB.out]; exact HS5.out⟩
        case measure => have := HLT.out; simp [intOf]; omega
      | false =>
        have HDC0 := hide (fun W => tdecode_any s W HSZ.out)
        cases hd : decT (bl s) with
        | none =>
          have HDC : Hid (∀ W, Calls Tryz.prog 31 #[.string s] W fun e w' => e = .returned (.tuple #[.agg #[.int .i64 noT.xmin, .int .i64 noT.xmax, .bool noT.frozen, .string noT.key, .string noT.value], .int .i64 110]) ∧ Only (fun _ => False) W w') := fun W => by
            have h := HDC0.out W
            rw [hd] at h
            exact h
          clear HDC0
          have HSTEP := hide (Wk.step_no (V := V) (h := h) (pg := pg) (K := K) (i := j) hd hD)
          have hn3 := stT_not hd
          obtain ⟨st, hst⟩ : ∃ x, stT (bl s) = x := ⟨_, rfl⟩
          rw [hst] at HST hD hn3
          have hn4 : (st != 3) = true := by simp only [bne, hn3, Bool.not_false]
          have hn5 : ¬ st = 3 := by simpa using hn3
          clear hst hd
          obtain ⟨t, ht⟩ : ∃ x, noT = x := ⟨_, rfl⟩
          rw [ht] at HDC
          clear ht
          go_wp2_with fail
          refine (HST.out _).mono ?_
          rintro e w2 ⟨rfl, ho2⟩
          have HS2 := hide (HS.out.more ho2)
          have HV2 := hide (HVR.out.more ho2)
          obtain ⟨p0, p1, p2, p3, p4, p5, _⟩ := HPR.out.more ho2
          have ck2 := (ho2.cell (p := ⟨B, o + j, none⟩) HBL.out (fun h => h)).trans ck
          have HO2 := hide ho2
          clear ho2 q0 q1 q2 q3 q4 q5
          go_wp2_with fail
          refine (HDC.out _).mono ?_
          rintro e w3 ⟨rfl, ho3⟩
          have HT3 : Hid (Tb (w3.alloc (.cells #[.int .i64 t.xmin, .int .i64 t.xmax, .bool t.frozen, .string t.key, .string t.value] 62)) w3.heap.size t) := Tb.new w3 t
          have HO3 := hide (o2 ho3 (onlyA w3 (.cells #[.int .i64 t.xmin, .int .i64 t.xmax, .bool t.frozen, .string t.key, .string t.value] 62)))
          have HS3 := hide (HS2.out.more HO3.out)
          have HV3 := hide (HV2.out.more HO3.out)
          have HOT := hide (o2 HO2.out HO3.out)
          have HW3S : Hid (w2.heap.size ≤ w3.heap.size) := ho3.size
          clear ho3 p0 p1 p2 p3 p4 p5 ck ck2
          go_upto_region 12 with fail
          obtain ⟨b14, hb14⟩ : ∃ b, w3.heap.size = b := ⟨_, rfl⟩
          rw [hb14] at HT3 ⊢
          have HB14 : Hid (b14 ≠ b9) := by
            have h1 := HS.out.wb.lt
            have h2 := HO2.out.size
            have h3 := HW3S.out
            unfold Hid
            omega
          have HW3B : Hid (wr.heap.size ≤ b14) := by
            have h2 := HO2.out.size
            have h3 := HW3S.out
            unfold Hid
            omega
          clear hb14
          obtain ⟨W3, hW3⟩ : ∃ x, w3.alloc (.cells #[.int .i64 t.xmin, .int .i64 t.xmax, .bool t.frozen, .string t.key, .string t.value] 62) = x := ⟨_, rfl⟩
          rw [hW3] at HT3 HO3 HS3 HV3 HOT ⊢
          clear hW3
          go_wp2_with fail
          go_roundw
          case rel => exact ⟨j + 1, _, _, _, HLT.out, by go_num, by rw [HK.out, HSTEP.out]; exact HS3.out⟩
          case measure => have := HLT.out; simp [intOf]; omega
        | some t =>
          have HDC : Hid (∀ W, Calls Tryz.prog 31 #[.string s] W fun e w' => e = .returned (.tuple #[.agg #[.int .i64 t.xmin, .int .i64 t.xmax, .bool t.frozen, .string t.key, .string t.value], .int .i64 0]) ∧ Only (fun _ => False) W w') := fun W => by
            have h := HDC0.out W
            rw [hd] at h
            exact h
          clear HDC0
          have HD := hide hd
          have HDF := hide hD
          have HTI : Hid (I64 t.xmin ∧ I64 t.xmax) := by
            have h := dec_small s
            rw [hd] at h
            exact h
          rw [stT_live hd] at HST
          have HGO := hide (fun W (hs : Sn W V q) => ngone_any W V q t.tp h hs HTI.out HH.out)
          have HOL := hide (fun W (hs : Sn W V q) => nold_any W V q t.tp h hs HTI.out HH.out)
          have HOF := hide (fun W (hs : Sn W V q) => noff_any W V q t.tp hs HTI.out)
          clear hd hD
          go_wp2_with fail
          refine (HST.out _).mono ?_
          rintro e w2 ⟨rfl, ho2⟩
          have HS2 := hide (HS.out.more ho2)
          have HV2 := hide (HVR.out.more ho2)
          obtain ⟨p0, p1, p2, p3, p4, p5, _⟩ := HPR.out.more ho2
          have ck2 := (ho2.cell (p := ⟨B, o + j, none⟩) HBL.out (fun h => h)).trans ck
          have HO2 := hide ho2
          clear ho2 q0 q1 q2 q3 q4 q5
          go_wp2_with fail
          refine (HDC.out _).mono ?_
          rintro e w3 ⟨rfl, ho3⟩
          have HT3 : Hid (Tb (w3.alloc (.cells #[.int .i64 t.xmin, .int .i64 t.xmax, .bool t.frozen, .string t.key, .string t.value] 62)) w3.heap.size t) := Tb.new w3 t
          have HO3 := hide (o2 ho3 (onlyA w3 (.cells #[.int .i64 t.xmin, .int .i64 t.xmax, .bool t.frozen, .string t.key, .string t.value] 62)))
          have HS3 := hide (HS2.out.more HO3.out)
          have HV3 := hide (HV2.out.more HO3.out)
          have HOT := hide (o2 HO2.out HO3.out)
          have HW3S : Hid (w2.heap.size ≤ w3.heap.size) := ho3.size
          clear ho3 p0 p1 p2 p3 p4 p5 ck ck2
          go_upto_region 12 with fail
          obtain ⟨b14, hb14⟩ : ∃ b, w3.heap.size = b := ⟨_, rfl⟩
          rw [hb14] at HT3 ⊢
          have HB14 : Hid (b14 ≠ b9) := by
            have h1 := HS.out.wb.lt
            have h2 := HO2.out.size
            have h3 := HW3S.out
            unfold Hid
            omega
          have HW3B : Hid (wr.heap.size ≤ b14) := by
            have h2 := HO2.out.size
            have h3 := HW3S.out
            unfold Hid
            omega
          clear hb14
          obtain ⟨W3, hW3⟩ : ∃ x, w3.alloc (.cells #[.int .i64 t.xmin, .int .i64 t.xmax, .bool t.frozen, .string t.key, .string t.value] 62) = x := ⟨_, rfl⟩
          rw [hW3] at HT3 HO3 HS3 HV3 HOT ⊢
          clear hW3
          have HGV : Hid (∀ b, vgone V t.tp h = b → (vgone V t.tp h = b)) := fun _ z => z
          obtain ⟨bg, hbg⟩ : ∃ b, vgone V t.tp h = b := ⟨_, rfl⟩
          have HBG := hide hbg
          rw [hbg] at HGO
          obtain ⟨bo, hbo⟩ : ∃ b, vold V t.tp h = b := ⟨_, rfl⟩
          have HBO := hide hbo
          rw [hbo] at HOL
          obtain ⟨bf, hbf⟩ : ∃ b, voff V t.tp = b := ⟨_, rfl⟩
          have HBF := hide hbf
          rw [hbf] at HOF
          clear hbg hbo hbf HGV
          unfold Tu.tp at HGO HOL HOF
          simp only [] at HGO HOL HOF
          obtain ⟨vc0, vc1, vc2, vc3, vc4, vc5, vc6, vc7, vc8, vc9, vc10, _, _, _, _, _, _, _, _, _, _, _, _⟩ := HV3.out
          obtain ⟨tc0, tc1, tc2, tc3, tc4, _, _, _, _, _, _⟩ := HT3.out
          go_wp2_with fail
          refine (HGO.out _ (HSN.out.more (o2 HOW.out HOT.out))).mono ?_
          rintro e w4 ⟨rfl, ho4⟩
          have HS4 := hide (HS3.out.more ho4)
          have HT4 := hide (HT3.out.more ho4)
          have HV4 := hide (HV3.out.more ho4)
          have HO4 := hide (o2 HOT.out ho4)
          clear ho4 vc0 vc1 vc2 vc3 vc4 vc5 vc6 vc7 vc8 vc9 vc10 tc0 tc1 tc2 tc3 tc4
          cases bg with
          | true =>
            have HGN := hide (gnS_lv HD.out HBG.out)
            have HKB := hide (keyB_lv HD.out)
            obtain ⟨tc0, tc1, tc2, tc3, tc4, _, _, _, _, _, _⟩ := HT4.out
            obtain ⟨vn, w5, hr5, hg5, ho5, hob5⟩ := erw_one (w := w4) HS4.out.at_.gn ⟨t.key, pg, (j : Int)⟩ (by have := HLEN.out.2.2; have := HBJ.out; show K.gn.length + 1 ≤ 4398046511104; omega) HS4.out.only.size 37 1
            obtain ⟨a5, n5, c5, rfl⟩ := hg5.frm
            have HR5 := hide hr5
            have HS5 := hide (HS4.out.gn hg5 ho5 hob5)
            have HO56 := hide ho5
            have HC5 := hide (HS4.out.wb.kept ho5 (fun e => by have := (HS4.out.at_.gn.low b9 e.symm).1; have := HS4.out.lt; omega))
            clear hr5 hg5 ho5 hob5
            obtain ⟨z0, z1, z2, zf0, zf1, zf2, zfl⟩ := HS4.out.wb
            obtain ⟨y0, y1, y2, yf0, yf1, yf2, yfl⟩ := HC5.out
            go_wp2_with (at_builtin; go_must (refine Lib.wpList_append_run _ rfl _ _ _ _ rfl _ _ rfl rfl _ _ HR5.out ?_))
            go_roundw
            case rel => exact ⟨j + 1, _, _, _, HLT.out, by go_num, by rw [HK.out, Wk.step_gn HGN.out, HKB.out]; exact HS5.out⟩
            case measure => have := HLT.out; simp [intOf]; omega
          | false =>
            have HSTEP := hide (Wk.step_lv (pg := pg) (K := K) (i := j) HD.out HDF.out HBG.out)
            rw [HBO.out, HBF.out] at HSTEP
            obtain ⟨vc0, vc1, vc2, vc3, vc4, vc5, vc6, vc7, vc8, vc9, vc10, _, _, _, _, _, _, _, _, _, _, _, _⟩ := HV4.out
            obtain ⟨tc0, tc1, tc2, tc3, tc4, _, _, _, _, _, _⟩ := HT4.out
            go_wp2_with fail
            refine (HOL.out _ (HSN.out.more (o2 HOW.out HO4.out))).mono ?_
            rintro e w6 ⟨rfl, ho6⟩
            have HS6 := hide (HS4.out.more ho6)
            have HT6 := hide (HT4.out.more ho6)
            have HV6 := hide (HV4.out.more ho6)
            have HO6 := hide (o2 HO4.out ho6)
            clear ho6
            clear vc0 vc1 vc2 vc3 vc4 vc5 vc6 vc7 vc8 vc9 vc10 tc0 tc1 tc2 tc3 tc4
            cases bo with
            | true =>
              obtain ⟨vn, w5, hr5, hg5, ho5, hob5⟩ := irw_one (w := w6) HS6.out.at_.fr (j : Int) (by have := HLEN.out.1; have := HBJ.out; show K.fr.length + 1 ≤ 4398046511104; omega) HS6.out.only.size 25 1
              obtain ⟨a5, n5, c5, rfl⟩ := hg5.frm
              have HR5 := hide hr5
              have HS7 := hide (HS6.out.fr hg5 ho5 hob5)
              have HO56 := hide ho5
              have HC5 := hide (HS6.out.wb.kept ho5 (fun e => by have := (HS6.out.at_.fr.low b9 e.symm).1; have := HS6.out.lt; omega))
              clear hr5 hg5 ho5 hob5
              obtain ⟨z0, z1, z2, zf0, zf1, zf2, zfl⟩ := HS6.out.wb
              obtain ⟨y0, y1, y2, yf0, yf1, yf2, yfl⟩ := HC5.out
              go_upto_region 17 with (at_builtin; go_must (refine Lib.wpList_append_run _ rfl _ _ _ _ rfl _ _ rfl rfl _ _ HR5.out ?_))
              obtain ⟨w7, hw7⟩ : ∃ x, w5.setCell ⟨b9, 0, none⟩ (.slice a5 n5 c5) = x := ⟨_, rfl⟩
              rw [hw7] at HS7 ⊢
              clear z0 z1 z2 zf0 zf1 zf2 zfl y0 y1 y2 yf0 yf1 yf2 yfl HR5 HC5
              have HO7 : Hid (Only (fun _ => False) w w7) := HO1.out.trans HS7.out.only (fun i hi e => by have := HSZ1.out; have := HBK.out; omega)
              have HV7 := hide (HVB.out.kept HS7.out.only (fun e => by have e2 : b4 = b9 ∨ W1.heap.size ≤ b4 := e; have := HB4.out; omega))
              have HT7 : Hid (Tb w7 b14 t) := by
                rw [← hw7]
                exact (HT6.out.kept HO56.out (fun e => by have := (HS.out.at_.fr.low b14 e.symm).2; have := HW3B.out; omega)).kept (Only.setCell (S := fun k => k = b9) w5 ⟨b9, 0, none⟩ (.slice a5 n5 c5) rfl) (fun e => by have e2 : b14 = b9 := e; have := HB14.out; omega)
              obtain ⟨vc0, vc1, vc2, vc3, vc4, vc5, vc6, vc7, vc8, vc9, vc10, _, _, _, _, _, _, _, _, _, _, _, _⟩ := HV7.out
              obtain ⟨tc0, tc1, tc2, tc3, tc4, _, _, _, _, _, _⟩ := HT7.out
              go_wp2_with fail
              refine (HOF.out _ (HSN.out.more HO7.out)).mono ?_
              rintro e w8 ⟨rfl, ho8⟩
              have HS8 := hide (HS7.out.more ho8)
              clear ho8
              clear vc0 vc1 vc2 vc3 vc4 vc5 vc6 vc7 vc8 vc9 vc10 tc0 tc1 tc2 tc3 tc4
              cases bf with
              | true =>
                obtain ⟨vn, w5, hr5, hg5, ho5, hob5⟩ := irw_one (w := w8) HS8.out.at_.of (j : Int) (by have := HLEN.out.2.1; have := HBJ.out; show K.of.length + 1 ≤ 4398046511104; omega) HS8.out.only.size 25 1
                obtain ⟨a5, n5, c5, rfl⟩ := hg5.frm
                have HR5 := hide hr5
                have HS6 := hide (HS8.out.of hg5 ho5 hob5)
                have HO56 := hide ho5
                have HC5 := hide (HS8.out.wb.kept ho5 (fun e => by have := (HS8.out.at_.of.low b9 e.symm).1; have := HS8.out.lt; omega))
                clear hr5 hg5 ho5 hob5
                obtain ⟨z0, z1, z2, zf0, zf1, zf2, zfl⟩ := HS8.out.wb
                obtain ⟨y0, y1, y2, yf0, yf1, yf2, yfl⟩ := HC5.out
                go_wp2_with (at_builtin; go_must (refine Lib.wpList_append_run _ rfl _ _ _ _ rfl _ _ rfl rfl _ _ HR5.out ?_))
                go_roundw
                case rel => exact ⟨j + 1, _, _, _, HLT.out, by go_num, by rw [HK.out, HSTEP.out]; exact HS6.out⟩
                case measure => have := HLT.out; simp [intOf]; omega
              | false =>
                go_wp2_with fail
                go_roundw
                case rel => exact ⟨j + 1, _, _, _, HLT.out, by go_num, by rw [HK.out, HSTEP.out]; exact HS8.out⟩
                case measure => have := HLT.out; simp [intOf]; omega
            | false =>
              go_upto_region 17 with fail
              obtain ⟨vc0, vc1, vc2, vc3, vc4, vc5, vc6, vc7, vc8, vc9, vc10, _, _, _, _, _, _, _, _, _, _, _, _⟩ := HV6.out
              obtain ⟨tc0, tc1, tc2, tc3, tc4, _, _, _, _, _, _⟩ := HT6.out
              go_wp2_with fail
              refine (HOF.out _ (HSN.out.more (o2 HOW.out HO6.out))).mono ?_
              rintro e w8 ⟨rfl, ho8⟩
              have HS8 := hide (HS6.out.more ho8)
              clear ho8
              clear vc0 vc1 vc2 vc3 vc4 vc5 vc6 vc7 vc8 vc9 vc10 tc0 tc1 tc2 tc3 tc4
              cases bf with
              | true =>
                obtain ⟨vn, w5, hr5, hg5, ho5, hob5⟩ := irw_one (w := w8) HS8.out.at_.of (j : Int) (by have := HLEN.out.2.1; have := HBJ.out; show K.of.length + 1 ≤ 4398046511104; omega) HS8.out.only.size 25 1
                obtain ⟨a5, n5, c5, rfl⟩ := hg5.frm
                have HR5 := hide hr5
                have HS6 := hide (HS8.out.of hg5 ho5 hob5)
                have HO56 := hide ho5
                have HC5 := hide (HS8.out.wb.kept ho5 (fun e => by have := (HS8.out.at_.of.low b9 e.symm).1; have := HS8.out.lt; omega))
                clear hr5 hg5 ho5 hob5
                obtain ⟨z0, z1, z2, zf0, zf1, zf2, zfl⟩ := HS8.out.wb
                obtain ⟨y0, y1, y2, yf0, yf1, yf2, yfl⟩ := HC5.out
                go_wp2_with (at_builtin; go_must (refine Lib.wpList_append_run _ rfl _ _ _ _ rfl _ _ rfl rfl _ _ HR5.out ?_))
                go_roundw
                case rel => exact ⟨j + 1, _, _, _, HLT.out, by go_num, by rw [HK.out, HSTEP.out]; exact HS6.out⟩
                case measure => have := HLT.out; simp [intOf]; omega
              | false =>
                go_wp2_with fail
                go_roundw
                case rel => exact ⟨j + 1, _, _, _, HLT.out, by go_num, by rw [HK.out, HSTEP.out]; exact HS8.out⟩
                case measure => have := HLT.out; simp [intOf]; omega
    · have hin : ¬ (j : Int) < (l.length : Int) := by omega
      obtain rfl : j = l.length := by omega
      have HW8R := hide (HW8.out.kept HS.out.only (fun e => by have e2 : b8 = b9 ∨ W1.heap.size ≤ b8 := e; have := HBK.out; have := HSZ1.out; omega))
      obtain ⟨x0, m0, y0, rfl⟩ := HS.out.at_.fr.frm
      obtain ⟨x1, m1, y1, rfl⟩ := HS.out.at_.of.frm
      obtain ⟨x2, m2, y2, rfl⟩ := HS.out.at_.gn.frm
      obtain ⟨z0, z1, z2, f0, f1, f2, _⟩ := HW8R.out
      obtain ⟨c0, c1, c2, _, _, _, _⟩ := HS.out.wb
      go_wp2_with fail
      refine bodyPost_ret (results_cellI rfl rfl (load_work (HW8R.out.all (.slice x0 m0 y0) (.slice x1 m1 y1) (.slice x2 m2 y2)))) rfl ?_
      have hbk := HBK.out
      exact ⟨_, _, _, rfl, (HS.out.at_.kept (Only.threeW wr b8 _ _ _) (fun k hk e => by have := HSZ1.out; omega)).low_base (by have := HSZ1.out; omega), HOW.out.trans (Only.threeW _ _ _ _ _) (fun i hi e => by omega)⟩
end Go.Proofs.YtpnbhddmdfcjdaaGreat
