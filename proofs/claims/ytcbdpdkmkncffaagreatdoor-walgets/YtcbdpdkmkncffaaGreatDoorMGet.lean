/- What Get answers of a place where a record stands. -/
import Derived.Test.YtcbdpdkmkncffaaGreatDoorRDec
import Derived.Test.YtcbdpdkmkncffaaGreatDoorMEG
namespace Go.Proofs.YtcbdpdkmkncffaaGreatDoor
open Go.RowKit

/-- What Decode answers. -/
structure DcN (w w' : World) (e : Ending) (l : List UInt8) : Prop where
  ex : ∃ (r : Rc) (n c : Int) (L : Loc), DecIs l r n c ∧ (∀ W', Only (fun k => k < w.heap.size) w' W' → RcAt W' r L) ∧ e = .returned (.tuple #[.agg (r.cells L), .int .i64 n, .int .i64 c])
  only : Only (fun _ => False) w w'
set_option maxRecDepth 100000 in
set_option maxHeartbeats 3200000 in
theorem rdecode_new (w : World) (S : ByteArray) (hS : S.size ≤ maxLen) : Calls Tryz.prog 28 #[.string S] w fun e w' => DcN w w' e (bl S) := by
  unfold maxLen at hS
  have hlen : (bl S).length = S.size := bl_len S
  have HTH0 := hide (there_new w Rc.none Loc.none)
  have HO0 := hide (onlyA w (.cells (Rc.none.cells Loc.none) 37))
  obtain ⟨b0, hb0⟩ : ∃ b0, w.heap.size = b0 := ⟨_, rfl⟩
  rw [hb0] at HTH0
  have hb0' : w.heap.size ≤ b0 := by omega
  have hb0'' : b0 ≤ w.heap.size := by omega
  obtain ⟨W0, hW0⟩ : ∃ W0, w.alloc (.cells (Rc.none.cells Loc.none) 37) = W0 := ⟨_, rfl⟩
  rw [hW0] at HTH0 HO0
  have HW0 := hide hW0
  have HB0 := hide hb0
  clear hW0 hb0
  by_cases h8 : S.size < 8
  · have h8' : (S.size : Int) < 8 := by omega
    have HD : Hid (DecIs (bl S) .none 0 40) := di_short (by omega)
    have HTH := HTH0
    clear h8
    go_enter Tryz.func28, Tryz.ntmps28
    go_upto_region 1 with fail
    rw [HB0.out]
    rw [show w.alloc (.cells #[.int .i64 0, .int .i64 0, .int .i64 0, .int .u8 0, .int .i64 0, .int .i64 0, .int .i64 0, .int .i64 0, .int .i64 0, .int .i64 0, .string ⟨#[]⟩, .slice none 0 0, .slice none 0 0, .slice none 0 0, .slice none 0 0, .slice none 0 0] 37) = W0 from HW0.out]
    go_upto_region 2 with fail
    go_wp2_with (refine wpList_build_rec rfl rfl ?_; go_frame; refine wpList_put_rec rfl (.tmp 2) (.tmp 13) rfl b0 rfl Rc.none Loc.none rfl HTH.out ?_; intro W9 HW9; go_frame)
    refine bodyPost_ret (results_rec3 rfl rfl HW9.out.load) rfl ?_
    exact ⟨⟨Rc.none, 0, _, Loc.none, HD.out, (fun _ _ => none_at _), rfl⟩, HO0.out.trans HW9.out.only (fun i hi e => by omega)⟩
  · have h8' : ¬ (S.size : Int) < 8 := by omega
    have h4 : (4 : Int) ≤ (S.size : Int) := by omega
    have h8b : (8 : Int) ≤ (S.size : Int) := by omega
    obtain ⟨A, hA⟩ : ∃ A, S.extract 0 4 = A := ⟨_, rfl⟩
    obtain ⟨C, hC⟩ : ∃ C, S.extract 4 8 = C := ⟨_, rfl⟩
    obtain ⟨R, hR⟩ : ∃ R, S.extract 8 S.size = R := ⟨_, rfl⟩
    have bA : bl A = (bl S).take 4 := by rw [← hA, ext_bl, List.drop_zero]
    have bC : bl C = ((bl S).drop 4).take 4 := by rw [← hC, ext_bl, List.drop_take]
    have bR : bl R = (bl S).drop 8 := by rw [← hR, ext_bl, List.take_of_length_le (by rw [bl_len]; exact Nat.le_refl _)]
    have sA : A.size = 4 := by rw [← bl_len, bA, List.length_take]; omega
    have sC : C.size = 4 := by rw [← bl_len, bC, List.length_take, List.length_drop]; omega
    have sR : R.size = S.size - 8 := by rw [← bl_len, bR, List.length_drop]; omega
    have oA := ofTo_small (bl A) (by rw [bl_len]; omega)
    have oC := ofTo_small (bl C) (by rw [bl_len]; omega)
    rw [bl_len, sA] at oA
    rw [bl_len, sC] at oC
    have p4 : (256 : Int) ^ 4 = 4294967296 := by decide
    rw [p4] at oA oC
    have cA := fun W => of_any A W (by unfold maxLen; omega)
    have cC := fun W => of_any C W (by unfold maxLen; omega)
    obtain ⟨n, hn⟩ := Int.eq_ofNat_of_zero_le oA.1
    obtain ⟨m, hm⟩ := Int.eq_ofNat_of_zero_le oC.1
    have eA : ofTo A.data.toList % 9223372036854775808 = (n : Int) := by show ofTo (bl A) % _ = _; omega
    have eC : ofTo C.data.toList % 9223372036854775808 = (m : Int) := by show ofTo (bl C) % _ = _; omega
    simp only [eA] at cA
    simp only [eC] at cC
    have HCA := hide cA
    have HCC := hide cC
    rw [bA] at hn
    rw [bC] at hm
    have HN := hide hn
    have HM := hide hm
    have HBR := hide bR
    have HSR := hide sR
    have hRb : R.size ≤ 9223372036854775807 := by omega
    have HL8 : Hid (8 ≤ (bl S).length) := by unfold Hid; omega
    have HLEN := hide hlen
    clear cA cC eA eC hn hm bA bC bR sA sC sR oA oC p4 h8 hlen
    by_cases hz : n = 0 ∨ 65535 < n
    · have HD : Hid (DecIs (bl S) .none 0 41) := di_zero HL8.out (by rw [HN.out]; omega)
      by_cases hz0 : n = 0
      · subst hz0
        clear hz
        go_enter Tryz.func28, Tryz.ntmps28
        go_upto_region 1 with fail
        rw [HB0.out]
        rw [show w.alloc (.cells #[.int .i64 0, .int .i64 0, .int .i64 0, .int .u8 0, .int .i64 0, .int .i64 0, .int .i64 0, .int .i64 0, .int .i64 0, .int .i64 0, .string ⟨#[]⟩, .slice none 0 0, .slice none 0 0, .slice none 0 0, .slice none 0 0, .slice none 0 0] 37) = W0 from HW0.out]
        go_wp2_with fail
        refine (HCA.out _).mono ?_
        rintro e w1 ⟨rfl, hw1⟩
        obtain rfl := hw1.symm
        go_upto_region 4 with fail
        go_quiet ((go_at_call 55; exact Calls.quiet_of_same (HCC.out _)))
        have HTH := hide (there_kept HTH0.out (onlyN W0 nq) (fun h => h))
        go_upto_region 6 with fail
        go_wp2_with (refine wpList_build_rec rfl rfl ?_; go_frame; refine wpList_put_rec rfl (.tmp 2) (.tmp 28) rfl b0 rfl Rc.none Loc.none rfl HTH.out ?_; intro W9 HW9; go_frame)
        refine bodyPost_ret (results_rec3 rfl rfl HW9.out.load) rfl ?_
        exact ⟨⟨Rc.none, 0, _, Loc.none, HD.out, (fun _ _ => none_at _), rfl⟩, (o2 HO0.out (onlyN W0 nq)).trans HW9.out.only (fun i hi e => by omega)⟩
      · have hz1 : (65535 : Int) < (n : Int) := by omega
        have hz2 : ((n : Int) == 0) = false := by simp; omega
        clear hz hz0
        go_enter Tryz.func28, Tryz.ntmps28
        go_upto_region 1 with fail
        rw [HB0.out]
        rw [show w.alloc (.cells #[.int .i64 0, .int .i64 0, .int .i64 0, .int .u8 0, .int .i64 0, .int .i64 0, .int .i64 0, .int .i64 0, .int .i64 0, .int .i64 0, .string ⟨#[]⟩, .slice none 0 0, .slice none 0 0, .slice none 0 0, .slice none 0 0, .slice none 0 0] 37) = W0 from HW0.out]
        go_wp2_with fail
        refine (HCA.out _).mono ?_
        rintro e w1 ⟨rfl, hw1⟩
        obtain rfl := hw1.symm
        go_upto_region 4 with fail
        go_quiet ((go_at_call 55; exact Calls.quiet_of_same (HCC.out _)))
        have HTH := hide (there_kept HTH0.out (onlyN W0 nq) (fun h => h))
        go_upto_region 6 with fail
        go_wp2_with (refine wpList_build_rec rfl rfl ?_; go_frame; refine wpList_put_rec rfl (.tmp 2) (.tmp 28) rfl b0 rfl Rc.none Loc.none rfl HTH.out ?_; intro W9 HW9; go_frame)
        refine bodyPost_ret (results_rec3 rfl rfl HW9.out.load) rfl ?_
        exact ⟨⟨Rc.none, 0, _, Loc.none, HD.out, (fun _ _ => none_at _), rfl⟩, (o2 HO0.out (onlyN W0 nq)).trans HW9.out.only (fun i hi e => by omega)⟩
    · have HNZ : Hid (¬ (ofTo ((bl S).take 4) = 0 ∨ 65535 < ofTo ((bl S).take 4))) := by unfold Hid; rw [HN.out]; omega
      have hz2 : ((n : Int) == 0) = false := by simp; omega
      have hz1 : ¬ (65535 : Int) < (n : Int) := by omega
      have hn1 : n ≤ 65535 := by omega
      clear hz
      by_cases hc : R.size < n
      · have hc' : (R.size : Int) < (n : Int) := by omega
        have HD : Hid (DecIs (bl S) .none 0 40) := di_cut HL8.out HNZ.out (by rw [HN.out, HLEN.out]; have := HSR.out; omega)
        clear hc
        go_enter Tryz.func28, Tryz.ntmps28
        go_upto_region 1 with fail
        rw [HB0.out]
        rw [show w.alloc (.cells #[.int .i64 0, .int .i64 0, .int .i64 0, .int .u8 0, .int .i64 0, .int .i64 0, .int .i64 0, .int .i64 0, .int .i64 0, .int .i64 0, .string ⟨#[]⟩, .slice none 0 0, .slice none 0 0, .slice none 0 0, .slice none 0 0, .slice none 0 0] 37) = W0 from HW0.out]
        go_wp2_with fail
        refine (HCA.out _).mono ?_
        rintro e w1 ⟨rfl, hw1⟩
        obtain rfl := hw1.symm
        go_upto_region 4 with fail
        go_quiet ((go_at_call 55; exact Calls.quiet_of_same (HCC.out _)))
        have HTH := hide (there_kept HTH0.out (onlyN W0 nq) (fun h => h))
        go_upto_region 8 with fail
        go_wp2_with (refine wpList_build_rec rfl rfl ?_; go_frame; refine wpList_put_rec rfl (.tmp 2) (.tmp 33) rfl b0 rfl Rc.none Loc.none rfl HTH.out ?_; intro W9 HW9; go_frame)
        refine bodyPost_ret (results_rec3 rfl rfl HW9.out.load) rfl ?_
        exact ⟨⟨Rc.none, 0, _, Loc.none, HD.out, (fun _ _ => none_at _), rfl⟩, (o2 HO0.out (onlyN W0 nq)).trans HW9.out.only (fun i hi e => by omega)⟩
      · have hc' : ¬ (R.size : Int) < (n : Int) := by omega
        have hcc : (n : Int) ≤ (R.size : Int) := by omega
        have HNC : Hid (¬ ((bl S).length : Int) - 8 < ofTo ((bl S).take 4)) := by unfold Hid; rw [HN.out, HLEN.out]; have := HSR.out; omega
        obtain ⟨D, hD⟩ : ∃ D, R.extract 0 n = D := ⟨_, rfl⟩
        have bD : bl D = ((bl S).drop 8).take n := by rw [← hD, ext_bl, List.drop_zero, HBR.out]
        have sD : D.size ≤ 65535 := by rw [← bl_len, bD, List.length_take]; omega
        have HBD : Hid (bl D = ((bl S).drop 8).take (ofTo ((bl S).take 4)).toNat) := by unfold Hid; rw [HN.out, Int.toNat_natCast]; exact bD
        obtain ⟨z, hzz⟩ : ∃ z, sum D.data.toList = z := ⟨_, rfl⟩
        have hzb := sum_bd D.data.toList
        have cS := fun W => sum_any D W (by unfold maxLen; omega)
        rw [hzz] at hzb
        simp only [hzz] at cS
        have HCS := hide cS
        have HZZ : Hid (sum (bl D) = z) := hzz
        have hz0 := hzb.1
        have hz9 := hzb.2
        clear bD hc cS hzz hzb
        by_cases hs : z = (m : Int)
        · have hs' : (z != (m : Int)) = false := by simpa using hs
          have HSE : Hid (sum (((bl S).drop 8).take (ofTo ((bl S).take 4)).toNat) = ofTo (((bl S).drop 4).take 4)) := by unfold Hid; rw [← HBD.out, HZZ.out, HM.out]; exact hs
          clear hs
          go_enter Tryz.func28, Tryz.ntmps28
          go_upto_region 1 with fail
          rw [HB0.out]
          rw [show w.alloc (.cells #[.int .i64 0, .int .i64 0, .int .i64 0, .int .u8 0, .int .i64 0, .int .i64 0, .int .i64 0, .int .i64 0, .int .i64 0, .int .i64 0, .string ⟨#[]⟩, .slice none 0 0, .slice none 0 0, .slice none 0 0, .slice none 0 0, .slice none 0 0] 37) = W0 from HW0.out]
          go_wp2_with fail
          refine (HCA.out _).mono ?_
          rintro e w1 ⟨rfl, hw1⟩
          obtain rfl := hw1.symm
          go_upto_region 4 with fail
          go_quiet ((go_at_call 55; exact Calls.quiet_of_same (HCC.out _)))
          have HTH := hide (there_kept HTH0.out (onlyN W0 nq) (fun h => h))
          have HO1 := hide (o2 HO0.out (onlyN W0 nq))
          go_wp2_with fail
          refine (HCS.out _).mono ?_
          rintro e w1 ⟨rfl, hw1⟩
          obtain rfl := hw1.symm
          go_wp2_with fail
          refine (rparts_any _ D).mono ?_
          rintro e w2 hq
          obtain ⟨q, st, hst, hls, hx⟩ := hq.ex
          have HST := hide hst
          have HLS := hide hls
          have HO2 := hide (o2 HO1.out hq.only)
          have HTH2 := hide (there_kept HTH.out hq.only (fun h => h))
          have HO2W := hide hq.only.size
          have HNEW := hide (there_new w2 Rc.none Loc.none)
          have HOA := hide (onlyA w2 (.cells (Rc.none.cells Loc.none) 37))
          clear hq hst hls
          rcases hx with ⟨h1, h2, h3, L, hat, rfl⟩ | ⟨hbad, rfl⟩
          · have HX := hide h1
            have HV := hide h2
            have HY := hide h3
            have HAT := hide hat
            clear h1 h2 h3 hat
            have hb2 : b0 < w2.heap.size := by have h1 := HB0.out; have h2 := HO0.out.size; have h3 := HW0.out; have h4 : W0.heap.size = w.heap.size + 1 := by { rw [← h3]; simp }; have h5 := (onlyN W0 nq).size; have h6 := HO2W.out; omega
            go_upto_region 14 with (refine wpList_lay_rec rfl (.tmp 8) (.tmp 47) rfl w2.heap.size rfl q L rfl HNEW.out ?_; intro W3 HW3; go_frame)
            have HT3 := hide (there_kept (there_kept HTH2.out HOA.out (fun h => h)) HW3.out.only (by omega))
            have hn8 : (8 : Int) + (n : Int) ≤ 9223372036854775807 := by omega
            go_wp2_with (first
              | (refine wpList_load_rec rfl (.tmp 8) rfl w2.heap.size rfl q L HW3.out.range ?_; go_frame)
              | (refine wpList_put_rec rfl (.tmp 2) (.tmp 52) rfl b0 rfl q L rfl HT3.out ?_; intro W9 HW9; go_frame))
            refine bodyPost_ret (results_rec3 rfl rfl HW9.out.load) rfl ?_
            have hz0 := HB0.out
            refine ⟨⟨q, _, 0, L, di_rest HL8.out HNZ.out (by have := HNC.out; omega) HSE.out ⟨q, st, by rw [← HBD.out]; exact HST.out, HLS.out, .inl ⟨HX.out, HV.out, by rw [← HBD.out]; exact HY.out, rfl, rfl, rfl⟩⟩, fun W' ho => HAT.out _ ?_, ?_⟩, ?_⟩
            · have k4 : W0.heap.size = w.heap.size + 1 := by rw [← HW0.out]; simp
              have k5 := (onlyN W0 nq).size
              exact (((HOA.out.mono (fun _ _ h => h.elim)).trans HW3.out.only (fun i hi e => by omega)).trans HW9.out.only (fun i hi e => by omega)).trans ho (fun i hi e => by omega)
            · rw [HN.out]; rfl
            · exact ((o2 HO2.out HOA.out).trans HW3.out.only (fun i hi e => by omega)).trans HW9.out.only (fun i hi e => by omega)
          · have HX := hide hbad
            clear hbad
            go_upto_region 12 with (refine wpList_lay_rec rfl (.tmp 8) (.tmp 47) rfl w2.heap.size rfl Rc.none Loc.none rfl HNEW.out ?_; intro W3 HW3; go_frame)
            have hb2 : b0 < w2.heap.size := by have h1 := HB0.out; have h2 := HO0.out.size; have h3 := HW0.out; have h4 : W0.heap.size = w.heap.size + 1 := by { rw [← h3]; simp }; have h5 := (onlyN W0 nq).size; have h6 := HO2W.out; omega
            have HTH := hide (there_kept (there_kept HTH2.out HOA.out (fun h => h)) HW3.out.only (by omega))
            have HO3 := hide ((o2 HO2.out HOA.out).trans HW3.out.only (fun i hi e => by omega))
            go_upto_region 13 with fail
            go_wp2_with (refine wpList_build_rec rfl rfl ?_; go_frame; refine wpList_put_rec rfl (.tmp 2) (.tmp 51) rfl b0 rfl Rc.none Loc.none rfl HTH.out ?_; intro W9 HW9; go_frame)
            refine bodyPost_ret (results_rec3 rfl rfl HW9.out.load) rfl ?_
            exact ⟨⟨Rc.none, 0, 41, Loc.none, di_rest HL8.out HNZ.out (by have := HNC.out; omega) HSE.out ⟨q, st, by rw [← HBD.out]; exact HST.out, HLS.out, .inr ⟨by rw [← HBD.out]; exact HX.out, rfl, rfl, rfl⟩⟩, (fun _ _ => none_at _), rfl⟩, HO3.out.trans HW9.out.only (fun i hi e => by omega)⟩
        · have hs' : (z != (m : Int)) = true := by simpa using hs
          have HD : Hid (DecIs (bl S) .none 0 30) := di_sum HL8.out HNZ.out HNC.out (by rw [← HBD.out, HZZ.out, HM.out]; exact hs)
          clear hs
          go_enter Tryz.func28, Tryz.ntmps28
          go_upto_region 1 with fail
          rw [HB0.out]
          rw [show w.alloc (.cells #[.int .i64 0, .int .i64 0, .int .i64 0, .int .u8 0, .int .i64 0, .int .i64 0, .int .i64 0, .int .i64 0, .int .i64 0, .int .i64 0, .string ⟨#[]⟩, .slice none 0 0, .slice none 0 0, .slice none 0 0, .slice none 0 0, .slice none 0 0] 37) = W0 from HW0.out]
          go_wp2_with fail
          refine (HCA.out _).mono ?_
          rintro e w1 ⟨rfl, hw1⟩
          obtain rfl := hw1.symm
          go_upto_region 4 with fail
          go_quiet ((go_at_call 55; exact Calls.quiet_of_same (HCC.out _)))
          have HTH := hide (there_kept HTH0.out (onlyN W0 nq) (fun h => h))
          have HO1 := hide (o2 HO0.out (onlyN W0 nq))
          go_wp2_with fail
          refine (HCS.out _).mono ?_
          rintro e w1 ⟨rfl, hw1⟩
          obtain rfl := hw1.symm
          go_upto_region 10 with fail
          go_wp2_with (refine wpList_build_rec rfl rfl ?_; go_frame; refine wpList_put_rec rfl (.tmp 2) (.tmp 41) rfl b0 rfl Rc.none Loc.none rfl HTH.out ?_; intro W9 HW9; go_frame)
          refine bodyPost_ret (results_rec3 rfl rfl HW9.out.load) rfl ?_
          exact ⟨⟨Rc.none, 0, _, Loc.none, HD.out, (fun _ _ => none_at _), rfl⟩, HO1.out.trans HW9.out.only (fun i hi e => by omega)⟩
end Go.Proofs.YtcbdpdkmkncffaaGreatDoor

namespace Go.Proofs.YtcbdpdkmkncffaaGreatDoor
open Go.RowKit

theorem ld_bytes {w : World} {p : Addr} {v : Value} (h : w.cell? p = some v) : (loadVar 60 p).run Tryz.prog w = .ok v w := by simp [loadVar, go_sem, h]
theorem Bys.back {w : World} {B : Nat} {ao : Option Addr} {l : List UInt8} (h : Bys w B ao l) (h0 : 0 < l.length) (cp : Nat) : (convert 60 9 (.slice ao l.length cp)).run Tryz.prog w = .ok (.string (str l)) w := by
  obtain ⟨o, e, hc⟩ := h.at_ h0
  subst e
  refine run_convert_bytes_back w 60 9 5 ⟨B, o, none⟩ cp l Tryz.underlying60 Tryz.underlying5 Tryz.underlying9 (fun j hj => ?_)
  rw [add_at]
  exact hc j hj
/-- A record laid in a new variable, which outlives changes of what was there ahead. -/
structure Gt (w1 wc : World) (b : Nat) (r : Rc) (L : Loc) : Prop where
  only : Only (fun _ => False) w1 wc
  rng : wc.rangeAt b 0 (r.cl L)
  at_ : ∀ W', Only (fun k => k < w1.heap.size) wc W' → RcAt W' r L
set_option maxRecDepth 100000 in
set_option maxHeartbeats 6400000 in
theorem get_ok (w : World) (l d : Nat) (G : Lg) (base : Nat) (v7 v8 : Value) (h : LogOw w l d G base v7 v8) (ok : G.Ok) (pre : List UInt8) (rs : List Rc) (hst : G.stream = pre ++ encR rs) (hpre : pre.length = (G.start - 1) % 54) (hpl : G.places = plc G.start rs rs.length) (htl : G.tail = tk G.start rs rs.length) (hC : Chn G.start rs) (hbig : G.tail ≤ 1000000) (i : Nat) (hi : i < rs.length) :
    Calls Tryz.prog 16 #[.pointer (some ⟨l, 0, none⟩), .int .i64 (tk G.start rs i : Int)] w fun e w' => ∃ L, e = .returned (.tuple #[.agg (rs[i].cells L), .int .i64 0]) ∧ RcAt w' rs[i] L ∧ Only (fun _ => False) w w' := by
  have HTH := hide (there_new w Rc.none Loc.none)
  have hoA := onlyA w (.cells (Rc.none.cells Loc.none) 37)
  have HO := hide hoA
  obtain ⟨W0, hW0⟩ : ∃ W0, w.alloc (.cells (Rc.none.cells Loc.none) 37) = W0 := ⟨_, rfl⟩
  have hsz0 : w.heap.size < W0.heap.size := by rw [← hW0]; simp
  rw [hW0] at HTH HO hoA
  have hn0 : rs.length ≤ 1000000 := by
    have : ∀ k, k ≤ rs.length → k + G.start ≤ tk G.start rs k := fun k hk => by
      induction k with
      | zero => simp [tk, encR]
      | succ k ih =>
        have h1 := ih (by omega)
        have h2 := tk_lt G.start rs k (k + 1) (by omega) hk
        omega
    have := this _ (Nat.le_refl _)
    omega
  have hlen : G.places.length = rs.length := by rw [hpl, plc_len]
  have hq := search_any W0 base v8 G.places (tk G.start rs i : Int) (h.more hoA).pl (by rw [hpl]; exact plc_sorted _ _ _) (by omega)
  rw [hpl, plc_has _ _ _ _ hi, plc_count _ _ _ _ (Nat.le_refl _) (by omega)] at hq
  have HQ := hide hq
  have hplo := h.pl
  rcases own_form hplo with ⟨e0, h0⟩ | ⟨g8, cap8, hv8, hb8, hg8, h18, h28⟩
  · omega
  have hc8 : ∀ (j : Nat), j < rs.length → w.cell? ⟨g8, j, none⟩ = some (.int .i64 (tk G.start rs j : Int)) := fun j hj => by
    rw [hv8] at hplo
    exact own_cell hplo j _ (by rw [List.getElem?_map, hpl, plc_at _ _ _ _ hj]; rfl)
  have HLOG := hide h
  obtain ⟨B, ao, cp, hv7, hL, hB⟩ := h.at_
  have HL := hide hL
  have hE := tk_next G.start rs i hi
  have hEl : 0 < rs[i].enc.length := by rw [renc_len]; omega
  have hET := tk_le G.start rs (i + 1) rs.length (by omega)
  have hA1 : G.start ≤ tk G.start rs i := by unfold tk; omega
  obtain ⟨hvd, him, -⟩ := hC.each i hi
  obtain ⟨r, hr⟩ : ∃ r, rs[i] = r := ⟨_, rfl⟩
  have hstr : (G.stream.drop (pre.length + (encR (rs.take i)).length)).take r.enc.length = r.enc := by
    rw [told_drop hst i, List.drop_eq_getElem_cons hi, hr, encR_cons, List.take_left]
  rw [hr] at hE hEl hvd him ⊢
  have hslen : pre.length + (encR (rs.take i)).length + r.enc.length ≤ G.stream.length := by
    have h1 := congrArg List.length (told_drop hst i)
    rw [List.length_drop, List.drop_eq_getElem_cons hi, hr, encR_cons, List.length_append] at h1
    omega
  have hAeq : tk G.start rs i = G.start + (encR (rs.take i)).length := rfl
  obtain ⟨A, hA⟩ : ∃ A, tk G.start rs i = A := ⟨_, rfl⟩
  obtain ⟨E, hEE⟩ : ∃ E, tk G.start rs (i + 1) = E := ⟨_, rfl⟩
  obtain ⟨lo, hlo⟩ : ∃ lo, A - G.start + (G.start - 1) % 54 = lo := ⟨_, rfl⟩
  obtain ⟨hi', hhi⟩ : ∃ hi, E - G.start + (G.start - 1) % 54 = hi := ⟨_, rfl⟩
  have hnext : ∀ (_ : i + 1 < rs.length), w.cell? ⟨g8, i + 1, none⟩ = some (.int .i64 (E : Int)) := fun h1 => by rw [← hEE]; exact hc8 _ h1
  rw [hA] at hE hA1 hAeq HQ ⊢
  rw [hEE] at hE hET
  rw [← htl] at hET
  have hlo2 : pre.length + (encR (rs.take i)).length = lo := by omega
  have hhi2 : hi' = lo + r.enc.length := by omega
  rw [hlo2] at hstr hslen
  have HOF1 := hide (fun W (ho : Only (fun _ => False) w W) => offset_any W l d G B ao cp v8 (hL.more ho) ok A hA1 (by omega))
  have HOF2 := hide (fun W (ho : Only (fun _ => False) w W) => offset_any W l d G B ao cp v8 (hL.more ho) ok E (by omega) (by omega))
  rw [hlo] at HOF1
  rw [hhi] at HOF2
  have hby := hL.by_
  obtain ⟨o7, hao, -⟩ := hby.at_ (by omega)
  subst hao
  have hcle := hL.le
  have hcbig := hL.big
  unfold maxLen at hcbig
  obtain ⟨A2, hA2⟩ : ∃ A2, (if cp = lo then some (⟨B, o7, none⟩ : Addr) else some ⟨B, o7 + lo, none⟩) = A2 := ⟨_, rfl⟩
  have hsub := hby.sub lo hi' cp (by omega) (by omega) hcle
  rw [hA2, show hi' - lo = r.enc.length by omega, hstr] at hsub
  have HCV : Hid (∀ W, Only (fun _ => False) w W → (convert 60 9 (.slice A2 (hi' - lo) (cp - lo))).run Tryz.prog W = .ok (.string (str r.enc)) W) := fun W ho => by
    rw [show hi' - lo = r.enc.length by omega]
    exact (hsub.kept ho (fun _ h => h)).back hEl _
  have HDEC : Hid (∀ W, Only (fun _ => False) w W → Calls Tryz.prog 28 #[.string (str r.enc)] W fun e w' => ∃ L, e = .returned (.tuple #[.agg (r.cells L), .int .i64 (r.enc.length : Int), .int .i64 0]) ∧ (∀ W', Only (fun k => k < W.heap.size) w' W' → RcAt W' r L) ∧ Only (fun _ => False) W w') := fun W _ => by
    refine (rdecode_new W (str r.enc) (by rw [str_size]; unfold maxLen; omega)).mono ?_
    rintro e w' hq
    obtain ⟨q, n, c, L, hd, hat, rfl⟩ := hq.ex
    rw [bl_str] at hd
    obtain ⟨rfl, rfl, rfl⟩ := dec_back hvd him (behind := []) (by rw [List.append_nil]; exact hd)
    exact ⟨L, rfl, hat, hq.only⟩
  obtain ⟨X, hX⟩ : ∃ X, str r.enc = X := ⟨_, rfl⟩
  rw [hX] at HCV HDEC
  obtain ⟨z7, hz7⟩ : ∃ z, (r.enc.length : Int) = z := ⟨_, rfl⟩
  simp only [hz7] at HDEC
  have j1 : (lo : Int) ≤ (hi' : Int) := by omega
  have j2 : (hi' : Int) ≤ (cp : Int) := by omega
  have j3 : (cp : Int) < 9223372036854775808 := by omega
  have j4 : (i : Int) < 1000001 := by omega
  have j5 : (rs.length : Int) ≤ 1000000 := by omega
  have c7 := hL.c7
  have HC7 := hide c7
  have HW0 := hide hW0
  have HSZ0 := hide hsz0
  have HTL : Hid (i + 1 = rs.length → G.tail = E) := fun h1 => by rw [htl, ← hEE, h1]
  have HNX := hide hnext
  subst hv8
  rw [hlen] at HLOG HQ HL
  obtain ⟨n, hn⟩ : ∃ n, rs.length = n := ⟨_, rfl⟩
  rw [hn] at HTL HNX j5 hi HLOG HQ HL
  have HN := hide hn
  clear h ok hst hpre hpl htl hC hbig hoA hW0 hsz0 hn0 hlen hq hplo hb8 hg8 h18 h28 hc8 hL hB hE hEl hET hA1 hvd him hr hstr hslen hAeq hA hEE hlo hhi hnext hlo2 hhi2 hby hcle hcbig hsub hX hz7 hv7 c7
  go_enter Tryz.func16, Tryz.ntmps16
  go_upto_region 1 with fail
  rw [show w.alloc (.cells #[.int .i64 0, .int .i64 0, .int .i64 0, .int .u8 0, .int .i64 0, .int .i64 0, .int .i64 0, .int .i64 0, .int .i64 0, .int .i64 0, .string ⟨#[]⟩, .slice none 0 0, .slice none 0 0, .slice none 0 0, .slice none 0 0, .slice none 0 0] 37) = W0 from HW0.out]
  have c80 := (HLOG.out.more HO.out).c8
  go_upto_region 3 with fail
  go_wp2_with fail
  refine HQ.out.mono ?_
  rintro e w1 ⟨rfl, ho1⟩
  have HO01 := hide ho1
  have HO1 := hide (o2 HO.out ho1)
  have HTH1 : Hid (w1.there w.heap.size 0 16) := there_kept HTH.out ho1 (fun h => h)
  have c8 := (HLOG.out.more HO1.out).c8
  have c4 := (HLOG.out.more HO1.out).c4
  have HC71 := hide (HL.out.more HO1.out).c7
  have HLT1 := hide (HL.out.more HO1.out).lt
  have c7 := HC71.out
  clear ho1 c80
  by_cases hnx : i + 1 < n
  · have cn : w1.cell? ⟨g8, i + 1, none⟩ = some (.int .i64 (E : Int)) := by
      have := HNX.out hnx
      exact (HO1.out.cell (p := ⟨g8, i + 1, none⟩) (World.block_lt_of_cell? w _ this) (fun h => h)).trans this
    have k1 : (i : Int) + 1 < (n : Int) := by omega
    go_upto_region 9 with fail
    clear c8 c4 cn c7 k1
    go_cut [9, 11] (fun t u wc => ∃ b9 L, t = .pointer (some ⟨b9, 0, none⟩) ∧ u = .int .i64 0 ∧ Hid (Gt w1 wc b9 r L))
    case first =>
      refine wp_region_noPanic ?_
      refine wp_region_held_drew (S := fun W => Only (fun _ => False) w1 W) (by kernel_rfl) (Only.drew _ w1) (fun hHeld => ?_)
      refine wpAnyH_take (i := 0) (oi := { dst := some 48, op := Op.move (Operand.tmp 0), type := 27, pos := "wal.go:196", after := #[], guard := none }) (v := .pointer (some ⟨l, 0, none⟩)) rfl (by kernel_rfl) (by kernel_rfl) (by kernel_rfl) (fun _ _ _ h => h) (Or.inl ⟨by rfl, fun w' hSw => by clear hSw; go_simp⟩) (by assumption) ?_
      simp only [Act.put, List.setIfInBounds_toArray, List.set_cons_zero, List.set_cons_succ]
      refine wpAnyH_take (i := 4) (oi := { dst := some 52, op := Op.move (Operand.tmp 0), type := 27, pos := "wal.go:196", after := #[], guard := none }) (v := .pointer (some ⟨l, 0, none⟩)) rfl (by kernel_rfl) (by kernel_rfl) (by kernel_rfl) (fun _ _ _ h => h) (Or.inl ⟨by rfl, fun w' hSw => by clear hSw; go_simp⟩) (by assumption) ?_
      simp only [Act.put, List.setIfInBounds_toArray, List.set_cons_zero, List.set_cons_succ]
      refine wpAnyH_take (i := 5) (oi := { dst := some 53, op := Op.move (Operand.tmp 1), type := 3, pos := "wal.go:196", after := #[], guard := none }) (v := .int .i64 (A : Int)) rfl (by kernel_rfl) (by kernel_rfl) (by kernel_rfl) (fun _ _ _ h => h) (Or.inl ⟨by rfl, fun w' hSw => by clear hSw; go_simp⟩) (by assumption) ?_
      simp only [Act.put, List.setIfInBounds_toArray, List.set_cons_zero, List.set_cons_succ]
      refine wpAnyH_take (i := 7) (oi := { dst := some 55, op := Op.move (Operand.tmp 0), type := 27, pos := "wal.go:196", after := #[], guard := none }) (v := .pointer (some ⟨l, 0, none⟩)) rfl (by kernel_rfl) (by kernel_rfl) (by kernel_rfl) (fun _ _ _ h => h) (Or.inl ⟨by rfl, fun w' hSw => by clear hSw; go_simp⟩) (by assumption) ?_
      simp only [Act.put, List.setIfInBounds_toArray, List.set_cons_zero, List.set_cons_succ]
      refine wpAnyH_take (i := 8) (oi := { dst := some 56, op := Op.move (Operand.tmp 8), type := 3, pos := "wal.go:196", after := #[], guard := none }) (v := .int .i64 (E : Int)) rfl (by kernel_rfl) (by kernel_rfl) (by kernel_rfl) (fun _ _ _ h => h) (Or.inl ⟨by rfl, fun w' hSw => by clear hSw; go_simp⟩) (by assumption) ?_
      simp only [Act.put, List.setIfInBounds_toArray, List.set_cons_zero, List.set_cons_succ]
      refine wpAnyH_take (i := 1) (oi := { dst := some 49, op := Op.nilCheck (Operand.tmp 48), type := 0, pos := "wal.go:196", after := #[{ on := 0, ground := Ground.data }], guard := none }) (v := .pointer (some ⟨l, 0, none⟩)) rfl (by kernel_rfl) (by kernel_rfl) (by kernel_rfl) (fun _ _ _ h => h) (Or.inl ⟨by rfl, fun w' hSw => by clear hSw; go_simp⟩) (by assumption) ?_
      simp only [Act.put, List.setIfInBounds_toArray, List.set_cons_zero, List.set_cons_succ]
      refine wpAnyH_take (i := 2) (oi := { dst := some 50, op := Op.fieldAddr 62 (Operand.tmp 49) 7, type := 0, pos := "wal.go:196", after := #[{ on := 1, ground := Ground.data }], guard := none }) (v := .pointer (some ⟨l, 7, none⟩)) rfl (by kernel_rfl) (by kernel_rfl) (by kernel_rfl) (fun _ _ _ h => h) (Or.inl ⟨by rfl, fun w' hSw => by clear hSw; go_simp⟩) (by assumption) ?_
      simp only [Act.put, List.setIfInBounds_toArray, List.set_cons_zero, List.set_cons_succ]
      refine wpAnyH_take (i := 3) (oi := { dst := some 51, op := Op.load 60 (Operand.tmp 50), type := 60, pos := "wal.go:196", after := #[{ on := 2, ground := Ground.data }], guard := none }) (v := .slice (some ⟨B, o7, none⟩) G.stream.length cp) rfl (by kernel_rfl) (by kernel_rfl) (by kernel_rfl) (fun _ _ _ h => h) (yieldsIf_load_cell (by rfl) 60 _ rfl _ rfl (fun W hW => (hW.cell (p := ⟨l, 7, none⟩) HLT1.out (fun h => h)).trans HC71.out) (fun W hc => ld_bytes hc)) (by assumption) ?_
      simp only [Act.put, List.setIfInBounds_toArray, List.set_cons_zero, List.set_cons_succ]
      refine wpAnyH_ready (rs := [6, 17]) (by kernel_rfl) (by simp) ?_
      refine AllReadyH.cons (o := { dst := some 54, op := Op.call { callee := Callee.value (Operand.func 29), args := #[Operand.tmp 52, Operand.tmp 53], argTypes := #[27, 3] }, type := 3, pos := "wal.go:196", after := #[{ on := 4, ground := Ground.data }, { on := 5, ground := Ground.data }], guard := none }) rfl (fun K hK => ?_) (AllReadyH.cons (o := { dst := some 9, op := Op.alloc 37, type := 0, pos := "wal.go:196", after := #[], guard := none }) rfl (fun K hK => ?_) (AllReadyH.nil))
      · go_simp
        refine (HOF1.out _ (o2 HO1.out hHeld)).mono ?_
        rintro e wA ⟨rfl, hoX⟩
        have HOwA := hide (o2 hHeld hoX)
        clear hoX
        refine hK.out _ _ (HOwA.out) (fun hHeld => ?_)
        clear hK K
        try simp only [Act.put, List.setIfInBounds_toArray, List.set_cons_zero, List.set_cons_succ]
        refine wpAnyH_ready (rs := [9, 17]) (by kernel_rfl) (by simp) ?_
        refine AllReadyH.cons (o := { dst := some 57, op := Op.call { callee := Callee.value (Operand.func 29), args := #[Operand.tmp 55, Operand.tmp 56], argTypes := #[27, 3] }, type := 3, pos := "wal.go:196", after := #[{ on := 7, ground := Ground.data }, { on := 8, ground := Ground.data }, { on := 6, ground := Ground.chain }], guard := none }) rfl (fun K hK => ?_) (AllReadyH.cons (o := { dst := some 9, op := Op.alloc 37, type := 0, pos := "wal.go:196", after := #[], guard := none }) rfl (fun K hK => ?_) (AllReadyH.nil))
        · go_simp
          refine (HOF2.out _ (o2 HO1.out hHeld)).mono ?_
          rintro e wB ⟨rfl, hoX⟩
          have HOwB := hide (o2 hHeld hoX)
          clear hoX
          refine hK.out _ _ (HOwB.out) (fun hHeld => ?_)
          clear hK K
          try simp only [Act.put, List.setIfInBounds_toArray, List.set_cons_zero, List.set_cons_succ]
          refine wpAnyH_take (i := 10) (oi := { dst := some 58, op := Op.slice 60 (Operand.tmp 51) (some (Operand.tmp 54)) (some (Operand.tmp 57)) none, type := 60, pos := "wal.go:196", after := #[{ on := 3, ground := Ground.data }, { on := 6, ground := Ground.data }, { on := 9, ground := Ground.data }], guard := none }) (v := .slice A2 (hi' - lo) (cp - lo)) rfl (by kernel_rfl) (by kernel_rfl) (by kernel_rfl) (fun _ _ _ h => h) (Or.inl ⟨by rfl, fun w' hSw => by clear hSw; go_simp⟩) (by assumption) ?_
          simp only [Act.put, List.setIfInBounds_toArray, List.set_cons_zero, List.set_cons_succ]
          refine wpAnyH_ready (rs := [11, 17]) (by kernel_rfl) (by simp) ?_
          refine AllReadyH.cons (o := { dst := some 59, op := Op.convert 60 9 (Operand.tmp 58), type := 9, pos := "wal.go:196", after := #[{ on := 10, ground := Ground.data }], guard := none }) rfl (fun K hK => ?_) (AllReadyH.cons (o := { dst := some 9, op := Op.alloc 37, type := 0, pos := "wal.go:196", after := #[], guard := none }) rfl (fun K hK => ?_) (AllReadyH.nil))
          · have hcv := HCV.out _ (o2 HO1.out hHeld)
            go_simp
            clear hcv
            refine hK.out _ _ (hHeld) (fun hHeld => ?_)
            clear hK K
            try simp only [Act.put, List.setIfInBounds_toArray, List.set_cons_zero, List.set_cons_succ]
            refine wpAnyH_ready (rs := [12, 17]) (by kernel_rfl) (by simp) ?_
            refine AllReadyH.cons (o := { dst := some 60, op := Op.call { callee := Callee.value (Operand.func 28), args := #[Operand.tmp 59], argTypes := #[9] }, type := 69, pos := "wal.go:196", after := #[{ on := 11, ground := Ground.data }, { on := 9, ground := Ground.chain }], guard := none }) rfl (fun K hK => ?_) (AllReadyH.cons (o := { dst := some 9, op := Op.alloc 37, type := 0, pos := "wal.go:196", after := #[], guard := none }) rfl (fun K hK => ?_) (AllReadyH.nil))
            · go_simp
              refine (HDEC.out _ (o2 HO1.out hHeld)).mono ?_
              rintro e w7 ⟨L7, rfl, hat7, ho7⟩
              have HO7 := hide (o2 hHeld ho7)
              have HL7 : Hid (∀ W', Only (fun k => k < w1.heap.size) w7 W' → RcAt W' r L7) := fun W' ho => hat7 W' (ho.mono (fun i hi e => Nat.lt_of_lt_of_le e hHeld.size))
              clear hat7 ho7
              refine hK.out _ _ (HO7.out) (fun hHeld => ?_)
              clear hK K
              try simp only [Act.put, List.setIfInBounds_toArray, List.set_cons_zero, List.set_cons_succ]
              refine wpAnyH_take (i := 13) (oi := { dst := some 47, op := Op.move (Operand.tmp 60), type := 69, pos := "wal.go:196", after := #[{ on := 12, ground := Ground.data }], guard := none }) (v := .tuple #[.agg (r.cells L7), .int .i64 z7, .int .i64 0]) rfl (by kernel_rfl) (by kernel_rfl) (by kernel_rfl) (fun _ _ _ h => h) (Or.inl ⟨by rfl, fun w' hSw => by clear hSw; go_simp⟩) (by assumption) ?_
              simp only [Act.put, List.setIfInBounds_toArray, List.set_cons_zero, List.set_cons_succ]
              refine wpAnyH_take (i := 14) (oi := { dst := some 61, op := Op.extract (Operand.tmp 47) 0, type := 37, pos := "wal.go:196", after := #[{ on := 13, ground := Ground.data }], guard := none }) (v := .agg (r.cells L7)) rfl (by kernel_rfl) (by kernel_rfl) (by kernel_rfl) (fun _ _ _ h => h) (Or.inl ⟨by rfl, fun w' hSw => by clear hSw; go_simp⟩) (by assumption) ?_
              simp only [Act.put, List.setIfInBounds_toArray, List.set_cons_zero, List.set_cons_succ]
              refine wpAnyH_take (i := 15) (oi := { dst := some 62, op := Op.extract (Operand.tmp 47) 1, type := 3, pos := "wal.go:196", after := #[{ on := 13, ground := Ground.data }, { on := 18, ground := Ground.gcOnly Departure.lateStores }], guard := none }) (v := .int .i64 z7) rfl (by kernel_rfl) (by kernel_rfl) (by kernel_rfl) (fun _ _ _ h => h) (Or.inl ⟨by rfl, fun w' hSw => by clear hSw; go_simp⟩) (by assumption) ?_
              simp only [Act.put, List.setIfInBounds_toArray, List.set_cons_zero, List.set_cons_succ]
              refine wpAnyH_take (i := 16) (oi := { dst := some 63, op := Op.extract (Operand.tmp 47) 2, type := 24, pos := "wal.go:196", after := #[{ on := 13, ground := Ground.data }, { on := 19, ground := Ground.gcOnly Departure.lateStores }], guard := none }) (v := .int .i64 0) rfl (by kernel_rfl) (by kernel_rfl) (by kernel_rfl) (fun _ _ _ h => h) (Or.inl ⟨by rfl, fun w' hSw => by clear hSw; go_simp⟩) (by assumption) ?_
              simp only [Act.put, List.setIfInBounds_toArray, List.set_cons_zero, List.set_cons_succ]
              refine wpAnyH_ready (rs := [17]) (by kernel_rfl) (by simp) ?_
              refine AllReadyH.cons (o := { dst := some 9, op := Op.alloc 37, type := 0, pos := "wal.go:196", after := #[], guard := none }) rfl (fun K hK => ?_) (AllReadyH.nil)
              go_simp
              have HT := hide (there_new w7 Rc.none Loc.none)
              have HLT : Hid (w7.heap.size < (w7.alloc (.cells (Rc.none.cells Loc.none) 37)).heap.size) := by unfold Hid; simp
              have HGE : Hid (w1.heap.size ≤ w7.heap.size) := hHeld.size
              refine hK.out _ _ (o2 hHeld (onlyA _ _)) (fun hHeld => ?_)
              clear hK K
              try simp only [Act.put, List.setIfInBounds_toArray, List.set_cons_zero, List.set_cons_succ]
              refine wpAnyH_ready (rs := [18]) (by kernel_rfl) (by simp) ?_
              refine AllReadyH.cons (o := { dst := none, op := Op.store 37 (Operand.tmp 9) (Operand.tmp 61), type := 0, pos := "wal.go:196", after := #[{ on := 17, ground := Ground.data }, { on := 14, ground := Ground.data }, { on := 12, ground := Ground.chain }, { on := 0, ground := Ground.phase }, { on := 1, ground := Ground.phase }, { on := 2, ground := Ground.phase }, { on := 3, ground := Ground.phase }, { on := 4, ground := Ground.phase }, { on := 5, ground := Ground.phase }, { on := 6, ground := Ground.phase }, { on := 7, ground := Ground.phase }, { on := 8, ground := Ground.phase }, { on := 9, ground := Ground.phase }, { on := 10, ground := Ground.phase }, { on := 11, ground := Ground.phase }, { on := 12, ground := Ground.phase }, { on := 13, ground := Ground.phase }, { on := 14, ground := Ground.phase }, { on := 15, ground := Ground.textOnly Departure.lateStores }, { on := 16, ground := Ground.textOnly Departure.lateStores }, { on := 17, ground := Ground.phase }], guard := none }) rfl (fun K hK => ?_) (AllReadyH.nil)
              rw [if_pos (by rfl)]
              refine wp_store_mid 37 (.tmp 9) (.tmp 61) rfl w7.heap.size 0 (r.cells L7) rfl rfl HT.out Tryz.sizeRec (by simp [Value.oneCell', Rc.cells]) ?_
              simp only [Act.put]
              have HGT : Hid (Gt w1 ((w7.alloc (.cells (Rc.none.cells Loc.none) 37)).setCells w7.heap.size 0 (r.cl L7)) w7.heap.size r L7) := ⟨(o2 HO7.out (onlyA w7 _)).trans (only_setCells w7.heap.size (r.cl L7) 0 _) (fun i hi e => by have := HGE.out; omega), range_set _ _ r L7 HT.out, fun W' ho => HL7.out W' ((((onlyA w7 _).mono (fun _ _ h => h.elim)).trans (only_setCells w7.heap.size (r.cl L7) 0 _) (fun i hi e => absurd e (by omega))).trans ho (fun i hi e => e))⟩
              refine hK.out _ _ (HGT.out.only) (fun hHeld => ?_)
              clear hK K
              try simp only [Act.put, List.setIfInBounds_toArray, List.set_cons_zero, List.set_cons_succ]
              refine wpAnyH_take (i := 19) (oi := { dst := some 10, op := Op.assign (Operand.tmp 62), type := 3, pos := "wal.go:196", after := #[{ on := 15, ground := Ground.data }, { on := 18, ground := Ground.chain }, { on := 0, ground := Ground.phase }, { on := 1, ground := Ground.phase }, { on := 2, ground := Ground.phase }, { on := 3, ground := Ground.phase }, { on := 4, ground := Ground.phase }, { on := 5, ground := Ground.phase }, { on := 6, ground := Ground.phase }, { on := 7, ground := Ground.phase }, { on := 8, ground := Ground.phase }, { on := 9, ground := Ground.phase }, { on := 10, ground := Ground.phase }, { on := 11, ground := Ground.phase }, { on := 12, ground := Ground.phase }, { on := 13, ground := Ground.phase }, { on := 14, ground := Ground.phase }, { on := 15, ground := Ground.phase }, { on := 16, ground := Ground.textOnly Departure.lateStores }, { on := 17, ground := Ground.phase }, { on := 18, ground := Ground.phase }], guard := none }) (v := .int .i64 z7) rfl (by kernel_rfl) (by kernel_rfl) (by kernel_rfl) (fun _ _ _ h => h) (Or.inl ⟨by rfl, fun w' hSw => by clear hSw; go_simp⟩) (by assumption) ?_
              simp only [Act.put, List.setIfInBounds_toArray, List.set_cons_zero, List.set_cons_succ]
              refine wpAnyH_take (i := 20) (oi := { dst := some 11, op := Op.assign (Operand.tmp 63), type := 24, pos := "wal.go:196", after := #[{ on := 16, ground := Ground.data }, { on := 19, ground := Ground.chain }, { on := 0, ground := Ground.phase }, { on := 1, ground := Ground.phase }, { on := 2, ground := Ground.phase }, { on := 3, ground := Ground.phase }, { on := 4, ground := Ground.phase }, { on := 5, ground := Ground.phase }, { on := 6, ground := Ground.phase }, { on := 7, ground := Ground.phase }, { on := 8, ground := Ground.phase }, { on := 9, ground := Ground.phase }, { on := 10, ground := Ground.phase }, { on := 11, ground := Ground.phase }, { on := 12, ground := Ground.phase }, { on := 13, ground := Ground.phase }, { on := 14, ground := Ground.phase }, { on := 15, ground := Ground.phase }, { on := 16, ground := Ground.phase }, { on := 17, ground := Ground.phase }, { on := 18, ground := Ground.phase }, { on := 19, ground := Ground.phase }], guard := none }) (v := .int .i64 0) rfl (by kernel_rfl) (by kernel_rfl) (by kernel_rfl) (fun _ _ _ h => h) (Or.inl ⟨by rfl, fun w' hSw => by clear hSw; go_simp⟩) (by assumption) ?_
              simp only [Act.put, List.setIfInBounds_toArray, List.set_cons_zero, List.set_cons_succ]
              refine wpAnyH_done (by kernel_rfl) ?_ _
              refine NoPanic.normal ?_
              go_wp2_with fail
              go_meet
              exact ⟨_, L7, rfl, rfl, HGT⟩
            · go_simp
              have HT := hide (there_new wB Rc.none Loc.none)
              have HLT : Hid (wB.heap.size < (wB.alloc (.cells (Rc.none.cells Loc.none) 37)).heap.size) := by unfold Hid; simp
              have HGE : Hid (w1.heap.size ≤ wB.heap.size) := hHeld.size
              refine hK.out _ _ (o2 hHeld (onlyA _ _)) (fun hHeld => ?_)
              clear hK K
              try simp only [Act.put, List.setIfInBounds_toArray, List.set_cons_zero, List.set_cons_succ]
              refine wpAnyH_ready (rs := [12]) (by kernel_rfl) (by simp) ?_
              refine AllReadyH.cons (o := { dst := some 60, op := Op.call { callee := Callee.value (Operand.func 28), args := #[Operand.tmp 59], argTypes := #[9] }, type := 69, pos := "wal.go:196", after := #[{ on := 11, ground := Ground.data }, { on := 9, ground := Ground.chain }], guard := none }) rfl (fun K hK => ?_) (AllReadyH.nil)
              go_simp
              refine (HDEC.out _ (o2 HO1.out hHeld)).mono ?_
              rintro e w7 ⟨L7, rfl, hat7, ho7⟩
              have HO7 := hide (o2 hHeld ho7)
              have HL7 : Hid (∀ W', Only (fun k => k < w1.heap.size ∨ k = wB.heap.size) w7 W' → RcAt W' r L7) := fun W' ho => hat7 W' (ho.mono (fun i hi e => e.elim (fun h => Nat.lt_of_lt_of_le h hHeld.size) (fun h => by rw [h]; exact HLT.out)))
              have HT := hide (there_kept HT.out ho7 (fun h => h))
              clear hat7 ho7
              refine hK.out _ _ (HO7.out) (fun hHeld => ?_)
              clear hK K
              try simp only [Act.put, List.setIfInBounds_toArray, List.set_cons_zero, List.set_cons_succ]
              refine wpAnyH_take (i := 13) (oi := { dst := some 47, op := Op.move (Operand.tmp 60), type := 69, pos := "wal.go:196", after := #[{ on := 12, ground := Ground.data }], guard := none }) (v := .tuple #[.agg (r.cells L7), .int .i64 z7, .int .i64 0]) rfl (by kernel_rfl) (by kernel_rfl) (by kernel_rfl) (fun _ _ _ h => h) (Or.inl ⟨by rfl, fun w' hSw => by clear hSw; go_simp⟩) (by assumption) ?_
              simp only [Act.put, List.setIfInBounds_toArray, List.set_cons_zero, List.set_cons_succ]
              refine wpAnyH_take (i := 14) (oi := { dst := some 61, op := Op.extract (Operand.tmp 47) 0, type := 37, pos := "wal.go:196", after := #[{ on := 13, ground := Ground.data }], guard := none }) (v := .agg (r.cells L7)) rfl (by kernel_rfl) (by kernel_rfl) (by kernel_rfl) (fun _ _ _ h => h) (Or.inl ⟨by rfl, fun w' hSw => by clear hSw; go_simp⟩) (by assumption) ?_
              simp only [Act.put, List.setIfInBounds_toArray, List.set_cons_zero, List.set_cons_succ]
              refine wpAnyH_take (i := 15) (oi := { dst := some 62, op := Op.extract (Operand.tmp 47) 1, type := 3, pos := "wal.go:196", after := #[{ on := 13, ground := Ground.data }, { on := 18, ground := Ground.gcOnly Departure.lateStores }], guard := none }) (v := .int .i64 z7) rfl (by kernel_rfl) (by kernel_rfl) (by kernel_rfl) (fun _ _ _ h => h) (Or.inl ⟨by rfl, fun w' hSw => by clear hSw; go_simp⟩) (by assumption) ?_
              simp only [Act.put, List.setIfInBounds_toArray, List.set_cons_zero, List.set_cons_succ]
              refine wpAnyH_take (i := 16) (oi := { dst := some 63, op := Op.extract (Operand.tmp 47) 2, type := 24, pos := "wal.go:196", after := #[{ on := 13, ground := Ground.data }, { on := 19, ground := Ground.gcOnly Departure.lateStores }], guard := none }) (v := .int .i64 0) rfl (by kernel_rfl) (by kernel_rfl) (by kernel_rfl) (fun _ _ _ h => h) (Or.inl ⟨by rfl, fun w' hSw => by clear hSw; go_simp⟩) (by assumption) ?_
              simp only [Act.put, List.setIfInBounds_toArray, List.set_cons_zero, List.set_cons_succ]
              refine wpAnyH_ready (rs := [18]) (by kernel_rfl) (by simp) ?_
              refine AllReadyH.cons (o := { dst := none, op := Op.store 37 (Operand.tmp 9) (Operand.tmp 61), type := 0, pos := "wal.go:196", after := #[{ on := 17, ground := Ground.data }, { on := 14, ground := Ground.data }, { on := 12, ground := Ground.chain }, { on := 0, ground := Ground.phase }, { on := 1, ground := Ground.phase }, { on := 2, ground := Ground.phase }, { on := 3, ground := Ground.phase }, { on := 4, ground := Ground.phase }, { on := 5, ground := Ground.phase }, { on := 6, ground := Ground.phase }, { on := 7, ground := Ground.phase }, { on := 8, ground := Ground.phase }, { on := 9, ground := Ground.phase }, { on := 10, ground := Ground.phase }, { on := 11, ground := Ground.phase }, { on := 12, ground := Ground.phase }, { on := 13, ground := Ground.phase }, { on := 14, ground := Ground.phase }, { on := 15, ground := Ground.textOnly Departure.lateStores }, { on := 16, ground := Ground.textOnly Departure.lateStores }, { on := 17, ground := Ground.phase }], guard := none }) rfl (fun K hK => ?_) (AllReadyH.nil)
              rw [if_pos (by rfl)]
              refine wp_store_mid 37 (.tmp 9) (.tmp 61) rfl wB.heap.size 0 (r.cells L7) rfl rfl HT.out Tryz.sizeRec (by simp [Value.oneCell', Rc.cells]) ?_
              simp only [Act.put]
              have HGT : Hid (Gt w1 (w7.setCells wB.heap.size 0 (r.cl L7)) wB.heap.size r L7) := ⟨HO7.out.trans (only_setCells wB.heap.size (r.cl L7) 0 w7) (fun i hi e => by have := HGE.out; omega), range_set _ _ r L7 HT.out, fun W' ho => HL7.out W' (((only_setCells wB.heap.size (r.cl L7) 0 w7).mono (fun _ _ e => .inr e)).trans ho (fun i hi e => .inl e))⟩
              refine hK.out _ _ (HGT.out.only) (fun hHeld => ?_)
              clear hK K
              try simp only [Act.put, List.setIfInBounds_toArray, List.set_cons_zero, List.set_cons_succ]
              refine wpAnyH_take (i := 19) (oi := { dst := some 10, op := Op.assign (Operand.tmp 62), type := 3, pos := "wal.go:196", after := #[{ on := 15, ground := Ground.data }, { on := 18, ground := Ground.chain }, { on := 0, ground := Ground.phase }, { on := 1, ground := Ground.phase }, { on := 2, ground := Ground.phase }, { on := 3, ground := Ground.phase }, { on := 4, ground := Ground.phase }, { on := 5, ground := Ground.phase }, { on := 6, ground := Ground.phase }, { on := 7, ground := Ground.phase }, { on := 8, ground := Ground.phase }, { on := 9, ground := Ground.phase }, { on := 10, ground := Ground.phase }, { on := 11, ground := Ground.phase }, { on := 12, ground := Ground.phase }, { on := 13, ground := Ground.phase }, { on := 14, ground := Ground.phase }, { on := 15, ground := Ground.phase }, { on := 16, ground := Ground.textOnly Departure.lateStores }, { on := 17, ground := Ground.phase }, { on := 18, ground := Ground.phase }], guard := none }) (v := .int .i64 z7) rfl (by kernel_rfl) (by kernel_rfl) (by kernel_rfl) (fun _ _ _ h => h) (Or.inl ⟨by rfl, fun w' hSw => by clear hSw; go_simp⟩) (by assumption) ?_
              simp only [Act.put, List.setIfInBounds_toArray, List.set_cons_zero, List.set_cons_succ]
              refine wpAnyH_take (i := 20) (oi := { dst := some 11, op := Op.assign (Operand.tmp 63), type := 24, pos := "wal.go:196", after := #[{ on := 16, ground := Ground.data }, { on := 19, ground := Ground.chain }, { on := 0, ground := Ground.phase }, { on := 1, ground := Ground.phase }, { on := 2, ground := Ground.phase }, { on := 3, ground := Ground.phase }, { on := 4, ground := Ground.phase }, { on := 5, ground := Ground.phase }, { on := 6, ground := Ground.phase }, { on := 7, ground := Ground.phase }, { on := 8, ground := Ground.phase }, { on := 9, ground := Ground.phase }, { on := 10, ground := Ground.phase }, { on := 11, ground := Ground.phase }, { on := 12, ground := Ground.phase }, { on := 13, ground := Ground.phase }, { on := 14, ground := Ground.phase }, { on := 15, ground := Ground.phase }, { on := 16, ground := Ground.phase }, { on := 17, ground := Ground.phase }, { on := 18, ground := Ground.phase }, { on := 19, ground := Ground.phase }], guard := none }) (v := .int .i64 0) rfl (by kernel_rfl) (by kernel_rfl) (by kernel_rfl) (fun _ _ _ h => h) (Or.inl ⟨by rfl, fun w' hSw => by clear hSw; go_simp⟩) (by assumption) ?_
              simp only [Act.put, List.setIfInBounds_toArray, List.set_cons_zero, List.set_cons_succ]
              refine wpAnyH_done (by kernel_rfl) ?_ _
              refine NoPanic.normal ?_
              go_wp2_with fail
              go_meet
              exact ⟨_, L7, rfl, rfl, HGT⟩
          · go_simp
            have HT := hide (there_new wB Rc.none Loc.none)
            have HLT : Hid (wB.heap.size < (wB.alloc (.cells (Rc.none.cells Loc.none) 37)).heap.size) := by unfold Hid; simp
            have HGE : Hid (w1.heap.size ≤ wB.heap.size) := hHeld.size
            refine hK.out _ _ (o2 hHeld (onlyA _ _)) (fun hHeld => ?_)
            clear hK K
            try simp only [Act.put, List.setIfInBounds_toArray, List.set_cons_zero, List.set_cons_succ]
            refine wpAnyH_ready (rs := [11]) (by kernel_rfl) (by simp) ?_
            refine AllReadyH.cons (o := { dst := some 59, op := Op.convert 60 9 (Operand.tmp 58), type := 9, pos := "wal.go:196", after := #[{ on := 10, ground := Ground.data }], guard := none }) rfl (fun K hK => ?_) (AllReadyH.nil)
            have hcv := HCV.out _ (o2 HO1.out hHeld)
            go_simp
            clear hcv
            refine hK.out _ _ (hHeld) (fun hHeld => ?_)
            clear hK K
            try simp only [Act.put, List.setIfInBounds_toArray, List.set_cons_zero, List.set_cons_succ]
            refine wpAnyH_ready (rs := [12]) (by kernel_rfl) (by simp) ?_
            refine AllReadyH.cons (o := { dst := some 60, op := Op.call { callee := Callee.value (Operand.func 28), args := #[Operand.tmp 59], argTypes := #[9] }, type := 69, pos := "wal.go:196", after := #[{ on := 11, ground := Ground.data }, { on := 9, ground := Ground.chain }], guard := none }) rfl (fun K hK => ?_) (AllReadyH.nil)
            go_simp
            refine (HDEC.out _ (o2 HO1.out hHeld)).mono ?_
            rintro e w7 ⟨L7, rfl, hat7, ho7⟩
            have HO7 := hide (o2 hHeld ho7)
            have HL7 : Hid (∀ W', Only (fun k => k < w1.heap.size ∨ k = wB.heap.size) w7 W' → RcAt W' r L7) := fun W' ho => hat7 W' (ho.mono (fun i hi e => e.elim (fun h => Nat.lt_of_lt_of_le h hHeld.size) (fun h => by rw [h]; exact HLT.out)))
            have HT := hide (there_kept HT.out ho7 (fun h => h))
            clear hat7 ho7
            refine hK.out _ _ (HO7.out) (fun hHeld => ?_)
            clear hK K
            try simp only [Act.put, List.setIfInBounds_toArray, List.set_cons_zero, List.set_cons_succ]
            refine wpAnyH_take (i := 13) (oi := { dst := some 47, op := Op.move (Operand.tmp 60), type := 69, pos := "wal.go:196", after := #[{ on := 12, ground := Ground.data }], guard := none }) (v := .tuple #[.agg (r.cells L7), .int .i64 z7, .int .i64 0]) rfl (by kernel_rfl) (by kernel_rfl) (by kernel_rfl) (fun _ _ _ h => h) (Or.inl ⟨by rfl, fun w' hSw => by clear hSw; go_simp⟩) (by assumption) ?_
            simp only [Act.put, List.setIfInBounds_toArray, List.set_cons_zero, List.set_cons_succ]
            refine wpAnyH_take (i := 14) (oi := { dst := some 61, op := Op.extract (Operand.tmp 47) 0, type := 37, pos := "wal.go:196", after := #[{ on := 13, ground := Ground.data }], guard := none }) (v := .agg (r.cells L7)) rfl (by kernel_rfl) (by kernel_rfl) (by kernel_rfl) (fun _ _ _ h => h) (Or.inl ⟨by rfl, fun w' hSw => by clear hSw; go_simp⟩) (by assumption) ?_
            simp only [Act.put, List.setIfInBounds_toArray, List.set_cons_zero, List.set_cons_succ]
            refine wpAnyH_take (i := 15) (oi := { dst := some 62, op := Op.extract (Operand.tmp 47) 1, type := 3, pos := "wal.go:196", after := #[{ on := 13, ground := Ground.data }, { on := 18, ground := Ground.gcOnly Departure.lateStores }], guard := none }) (v := .int .i64 z7) rfl (by kernel_rfl) (by kernel_rfl) (by kernel_rfl) (fun _ _ _ h => h) (Or.inl ⟨by rfl, fun w' hSw => by clear hSw; go_simp⟩) (by assumption) ?_
            simp only [Act.put, List.setIfInBounds_toArray, List.set_cons_zero, List.set_cons_succ]
            refine wpAnyH_take (i := 16) (oi := { dst := some 63, op := Op.extract (Operand.tmp 47) 2, type := 24, pos := "wal.go:196", after := #[{ on := 13, ground := Ground.data }, { on := 19, ground := Ground.gcOnly Departure.lateStores }], guard := none }) (v := .int .i64 0) rfl (by kernel_rfl) (by kernel_rfl) (by kernel_rfl) (fun _ _ _ h => h) (Or.inl ⟨by rfl, fun w' hSw => by clear hSw; go_simp⟩) (by assumption) ?_
            simp only [Act.put, List.setIfInBounds_toArray, List.set_cons_zero, List.set_cons_succ]
            refine wpAnyH_ready (rs := [18]) (by kernel_rfl) (by simp) ?_
            refine AllReadyH.cons (o := { dst := none, op := Op.store 37 (Operand.tmp 9) (Operand.tmp 61), type := 0, pos := "wal.go:196", after := #[{ on := 17, ground := Ground.data }, { on := 14, ground := Ground.data }, { on := 12, ground := Ground.chain }, { on := 0, ground := Ground.phase }, { on := 1, ground := Ground.phase }, { on := 2, ground := Ground.phase }, { on := 3, ground := Ground.phase }, { on := 4, ground := Ground.phase }, { on := 5, ground := Ground.phase }, { on := 6, ground := Ground.phase }, { on := 7, ground := Ground.phase }, { on := 8, ground := Ground.phase }, { on := 9, ground := Ground.phase }, { on := 10, ground := Ground.phase }, { on := 11, ground := Ground.phase }, { on := 12, ground := Ground.phase }, { on := 13, ground := Ground.phase }, { on := 14, ground := Ground.phase }, { on := 15, ground := Ground.textOnly Departure.lateStores }, { on := 16, ground := Ground.textOnly Departure.lateStores }, { on := 17, ground := Ground.phase }], guard := none }) rfl (fun K hK => ?_) (AllReadyH.nil)
            rw [if_pos (by rfl)]
            refine wp_store_mid 37 (.tmp 9) (.tmp 61) rfl wB.heap.size 0 (r.cells L7) rfl rfl HT.out Tryz.sizeRec (by simp [Value.oneCell', Rc.cells]) ?_
            simp only [Act.put]
            have HGT : Hid (Gt w1 (w7.setCells wB.heap.size 0 (r.cl L7)) wB.heap.size r L7) := ⟨HO7.out.trans (only_setCells wB.heap.size (r.cl L7) 0 w7) (fun i hi e => by have := HGE.out; omega), range_set _ _ r L7 HT.out, fun W' ho => HL7.out W' (((only_setCells wB.heap.size (r.cl L7) 0 w7).mono (fun _ _ e => .inr e)).trans ho (fun i hi e => .inl e))⟩
            refine hK.out _ _ (HGT.out.only) (fun hHeld => ?_)
            clear hK K
            try simp only [Act.put, List.setIfInBounds_toArray, List.set_cons_zero, List.set_cons_succ]
            refine wpAnyH_take (i := 19) (oi := { dst := some 10, op := Op.assign (Operand.tmp 62), type := 3, pos := "wal.go:196", after := #[{ on := 15, ground := Ground.data }, { on := 18, ground := Ground.chain }, { on := 0, ground := Ground.phase }, { on := 1, ground := Ground.phase }, { on := 2, ground := Ground.phase }, { on := 3, ground := Ground.phase }, { on := 4, ground := Ground.phase }, { on := 5, ground := Ground.phase }, { on := 6, ground := Ground.phase }, { on := 7, ground := Ground.phase }, { on := 8, ground := Ground.phase }, { on := 9, ground := Ground.phase }, { on := 10, ground := Ground.phase }, { on := 11, ground := Ground.phase }, { on := 12, ground := Ground.phase }, { on := 13, ground := Ground.phase }, { on := 14, ground := Ground.phase }, { on := 15, ground := Ground.phase }, { on := 16, ground := Ground.textOnly Departure.lateStores }, { on := 17, ground := Ground.phase }, { on := 18, ground := Ground.phase }], guard := none }) (v := .int .i64 z7) rfl (by kernel_rfl) (by kernel_rfl) (by kernel_rfl) (fun _ _ _ h => h) (Or.inl ⟨by rfl, fun w' hSw => by clear hSw; go_simp⟩) (by assumption) ?_
            simp only [Act.put, List.setIfInBounds_toArray, List.set_cons_zero, List.set_cons_succ]
            refine wpAnyH_take (i := 20) (oi := { dst := some 11, op := Op.assign (Operand.tmp 63), type := 24, pos := "wal.go:196", after := #[{ on := 16, ground := Ground.data }, { on := 19, ground := Ground.chain }, { on := 0, ground := Ground.phase }, { on := 1, ground := Ground.phase }, { on := 2, ground := Ground.phase }, { on := 3, ground := Ground.phase }, { on := 4, ground := Ground.phase }, { on := 5, ground := Ground.phase }, { on := 6, ground := Ground.phase }, { on := 7, ground := Ground.phase }, { on := 8, ground := Ground.phase }, { on := 9, ground := Ground.phase }, { on := 10, ground := Ground.phase }, { on := 11, ground := Ground.phase }, { on := 12, ground := Ground.phase }, { on := 13, ground := Ground.phase }, { on := 14, ground := Ground.phase }, { on := 15, ground := Ground.phase }, { on := 16, ground := Ground.phase }, { on := 17, ground := Ground.phase }, { on := 18, ground := Ground.phase }, { on := 19, ground := Ground.phase }], guard := none }) (v := .int .i64 0) rfl (by kernel_rfl) (by kernel_rfl) (by kernel_rfl) (fun _ _ _ h => h) (Or.inl ⟨by rfl, fun w' hSw => by clear hSw; go_simp⟩) (by assumption) ?_
            simp only [Act.put, List.setIfInBounds_toArray, List.set_cons_zero, List.set_cons_succ]
            refine wpAnyH_done (by kernel_rfl) ?_ _
            refine NoPanic.normal ?_
            go_wp2_with fail
            go_meet
            exact ⟨_, L7, rfl, rfl, HGT⟩
        · go_simp
          have HT := hide (there_new wA Rc.none Loc.none)
          have HLT : Hid (wA.heap.size < (wA.alloc (.cells (Rc.none.cells Loc.none) 37)).heap.size) := by unfold Hid; simp
          have HGE : Hid (w1.heap.size ≤ wA.heap.size) := hHeld.size
          refine hK.out _ _ (o2 hHeld (onlyA _ _)) (fun hHeld => ?_)
          clear hK K
          try simp only [Act.put, List.setIfInBounds_toArray, List.set_cons_zero, List.set_cons_succ]
          refine wpAnyH_ready (rs := [9]) (by kernel_rfl) (by simp) ?_
          refine AllReadyH.cons (o := { dst := some 57, op := Op.call { callee := Callee.value (Operand.func 29), args := #[Operand.tmp 55, Operand.tmp 56], argTypes := #[27, 3] }, type := 3, pos := "wal.go:196", after := #[{ on := 7, ground := Ground.data }, { on := 8, ground := Ground.data }, { on := 6, ground := Ground.chain }], guard := none }) rfl (fun K hK => ?_) (AllReadyH.nil)
          go_simp
          refine (HOF2.out _ (o2 HO1.out hHeld)).mono ?_
          rintro e wB ⟨rfl, hoX⟩
          have HOwB := hide (o2 hHeld hoX)
          have HT := hide (there_kept HT.out hoX (fun h => h))
          have HLT := hide (Nat.lt_of_lt_of_le HLT.out hoX.size)
          clear hoX
          refine hK.out _ _ (HOwB.out) (fun hHeld => ?_)
          clear hK K
          try simp only [Act.put, List.setIfInBounds_toArray, List.set_cons_zero, List.set_cons_succ]
          refine wpAnyH_take (i := 10) (oi := { dst := some 58, op := Op.slice 60 (Operand.tmp 51) (some (Operand.tmp 54)) (some (Operand.tmp 57)) none, type := 60, pos := "wal.go:196", after := #[{ on := 3, ground := Ground.data }, { on := 6, ground := Ground.data }, { on := 9, ground := Ground.data }], guard := none }) (v := .slice A2 (hi' - lo) (cp - lo)) rfl (by kernel_rfl) (by kernel_rfl) (by kernel_rfl) (fun _ _ _ h => h) (Or.inl ⟨by rfl, fun w' hSw => by clear hSw; go_simp⟩) (by assumption) ?_
          simp only [Act.put, List.setIfInBounds_toArray, List.set_cons_zero, List.set_cons_succ]
          refine wpAnyH_ready (rs := [11]) (by kernel_rfl) (by simp) ?_
          refine AllReadyH.cons (o := { dst := some 59, op := Op.convert 60 9 (Operand.tmp 58), type := 9, pos := "wal.go:196", after := #[{ on := 10, ground := Ground.data }], guard := none }) rfl (fun K hK => ?_) (AllReadyH.nil)
          have hcv := HCV.out _ (o2 HO1.out hHeld)
          go_simp
          clear hcv
          refine hK.out _ _ (hHeld) (fun hHeld => ?_)
          clear hK K
          try simp only [Act.put, List.setIfInBounds_toArray, List.set_cons_zero, List.set_cons_succ]
          refine wpAnyH_ready (rs := [12]) (by kernel_rfl) (by simp) ?_
          refine AllReadyH.cons (o := { dst := some 60, op := Op.call { callee := Callee.value (Operand.func 28), args := #[Operand.tmp 59], argTypes := #[9] }, type := 69, pos := "wal.go:196", after := #[{ on := 11, ground := Ground.data }, { on := 9, ground := Ground.chain }], guard := none }) rfl (fun K hK => ?_) (AllReadyH.nil)
          go_simp
          refine (HDEC.out _ (o2 HO1.out hHeld)).mono ?_
          rintro e w7 ⟨L7, rfl, hat7, ho7⟩
          have HO7 := hide (o2 hHeld ho7)
          have HL7 : Hid (∀ W', Only (fun k => k < w1.heap.size ∨ k = wA.heap.size) w7 W' → RcAt W' r L7) := fun W' ho => hat7 W' (ho.mono (fun i hi e => e.elim (fun h => Nat.lt_of_lt_of_le h hHeld.size) (fun h => by rw [h]; exact HLT.out)))
          have HT := hide (there_kept HT.out ho7 (fun h => h))
          clear hat7 ho7
          refine hK.out _ _ (HO7.out) (fun hHeld => ?_)
          clear hK K
          try simp only [Act.put, List.setIfInBounds_toArray, List.set_cons_zero, List.set_cons_succ]
          refine wpAnyH_take (i := 13) (oi := { dst := some 47, op := Op.move (Operand.tmp 60), type := 69, pos := "wal.go:196", after := #[{ on := 12, ground := Ground.data }], guard := none }) (v := .tuple #[.agg (r.cells L7), .int .i64 z7, .int .i64 0]) rfl (by kernel_rfl) (by kernel_rfl) (by kernel_rfl) (fun _ _ _ h => h) (Or.inl ⟨by rfl, fun w' hSw => by clear hSw; go_simp⟩) (by assumption) ?_
          simp only [Act.put, List.setIfInBounds_toArray, List.set_cons_zero, List.set_cons_succ]
          refine wpAnyH_take (i := 14) (oi := { dst := some 61, op := Op.extract (Operand.tmp 47) 0, type := 37, pos := "wal.go:196", after := #[{ on := 13, ground := Ground.data }], guard := none }) (v := .agg (r.cells L7)) rfl (by kernel_rfl) (by kernel_rfl) (by kernel_rfl) (fun _ _ _ h => h) (Or.inl ⟨by rfl, fun w' hSw => by clear hSw; go_simp⟩) (by assumption) ?_
          simp only [Act.put, List.setIfInBounds_toArray, List.set_cons_zero, List.set_cons_succ]
          refine wpAnyH_take (i := 15) (oi := { dst := some 62, op := Op.extract (Operand.tmp 47) 1, type := 3, pos := "wal.go:196", after := #[{ on := 13, ground := Ground.data }, { on := 18, ground := Ground.gcOnly Departure.lateStores }], guard := none }) (v := .int .i64 z7) rfl (by kernel_rfl) (by kernel_rfl) (by kernel_rfl) (fun _ _ _ h => h) (Or.inl ⟨by rfl, fun w' hSw => by clear hSw; go_simp⟩) (by assumption) ?_
          simp only [Act.put, List.setIfInBounds_toArray, List.set_cons_zero, List.set_cons_succ]
          refine wpAnyH_take (i := 16) (oi := { dst := some 63, op := Op.extract (Operand.tmp 47) 2, type := 24, pos := "wal.go:196", after := #[{ on := 13, ground := Ground.data }, { on := 19, ground := Ground.gcOnly Departure.lateStores }], guard := none }) (v := .int .i64 0) rfl (by kernel_rfl) (by kernel_rfl) (by kernel_rfl) (fun _ _ _ h => h) (Or.inl ⟨by rfl, fun w' hSw => by clear hSw; go_simp⟩) (by assumption) ?_
          simp only [Act.put, List.setIfInBounds_toArray, List.set_cons_zero, List.set_cons_succ]
          refine wpAnyH_ready (rs := [18]) (by kernel_rfl) (by simp) ?_
          refine AllReadyH.cons (o := { dst := none, op := Op.store 37 (Operand.tmp 9) (Operand.tmp 61), type := 0, pos := "wal.go:196", after := #[{ on := 17, ground := Ground.data }, { on := 14, ground := Ground.data }, { on := 12, ground := Ground.chain }, { on := 0, ground := Ground.phase }, { on := 1, ground := Ground.phase }, { on := 2, ground := Ground.phase }, { on := 3, ground := Ground.phase }, { on := 4, ground := Ground.phase }, { on := 5, ground := Ground.phase }, { on := 6, ground := Ground.phase }, { on := 7, ground := Ground.phase }, { on := 8, ground := Ground.phase }, { on := 9, ground := Ground.phase }, { on := 10, ground := Ground.phase }, { on := 11, ground := Ground.phase }, { on := 12, ground := Ground.phase }, { on := 13, ground := Ground.phase }, { on := 14, ground := Ground.phase }, { on := 15, ground := Ground.textOnly Departure.lateStores }, { on := 16, ground := Ground.textOnly Departure.lateStores }, { on := 17, ground := Ground.phase }], guard := none }) rfl (fun K hK => ?_) (AllReadyH.nil)
          rw [if_pos (by rfl)]
          refine wp_store_mid 37 (.tmp 9) (.tmp 61) rfl wA.heap.size 0 (r.cells L7) rfl rfl HT.out Tryz.sizeRec (by simp [Value.oneCell', Rc.cells]) ?_
          simp only [Act.put]
          have HGT : Hid (Gt w1 (w7.setCells wA.heap.size 0 (r.cl L7)) wA.heap.size r L7) := ⟨HO7.out.trans (only_setCells wA.heap.size (r.cl L7) 0 w7) (fun i hi e => by have := HGE.out; omega), range_set _ _ r L7 HT.out, fun W' ho => HL7.out W' (((only_setCells wA.heap.size (r.cl L7) 0 w7).mono (fun _ _ e => .inr e)).trans ho (fun i hi e => .inl e))⟩
          refine hK.out _ _ (HGT.out.only) (fun hHeld => ?_)
          clear hK K
          try simp only [Act.put, List.setIfInBounds_toArray, List.set_cons_zero, List.set_cons_succ]
          refine wpAnyH_take (i := 19) (oi := { dst := some 10, op := Op.assign (Operand.tmp 62), type := 3, pos := "wal.go:196", after := #[{ on := 15, ground := Ground.data }, { on := 18, ground := Ground.chain }, { on := 0, ground := Ground.phase }, { on := 1, ground := Ground.phase }, { on := 2, ground := Ground.phase }, { on := 3, ground := Ground.phase }, { on := 4, ground := Ground.phase }, { on := 5, ground := Ground.phase }, { on := 6, ground := Ground.phase }, { on := 7, ground := Ground.phase }, { on := 8, ground := Ground.phase }, { on := 9, ground := Ground.phase }, { on := 10, ground := Ground.phase }, { on := 11, ground := Ground.phase }, { on := 12, ground := Ground.phase }, { on := 13, ground := Ground.phase }, { on := 14, ground := Ground.phase }, { on := 15, ground := Ground.phase }, { on := 16, ground := Ground.textOnly Departure.lateStores }, { on := 17, ground := Ground.phase }, { on := 18, ground := Ground.phase }], guard := none }) (v := .int .i64 z7) rfl (by kernel_rfl) (by kernel_rfl) (by kernel_rfl) (fun _ _ _ h => h) (Or.inl ⟨by rfl, fun w' hSw => by clear hSw; go_simp⟩) (by assumption) ?_
          simp only [Act.put, List.setIfInBounds_toArray, List.set_cons_zero, List.set_cons_succ]
          refine wpAnyH_take (i := 20) (oi := { dst := some 11, op := Op.assign (Operand.tmp 63), type := 24, pos := "wal.go:196", after := #[{ on := 16, ground := Ground.data }, { on := 19, ground := Ground.chain }, { on := 0, ground := Ground.phase }, { on := 1, ground := Ground.phase }, { on := 2, ground := Ground.phase }, { on := 3, ground := Ground.phase }, { on := 4, ground := Ground.phase }, { on := 5, ground := Ground.phase }, { on := 6, ground := Ground.phase }, { on := 7, ground := Ground.phase }, { on := 8, ground := Ground.phase }, { on := 9, ground := Ground.phase }, { on := 10, ground := Ground.phase }, { on := 11, ground := Ground.phase }, { on := 12, ground := Ground.phase }, { on := 13, ground := Ground.phase }, { on := 14, ground := Ground.phase }, { on := 15, ground := Ground.phase }, { on := 16, ground := Ground.phase }, { on := 17, ground := Ground.phase }, { on := 18, ground := Ground.phase }, { on := 19, ground := Ground.phase }], guard := none }) (v := .int .i64 0) rfl (by kernel_rfl) (by kernel_rfl) (by kernel_rfl) (fun _ _ _ h => h) (Or.inl ⟨by rfl, fun w' hSw => by clear hSw; go_simp⟩) (by assumption) ?_
          simp only [Act.put, List.setIfInBounds_toArray, List.set_cons_zero, List.set_cons_succ]
          refine wpAnyH_done (by kernel_rfl) ?_ _
          refine NoPanic.normal ?_
          go_wp2_with fail
          go_meet
          exact ⟨_, L7, rfl, rfl, HGT⟩
      · go_simp
        have HT : Hid (((w1.alloc (.cells (Rc.none.cells Loc.none) 37)).drew).there w1.heap.size 0 16) := there_new w1 Rc.none Loc.none
        have HLT : Hid (w1.heap.size < ((w1.alloc (.cells (Rc.none.cells Loc.none) 37)).drew).heap.size) := by unfold Hid; simp
        have HGE : Hid (w1.heap.size ≤ w1.heap.size) := Nat.le_refl _
        refine hK.out _ _ (o2 (onlyA _ _) (Only.drew _ _)) (fun hHeld => ?_)
        clear hK K
        try simp only [Act.put, List.setIfInBounds_toArray, List.set_cons_zero, List.set_cons_succ]
        refine wpAnyH_ready (rs := [6]) (by kernel_rfl) (by simp) ?_
        refine AllReadyH.cons (o := { dst := some 54, op := Op.call { callee := Callee.value (Operand.func 29), args := #[Operand.tmp 52, Operand.tmp 53], argTypes := #[27, 3] }, type := 3, pos := "wal.go:196", after := #[{ on := 4, ground := Ground.data }, { on := 5, ground := Ground.data }], guard := none }) rfl (fun K hK => ?_) (AllReadyH.nil)
        go_simp
        refine (HOF1.out _ (o2 HO1.out hHeld)).mono ?_
        rintro e wA ⟨rfl, hoX⟩
        have HOwA := hide (o2 hHeld hoX)
        have HT := hide (there_kept HT.out hoX (fun h => h))
        have HLT := hide (Nat.lt_of_lt_of_le HLT.out hoX.size)
        clear hoX
        refine hK.out _ _ (HOwA.out) (fun hHeld => ?_)
        clear hK K
        try simp only [Act.put, List.setIfInBounds_toArray, List.set_cons_zero, List.set_cons_succ]
        refine wpAnyH_ready (rs := [9]) (by kernel_rfl) (by simp) ?_
        refine AllReadyH.cons (o := { dst := some 57, op := Op.call { callee := Callee.value (Operand.func 29), args := #[Operand.tmp 55, Operand.tmp 56], argTypes := #[27, 3] }, type := 3, pos := "wal.go:196", after := #[{ on := 7, ground := Ground.data }, { on := 8, ground := Ground.data }, { on := 6, ground := Ground.chain }], guard := none }) rfl (fun K hK => ?_) (AllReadyH.nil)
        go_simp
        refine (HOF2.out _ (o2 HO1.out hHeld)).mono ?_
        rintro e wB ⟨rfl, hoX⟩
        have HOwB := hide (o2 hHeld hoX)
        have HT := hide (there_kept HT.out hoX (fun h => h))
        have HLT := hide (Nat.lt_of_lt_of_le HLT.out hoX.size)
        clear hoX
        refine hK.out _ _ (HOwB.out) (fun hHeld => ?_)
        clear hK K
        try simp only [Act.put, List.setIfInBounds_toArray, List.set_cons_zero, List.set_cons_succ]
        refine wpAnyH_take (i := 10) (oi := { dst := some 58, op := Op.slice 60 (Operand.tmp 51) (some (Operand.tmp 54)) (some (Operand.tmp 57)) none, type := 60, pos := "wal.go:196", after := #[{ on := 3, ground := Ground.data }, { on := 6, ground := Ground.data }, { on := 9, ground := Ground.data }], guard := none }) (v := .slice A2 (hi' - lo) (cp - lo)) rfl (by kernel_rfl) (by kernel_rfl) (by kernel_rfl) (fun _ _ _ h => h) (Or.inl ⟨by rfl, fun w' hSw => by clear hSw; go_simp⟩) (by assumption) ?_
        simp only [Act.put, List.setIfInBounds_toArray, List.set_cons_zero, List.set_cons_succ]
        refine wpAnyH_ready (rs := [11]) (by kernel_rfl) (by simp) ?_
        refine AllReadyH.cons (o := { dst := some 59, op := Op.convert 60 9 (Operand.tmp 58), type := 9, pos := "wal.go:196", after := #[{ on := 10, ground := Ground.data }], guard := none }) rfl (fun K hK => ?_) (AllReadyH.nil)
        have hcv := HCV.out _ (o2 HO1.out hHeld)
        go_simp
        clear hcv
        refine hK.out _ _ (hHeld) (fun hHeld => ?_)
        clear hK K
        try simp only [Act.put, List.setIfInBounds_toArray, List.set_cons_zero, List.set_cons_succ]
        refine wpAnyH_ready (rs := [12]) (by kernel_rfl) (by simp) ?_
        refine AllReadyH.cons (o := { dst := some 60, op := Op.call { callee := Callee.value (Operand.func 28), args := #[Operand.tmp 59], argTypes := #[9] }, type := 69, pos := "wal.go:196", after := #[{ on := 11, ground := Ground.data }, { on := 9, ground := Ground.chain }], guard := none }) rfl (fun K hK => ?_) (AllReadyH.nil)
        go_simp
        refine (HDEC.out _ (o2 HO1.out hHeld)).mono ?_
        rintro e w7 ⟨L7, rfl, hat7, ho7⟩
        have HO7 := hide (o2 hHeld ho7)
        have HL7 : Hid (∀ W', Only (fun k => k < w1.heap.size ∨ k = w1.heap.size) w7 W' → RcAt W' r L7) := fun W' ho => hat7 W' (ho.mono (fun i hi e => e.elim (fun h => Nat.lt_of_lt_of_le h hHeld.size) (fun h => by rw [h]; exact HLT.out)))
        have HT := hide (there_kept HT.out ho7 (fun h => h))
        clear hat7 ho7
        refine hK.out _ _ (HO7.out) (fun hHeld => ?_)
        clear hK K
        try simp only [Act.put, List.setIfInBounds_toArray, List.set_cons_zero, List.set_cons_succ]
        refine wpAnyH_take (i := 13) (oi := { dst := some 47, op := Op.move (Operand.tmp 60), type := 69, pos := "wal.go:196", after := #[{ on := 12, ground := Ground.data }], guard := none }) (v := .tuple #[.agg (r.cells L7), .int .i64 z7, .int .i64 0]) rfl (by kernel_rfl) (by kernel_rfl) (by kernel_rfl) (fun _ _ _ h => h) (Or.inl ⟨by rfl, fun w' hSw => by clear hSw; go_simp⟩) (by assumption) ?_
        simp only [Act.put, List.setIfInBounds_toArray, List.set_cons_zero, List.set_cons_succ]
        refine wpAnyH_take (i := 14) (oi := { dst := some 61, op := Op.extract (Operand.tmp 47) 0, type := 37, pos := "wal.go:196", after := #[{ on := 13, ground := Ground.data }], guard := none }) (v := .agg (r.cells L7)) rfl (by kernel_rfl) (by kernel_rfl) (by kernel_rfl) (fun _ _ _ h => h) (Or.inl ⟨by rfl, fun w' hSw => by clear hSw; go_simp⟩) (by assumption) ?_
        simp only [Act.put, List.setIfInBounds_toArray, List.set_cons_zero, List.set_cons_succ]
        refine wpAnyH_take (i := 15) (oi := { dst := some 62, op := Op.extract (Operand.tmp 47) 1, type := 3, pos := "wal.go:196", after := #[{ on := 13, ground := Ground.data }, { on := 18, ground := Ground.gcOnly Departure.lateStores }], guard := none }) (v := .int .i64 z7) rfl (by kernel_rfl) (by kernel_rfl) (by kernel_rfl) (fun _ _ _ h => h) (Or.inl ⟨by rfl, fun w' hSw => by clear hSw; go_simp⟩) (by assumption) ?_
        simp only [Act.put, List.setIfInBounds_toArray, List.set_cons_zero, List.set_cons_succ]
        refine wpAnyH_take (i := 16) (oi := { dst := some 63, op := Op.extract (Operand.tmp 47) 2, type := 24, pos := "wal.go:196", after := #[{ on := 13, ground := Ground.data }, { on := 19, ground := Ground.gcOnly Departure.lateStores }], guard := none }) (v := .int .i64 0) rfl (by kernel_rfl) (by kernel_rfl) (by kernel_rfl) (fun _ _ _ h => h) (Or.inl ⟨by rfl, fun w' hSw => by clear hSw; go_simp⟩) (by assumption) ?_
        simp only [Act.put, List.setIfInBounds_toArray, List.set_cons_zero, List.set_cons_succ]
        refine wpAnyH_ready (rs := [18]) (by kernel_rfl) (by simp) ?_
        refine AllReadyH.cons (o := { dst := none, op := Op.store 37 (Operand.tmp 9) (Operand.tmp 61), type := 0, pos := "wal.go:196", after := #[{ on := 17, ground := Ground.data }, { on := 14, ground := Ground.data }, { on := 12, ground := Ground.chain }, { on := 0, ground := Ground.phase }, { on := 1, ground := Ground.phase }, { on := 2, ground := Ground.phase }, { on := 3, ground := Ground.phase }, { on := 4, ground := Ground.phase }, { on := 5, ground := Ground.phase }, { on := 6, ground := Ground.phase }, { on := 7, ground := Ground.phase }, { on := 8, ground := Ground.phase }, { on := 9, ground := Ground.phase }, { on := 10, ground := Ground.phase }, { on := 11, ground := Ground.phase }, { on := 12, ground := Ground.phase }, { on := 13, ground := Ground.phase }, { on := 14, ground := Ground.phase }, { on := 15, ground := Ground.textOnly Departure.lateStores }, { on := 16, ground := Ground.textOnly Departure.lateStores }, { on := 17, ground := Ground.phase }], guard := none }) rfl (fun K hK => ?_) (AllReadyH.nil)
        rw [if_pos (by rfl)]
        refine wp_store_mid 37 (.tmp 9) (.tmp 61) rfl w1.heap.size 0 (r.cells L7) rfl rfl HT.out Tryz.sizeRec (by simp [Value.oneCell', Rc.cells]) ?_
        simp only [Act.put]
        have HGT : Hid (Gt w1 (w7.setCells w1.heap.size 0 (r.cl L7)) w1.heap.size r L7) := ⟨HO7.out.trans (only_setCells w1.heap.size (r.cl L7) 0 w7) (fun i hi e => by have := HGE.out; omega), range_set _ _ r L7 HT.out, fun W' ho => HL7.out W' (((only_setCells w1.heap.size (r.cl L7) 0 w7).mono (fun _ _ e => .inr e)).trans ho (fun i hi e => .inl e))⟩
        refine hK.out _ _ (HGT.out.only) (fun hHeld => ?_)
        clear hK K
        try simp only [Act.put, List.setIfInBounds_toArray, List.set_cons_zero, List.set_cons_succ]
        refine wpAnyH_take (i := 19) (oi := { dst := some 10, op := Op.assign (Operand.tmp 62), type := 3, pos := "wal.go:196", after := #[{ on := 15, ground := Ground.data }, { on := 18, ground := Ground.chain }, { on := 0, ground := Ground.phase }, { on := 1, ground := Ground.phase }, { on := 2, ground := Ground.phase }, { on := 3, ground := Ground.phase }, { on := 4, ground := Ground.phase }, { on := 5, ground := Ground.phase }, { on := 6, ground := Ground.phase }, { on := 7, ground := Ground.phase }, { on := 8, ground := Ground.phase }, { on := 9, ground := Ground.phase }, { on := 10, ground := Ground.phase }, { on := 11, ground := Ground.phase }, { on := 12, ground := Ground.phase }, { on := 13, ground := Ground.phase }, { on := 14, ground := Ground.phase }, { on := 15, ground := Ground.phase }, { on := 16, ground := Ground.textOnly Departure.lateStores }, { on := 17, ground := Ground.phase }, { on := 18, ground := Ground.phase }], guard := none }) (v := .int .i64 z7) rfl (by kernel_rfl) (by kernel_rfl) (by kernel_rfl) (fun _ _ _ h => h) (Or.inl ⟨by rfl, fun w' hSw => by clear hSw; go_simp⟩) (by assumption) ?_
        simp only [Act.put, List.setIfInBounds_toArray, List.set_cons_zero, List.set_cons_succ]
        refine wpAnyH_take (i := 20) (oi := { dst := some 11, op := Op.assign (Operand.tmp 63), type := 24, pos := "wal.go:196", after := #[{ on := 16, ground := Ground.data }, { on := 19, ground := Ground.chain }, { on := 0, ground := Ground.phase }, { on := 1, ground := Ground.phase }, { on := 2, ground := Ground.phase }, { on := 3, ground := Ground.phase }, { on := 4, ground := Ground.phase }, { on := 5, ground := Ground.phase }, { on := 6, ground := Ground.phase }, { on := 7, ground := Ground.phase }, { on := 8, ground := Ground.phase }, { on := 9, ground := Ground.phase }, { on := 10, ground := Ground.phase }, { on := 11, ground := Ground.phase }, { on := 12, ground := Ground.phase }, { on := 13, ground := Ground.phase }, { on := 14, ground := Ground.phase }, { on := 15, ground := Ground.phase }, { on := 16, ground := Ground.phase }, { on := 17, ground := Ground.phase }, { on := 18, ground := Ground.phase }, { on := 19, ground := Ground.phase }], guard := none }) (v := .int .i64 0) rfl (by kernel_rfl) (by kernel_rfl) (by kernel_rfl) (fun _ _ _ h => h) (Or.inl ⟨by rfl, fun w' hSw => by clear hSw; go_simp⟩) (by assumption) ?_
        simp only [Act.put, List.setIfInBounds_toArray, List.set_cons_zero, List.set_cons_succ]
        refine wpAnyH_done (by kernel_rfl) ?_ _
        refine NoPanic.normal ?_
        go_wp2_with fail
        go_meet
        exact ⟨_, L7, rfl, rfl, HGT⟩
    case rest =>
      obtain ⟨b9, L9, rfl, rfl, HG⟩ := hcut
      have HT9 := hide (there_kept HTH1.out HG.out.only (fun h => h))
      go_wp2_with (first
        | (refine wpList_load_rec rfl (.tmp 9) rfl b9 rfl r L9 HG.out.rng ?_; go_frame)
        | (refine wpList_put_rec rfl (.tmp 4) (.tmp 64) rfl w.heap.size rfl r L9 rfl HT9.out ?_; intro W9 HW9; go_frame))
      refine bodyPost_ret (results_rec2 rfl rfl HW9.out.load) rfl ?_
      have hs0 := HSZ0.out
      have hs1 := HO01.out.size
      exact ⟨L9, rfl, HG.out.at_ _ (HW9.out.only.mono (fun i hi e => by omega)), (o2 HO1.out HG.out.only).trans HW9.out.only (fun i hi e => by omega)⟩
  · have e4 := HTL.out (by omega)
    rw [e4] at c4
    have hn1 : n = i + 1 := by omega
    subst hn1
    have k1 : ¬ (i : Int) + 1 < ((i + 1 : Nat) : Int) := by omega
    clear e4 hnx hi j5 HTL HNX HN HQ
    go_upto_region 9 with fail
    clear c8 c4 c7 k1
    go_cut [9, 11] (fun t u wc => ∃ b9 L, t = .pointer (some ⟨b9, 0, none⟩) ∧ u = .int .i64 0 ∧ Hid (Gt w1 wc b9 r L))
    case first =>
      refine wp_region_noPanic ?_
      refine wp_region_held_drew (S := fun W => Only (fun _ => False) w1 W) (by kernel_rfl) (Only.drew _ w1) (fun hHeld => ?_)
      refine wpAnyH_take (i := 0) (oi := { dst := some 48, op := Op.move (Operand.tmp 0), type := 27, pos := "wal.go:196", after := #[], guard := none }) (v := .pointer (some ⟨l, 0, none⟩)) rfl (by kernel_rfl) (by kernel_rfl) (by kernel_rfl) (fun _ _ _ h => h) (Or.inl ⟨by rfl, fun w' hSw => by clear hSw; go_simp⟩) (by assumption) ?_
      simp only [Act.put, List.setIfInBounds_toArray, List.set_cons_zero, List.set_cons_succ]
      refine wpAnyH_take (i := 4) (oi := { dst := some 52, op := Op.move (Operand.tmp 0), type := 27, pos := "wal.go:196", after := #[], guard := none }) (v := .pointer (some ⟨l, 0, none⟩)) rfl (by kernel_rfl) (by kernel_rfl) (by kernel_rfl) (fun _ _ _ h => h) (Or.inl ⟨by rfl, fun w' hSw => by clear hSw; go_simp⟩) (by assumption) ?_
      simp only [Act.put, List.setIfInBounds_toArray, List.set_cons_zero, List.set_cons_succ]
      refine wpAnyH_take (i := 5) (oi := { dst := some 53, op := Op.move (Operand.tmp 1), type := 3, pos := "wal.go:196", after := #[], guard := none }) (v := .int .i64 (A : Int)) rfl (by kernel_rfl) (by kernel_rfl) (by kernel_rfl) (fun _ _ _ h => h) (Or.inl ⟨by rfl, fun w' hSw => by clear hSw; go_simp⟩) (by assumption) ?_
      simp only [Act.put, List.setIfInBounds_toArray, List.set_cons_zero, List.set_cons_succ]
      refine wpAnyH_take (i := 7) (oi := { dst := some 55, op := Op.move (Operand.tmp 0), type := 27, pos := "wal.go:196", after := #[], guard := none }) (v := .pointer (some ⟨l, 0, none⟩)) rfl (by kernel_rfl) (by kernel_rfl) (by kernel_rfl) (fun _ _ _ h => h) (Or.inl ⟨by rfl, fun w' hSw => by clear hSw; go_simp⟩) (by assumption) ?_
      simp only [Act.put, List.setIfInBounds_toArray, List.set_cons_zero, List.set_cons_succ]
      refine wpAnyH_take (i := 8) (oi := { dst := some 56, op := Op.move (Operand.tmp 8), type := 3, pos := "wal.go:196", after := #[], guard := none }) (v := .int .i64 (E : Int)) rfl (by kernel_rfl) (by kernel_rfl) (by kernel_rfl) (fun _ _ _ h => h) (Or.inl ⟨by rfl, fun w' hSw => by clear hSw; go_simp⟩) (by assumption) ?_
      simp only [Act.put, List.setIfInBounds_toArray, List.set_cons_zero, List.set_cons_succ]
      refine wpAnyH_take (i := 1) (oi := { dst := some 49, op := Op.nilCheck (Operand.tmp 48), type := 0, pos := "wal.go:196", after := #[{ on := 0, ground := Ground.data }], guard := none }) (v := .pointer (some ⟨l, 0, none⟩)) rfl (by kernel_rfl) (by kernel_rfl) (by kernel_rfl) (fun _ _ _ h => h) (Or.inl ⟨by rfl, fun w' hSw => by clear hSw; go_simp⟩) (by assumption) ?_
      simp only [Act.put, List.setIfInBounds_toArray, List.set_cons_zero, List.set_cons_succ]
      refine wpAnyH_take (i := 2) (oi := { dst := some 50, op := Op.fieldAddr 62 (Operand.tmp 49) 7, type := 0, pos := "wal.go:196", after := #[{ on := 1, ground := Ground.data }], guard := none }) (v := .pointer (some ⟨l, 7, none⟩)) rfl (by kernel_rfl) (by kernel_rfl) (by kernel_rfl) (fun _ _ _ h => h) (Or.inl ⟨by rfl, fun w' hSw => by clear hSw; go_simp⟩) (by assumption) ?_
      simp only [Act.put, List.setIfInBounds_toArray, List.set_cons_zero, List.set_cons_succ]
      refine wpAnyH_take (i := 3) (oi := { dst := some 51, op := Op.load 60 (Operand.tmp 50), type := 60, pos := "wal.go:196", after := #[{ on := 2, ground := Ground.data }], guard := none }) (v := .slice (some ⟨B, o7, none⟩) G.stream.length cp) rfl (by kernel_rfl) (by kernel_rfl) (by kernel_rfl) (fun _ _ _ h => h) (yieldsIf_load_cell (by rfl) 60 _ rfl _ rfl (fun W hW => (hW.cell (p := ⟨l, 7, none⟩) HLT1.out (fun h => h)).trans HC71.out) (fun W hc => ld_bytes hc)) (by assumption) ?_
      simp only [Act.put, List.setIfInBounds_toArray, List.set_cons_zero, List.set_cons_succ]
      refine wpAnyH_ready (rs := [6, 17]) (by kernel_rfl) (by simp) ?_
      refine AllReadyH.cons (o := { dst := some 54, op := Op.call { callee := Callee.value (Operand.func 29), args := #[Operand.tmp 52, Operand.tmp 53], argTypes := #[27, 3] }, type := 3, pos := "wal.go:196", after := #[{ on := 4, ground := Ground.data }, { on := 5, ground := Ground.data }], guard := none }) rfl (fun K hK => ?_) (AllReadyH.cons (o := { dst := some 9, op := Op.alloc 37, type := 0, pos := "wal.go:196", after := #[], guard := none }) rfl (fun K hK => ?_) (AllReadyH.nil))
      · go_simp
        refine (HOF1.out _ (o2 HO1.out hHeld)).mono ?_
        rintro e wA ⟨rfl, hoX⟩
        have HOwA := hide (o2 hHeld hoX)
        clear hoX
        refine hK.out _ _ (HOwA.out) (fun hHeld => ?_)
        clear hK K
        try simp only [Act.put, List.setIfInBounds_toArray, List.set_cons_zero, List.set_cons_succ]
        refine wpAnyH_ready (rs := [9, 17]) (by kernel_rfl) (by simp) ?_
        refine AllReadyH.cons (o := { dst := some 57, op := Op.call { callee := Callee.value (Operand.func 29), args := #[Operand.tmp 55, Operand.tmp 56], argTypes := #[27, 3] }, type := 3, pos := "wal.go:196", after := #[{ on := 7, ground := Ground.data }, { on := 8, ground := Ground.data }, { on := 6, ground := Ground.chain }], guard := none }) rfl (fun K hK => ?_) (AllReadyH.cons (o := { dst := some 9, op := Op.alloc 37, type := 0, pos := "wal.go:196", after := #[], guard := none }) rfl (fun K hK => ?_) (AllReadyH.nil))
        · go_simp
          refine (HOF2.out _ (o2 HO1.out hHeld)).mono ?_
          rintro e wB ⟨rfl, hoX⟩
          have HOwB := hide (o2 hHeld hoX)
          clear hoX
          refine hK.out _ _ (HOwB.out) (fun hHeld => ?_)
          clear hK K
          try simp only [Act.put, List.setIfInBounds_toArray, List.set_cons_zero, List.set_cons_succ]
          refine wpAnyH_take (i := 10) (oi := { dst := some 58, op := Op.slice 60 (Operand.tmp 51) (some (Operand.tmp 54)) (some (Operand.tmp 57)) none, type := 60, pos := "wal.go:196", after := #[{ on := 3, ground := Ground.data }, { on := 6, ground := Ground.data }, { on := 9, ground := Ground.data }], guard := none }) (v := .slice A2 (hi' - lo) (cp - lo)) rfl (by kernel_rfl) (by kernel_rfl) (by kernel_rfl) (fun _ _ _ h => h) (Or.inl ⟨by rfl, fun w' hSw => by clear hSw; go_simp⟩) (by assumption) ?_
          simp only [Act.put, List.setIfInBounds_toArray, List.set_cons_zero, List.set_cons_succ]
          refine wpAnyH_ready (rs := [11, 17]) (by kernel_rfl) (by simp) ?_
          refine AllReadyH.cons (o := { dst := some 59, op := Op.convert 60 9 (Operand.tmp 58), type := 9, pos := "wal.go:196", after := #[{ on := 10, ground := Ground.data }], guard := none }) rfl (fun K hK => ?_) (AllReadyH.cons (o := { dst := some 9, op := Op.alloc 37, type := 0, pos := "wal.go:196", after := #[], guard := none }) rfl (fun K hK => ?_) (AllReadyH.nil))
          · have hcv := HCV.out _ (o2 HO1.out hHeld)
            go_simp
            clear hcv
            refine hK.out _ _ (hHeld) (fun hHeld => ?_)
            clear hK K
            try simp only [Act.put, List.setIfInBounds_toArray, List.set_cons_zero, List.set_cons_succ]
            refine wpAnyH_ready (rs := [12, 17]) (by kernel_rfl) (by simp) ?_
            refine AllReadyH.cons (o := { dst := some 60, op := Op.call { callee := Callee.value (Operand.func 28), args := #[Operand.tmp 59], argTypes := #[9] }, type := 69, pos := "wal.go:196", after := #[{ on := 11, ground := Ground.data }, { on := 9, ground := Ground.chain }], guard := none }) rfl (fun K hK => ?_) (AllReadyH.cons (o := { dst := some 9, op := Op.alloc 37, type := 0, pos := "wal.go:196", after := #[], guard := none }) rfl (fun K hK => ?_) (AllReadyH.nil))
            · go_simp
              refine (HDEC.out _ (o2 HO1.out hHeld)).mono ?_
              rintro e w7 ⟨L7, rfl, hat7, ho7⟩
              have HO7 := hide (o2 hHeld ho7)
              have HL7 : Hid (∀ W', Only (fun k => k < w1.heap.size) w7 W' → RcAt W' r L7) := fun W' ho => hat7 W' (ho.mono (fun i hi e => Nat.lt_of_lt_of_le e hHeld.size))
              clear hat7 ho7
              refine hK.out _ _ (HO7.out) (fun hHeld => ?_)
              clear hK K
              try simp only [Act.put, List.setIfInBounds_toArray, List.set_cons_zero, List.set_cons_succ]
              refine wpAnyH_take (i := 13) (oi := { dst := some 47, op := Op.move (Operand.tmp 60), type := 69, pos := "wal.go:196", after := #[{ on := 12, ground := Ground.data }], guard := none }) (v := .tuple #[.agg (r.cells L7), .int .i64 z7, .int .i64 0]) rfl (by kernel_rfl) (by kernel_rfl) (by kernel_rfl) (fun _ _ _ h => h) (Or.inl ⟨by rfl, fun w' hSw => by clear hSw; go_simp⟩) (by assumption) ?_
              simp only [Act.put, List.setIfInBounds_toArray, List.set_cons_zero, List.set_cons_succ]
              refine wpAnyH_take (i := 14) (oi := { dst := some 61, op := Op.extract (Operand.tmp 47) 0, type := 37, pos := "wal.go:196", after := #[{ on := 13, ground := Ground.data }], guard := none }) (v := .agg (r.cells L7)) rfl (by kernel_rfl) (by kernel_rfl) (by kernel_rfl) (fun _ _ _ h => h) (Or.inl ⟨by rfl, fun w' hSw => by clear hSw; go_simp⟩) (by assumption) ?_
              simp only [Act.put, List.setIfInBounds_toArray, List.set_cons_zero, List.set_cons_succ]
              refine wpAnyH_take (i := 15) (oi := { dst := some 62, op := Op.extract (Operand.tmp 47) 1, type := 3, pos := "wal.go:196", after := #[{ on := 13, ground := Ground.data }, { on := 18, ground := Ground.gcOnly Departure.lateStores }], guard := none }) (v := .int .i64 z7) rfl (by kernel_rfl) (by kernel_rfl) (by kernel_rfl) (fun _ _ _ h => h) (Or.inl ⟨by rfl, fun w' hSw => by clear hSw; go_simp⟩) (by assumption) ?_
              simp only [Act.put, List.setIfInBounds_toArray, List.set_cons_zero, List.set_cons_succ]
              refine wpAnyH_take (i := 16) (oi := { dst := some 63, op := Op.extract (Operand.tmp 47) 2, type := 24, pos := "wal.go:196", after := #[{ on := 13, ground := Ground.data }, { on := 19, ground := Ground.gcOnly Departure.lateStores }], guard := none }) (v := .int .i64 0) rfl (by kernel_rfl) (by kernel_rfl) (by kernel_rfl) (fun _ _ _ h => h) (Or.inl ⟨by rfl, fun w' hSw => by clear hSw; go_simp⟩) (by assumption) ?_
              simp only [Act.put, List.setIfInBounds_toArray, List.set_cons_zero, List.set_cons_succ]
              refine wpAnyH_ready (rs := [17]) (by kernel_rfl) (by simp) ?_
              refine AllReadyH.cons (o := { dst := some 9, op := Op.alloc 37, type := 0, pos := "wal.go:196", after := #[], guard := none }) rfl (fun K hK => ?_) (AllReadyH.nil)
              go_simp
              have HT := hide (there_new w7 Rc.none Loc.none)
              have HLT : Hid (w7.heap.size < (w7.alloc (.cells (Rc.none.cells Loc.none) 37)).heap.size) := by unfold Hid; simp
              have HGE : Hid (w1.heap.size ≤ w7.heap.size) := hHeld.size
              refine hK.out _ _ (o2 hHeld (onlyA _ _)) (fun hHeld => ?_)
              clear hK K
              try simp only [Act.put, List.setIfInBounds_toArray, List.set_cons_zero, List.set_cons_succ]
              refine wpAnyH_ready (rs := [18]) (by kernel_rfl) (by simp) ?_
              refine AllReadyH.cons (o := { dst := none, op := Op.store 37 (Operand.tmp 9) (Operand.tmp 61), type := 0, pos := "wal.go:196", after := #[{ on := 17, ground := Ground.data }, { on := 14, ground := Ground.data }, { on := 12, ground := Ground.chain }, { on := 0, ground := Ground.phase }, { on := 1, ground := Ground.phase }, { on := 2, ground := Ground.phase }, { on := 3, ground := Ground.phase }, { on := 4, ground := Ground.phase }, { on := 5, ground := Ground.phase }, { on := 6, ground := Ground.phase }, { on := 7, ground := Ground.phase }, { on := 8, ground := Ground.phase }, { on := 9, ground := Ground.phase }, { on := 10, ground := Ground.phase }, { on := 11, ground := Ground.phase }, { on := 12, ground := Ground.phase }, { on := 13, ground := Ground.phase }, { on := 14, ground := Ground.phase }, { on := 15, ground := Ground.textOnly Departure.lateStores }, { on := 16, ground := Ground.textOnly Departure.lateStores }, { on := 17, ground := Ground.phase }], guard := none }) rfl (fun K hK => ?_) (AllReadyH.nil)
              rw [if_pos (by rfl)]
              refine wp_store_mid 37 (.tmp 9) (.tmp 61) rfl w7.heap.size 0 (r.cells L7) rfl rfl HT.out Tryz.sizeRec (by simp [Value.oneCell', Rc.cells]) ?_
              simp only [Act.put]
              have HGT : Hid (Gt w1 ((w7.alloc (.cells (Rc.none.cells Loc.none) 37)).setCells w7.heap.size 0 (r.cl L7)) w7.heap.size r L7) := ⟨(o2 HO7.out (onlyA w7 _)).trans (only_setCells w7.heap.size (r.cl L7) 0 _) (fun i hi e => by have := HGE.out; omega), range_set _ _ r L7 HT.out, fun W' ho => HL7.out W' ((((onlyA w7 _).mono (fun _ _ h => h.elim)).trans (only_setCells w7.heap.size (r.cl L7) 0 _) (fun i hi e => absurd e (by omega))).trans ho (fun i hi e => e))⟩
              refine hK.out _ _ (HGT.out.only) (fun hHeld => ?_)
              clear hK K
              try simp only [Act.put, List.setIfInBounds_toArray, List.set_cons_zero, List.set_cons_succ]
              refine wpAnyH_take (i := 19) (oi := { dst := some 10, op := Op.assign (Operand.tmp 62), type := 3, pos := "wal.go:196", after := #[{ on := 15, ground := Ground.data }, { on := 18, ground := Ground.chain }, { on := 0, ground := Ground.phase }, { on := 1, ground := Ground.phase }, { on := 2, ground := Ground.phase }, { on := 3, ground := Ground.phase }, { on := 4, ground := Ground.phase }, { on := 5, ground := Ground.phase }, { on := 6, ground := Ground.phase }, { on := 7, ground := Ground.phase }, { on := 8, ground := Ground.phase }, { on := 9, ground := Ground.phase }, { on := 10, ground := Ground.phase }, { on := 11, ground := Ground.phase }, { on := 12, ground := Ground.phase }, { on := 13, ground := Ground.phase }, { on := 14, ground := Ground.phase }, { on := 15, ground := Ground.phase }, { on := 16, ground := Ground.textOnly Departure.lateStores }, { on := 17, ground := Ground.phase }, { on := 18, ground := Ground.phase }], guard := none }) (v := .int .i64 z7) rfl (by kernel_rfl) (by kernel_rfl) (by kernel_rfl) (fun _ _ _ h => h) (Or.inl ⟨by rfl, fun w' hSw => by clear hSw; go_simp⟩) (by assumption) ?_
              simp only [Act.put, List.setIfInBounds_toArray, List.set_cons_zero, List.set_cons_succ]
              refine wpAnyH_take (i := 20) (oi := { dst := some 11, op := Op.assign (Operand.tmp 63), type := 24, pos := "wal.go:196", after := #[{ on := 16, ground := Ground.data }, { on := 19, ground := Ground.chain }, { on := 0, ground := Ground.phase }, { on := 1, ground := Ground.phase }, { on := 2, ground := Ground.phase }, { on := 3, ground := Ground.phase }, { on := 4, ground := Ground.phase }, { on := 5, ground := Ground.phase }, { on := 6, ground := Ground.phase }, { on := 7, ground := Ground.phase }, { on := 8, ground := Ground.phase }, { on := 9, ground := Ground.phase }, { on := 10, ground := Ground.phase }, { on := 11, ground := Ground.phase }, { on := 12, ground := Ground.phase }, { on := 13, ground := Ground.phase }, { on := 14, ground := Ground.phase }, { on := 15, ground := Ground.phase }, { on := 16, ground := Ground.phase }, { on := 17, ground := Ground.phase }, { on := 18, ground := Ground.phase }, { on := 19, ground := Ground.phase }], guard := none }) (v := .int .i64 0) rfl (by kernel_rfl) (by kernel_rfl) (by kernel_rfl) (fun _ _ _ h => h) (Or.inl ⟨by rfl, fun w' hSw => by clear hSw; go_simp⟩) (by assumption) ?_
              simp only [Act.put, List.setIfInBounds_toArray, List.set_cons_zero, List.set_cons_succ]
              refine wpAnyH_done (by kernel_rfl) ?_ _
              refine NoPanic.normal ?_
              go_wp2_with fail
              go_meet
              exact ⟨_, L7, rfl, rfl, HGT⟩
            · go_simp
              have HT := hide (there_new wB Rc.none Loc.none)
              have HLT : Hid (wB.heap.size < (wB.alloc (.cells (Rc.none.cells Loc.none) 37)).heap.size) := by unfold Hid; simp
              have HGE : Hid (w1.heap.size ≤ wB.heap.size) := hHeld.size
              refine hK.out _ _ (o2 hHeld (onlyA _ _)) (fun hHeld => ?_)
              clear hK K
              try simp only [Act.put, List.setIfInBounds_toArray, List.set_cons_zero, List.set_cons_succ]
              refine wpAnyH_ready (rs := [12]) (by kernel_rfl) (by simp) ?_
              refine AllReadyH.cons (o := { dst := some 60, op := Op.call { callee := Callee.value (Operand.func 28), args := #[Operand.tmp 59], argTypes := #[9] }, type := 69, pos := "wal.go:196", after := #[{ on := 11, ground := Ground.data }, { on := 9, ground := Ground.chain }], guard := none }) rfl (fun K hK => ?_) (AllReadyH.nil)
              go_simp
              refine (HDEC.out _ (o2 HO1.out hHeld)).mono ?_
              rintro e w7 ⟨L7, rfl, hat7, ho7⟩
              have HO7 := hide (o2 hHeld ho7)
              have HL7 : Hid (∀ W', Only (fun k => k < w1.heap.size ∨ k = wB.heap.size) w7 W' → RcAt W' r L7) := fun W' ho => hat7 W' (ho.mono (fun i hi e => e.elim (fun h => Nat.lt_of_lt_of_le h hHeld.size) (fun h => by rw [h]; exact HLT.out)))
              have HT := hide (there_kept HT.out ho7 (fun h => h))
              clear hat7 ho7
              refine hK.out _ _ (HO7.out) (fun hHeld => ?_)
              clear hK K
              try simp only [Act.put, List.setIfInBounds_toArray, List.set_cons_zero, List.set_cons_succ]
              refine wpAnyH_take (i := 13) (oi := { dst := some 47, op := Op.move (Operand.tmp 60), type := 69, pos := "wal.go:196", after := #[{ on := 12, ground := Ground.data }], guard := none }) (v := .tuple #[.agg (r.cells L7), .int .i64 z7, .int .i64 0]) rfl (by kernel_rfl) (by kernel_rfl) (by kernel_rfl) (fun _ _ _ h => h) (Or.inl ⟨by rfl, fun w' hSw => by clear hSw; go_simp⟩) (by assumption) ?_
              simp only [Act.put, List.setIfInBounds_toArray, List.set_cons_zero, List.set_cons_succ]
              refine wpAnyH_take (i := 14) (oi := { dst := some 61, op := Op.extract (Operand.tmp 47) 0, type := 37, pos := "wal.go:196", after := #[{ on := 13, ground := Ground.data }], guard := none }) (v := .agg (r.cells L7)) rfl (by kernel_rfl) (by kernel_rfl) (by kernel_rfl) (fun _ _ _ h => h) (Or.inl ⟨by rfl, fun w' hSw => by clear hSw; go_simp⟩) (by assumption) ?_
              simp only [Act.put, List.setIfInBounds_toArray, List.set_cons_zero, List.set_cons_succ]
              refine wpAnyH_take (i := 15) (oi := { dst := some 62, op := Op.extract (Operand.tmp 47) 1, type := 3, pos := "wal.go:196", after := #[{ on := 13, ground := Ground.data }, { on := 18, ground := Ground.gcOnly Departure.lateStores }], guard := none }) (v := .int .i64 z7) rfl (by kernel_rfl) (by kernel_rfl) (by kernel_rfl) (fun _ _ _ h => h) (Or.inl ⟨by rfl, fun w' hSw => by clear hSw; go_simp⟩) (by assumption) ?_
              simp only [Act.put, List.setIfInBounds_toArray, List.set_cons_zero, List.set_cons_succ]
              refine wpAnyH_take (i := 16) (oi := { dst := some 63, op := Op.extract (Operand.tmp 47) 2, type := 24, pos := "wal.go:196", after := #[{ on := 13, ground := Ground.data }, { on := 19, ground := Ground.gcOnly Departure.lateStores }], guard := none }) (v := .int .i64 0) rfl (by kernel_rfl) (by kernel_rfl) (by kernel_rfl) (fun _ _ _ h => h) (Or.inl ⟨by rfl, fun w' hSw => by clear hSw; go_simp⟩) (by assumption) ?_
              simp only [Act.put, List.setIfInBounds_toArray, List.set_cons_zero, List.set_cons_succ]
              refine wpAnyH_ready (rs := [18]) (by kernel_rfl) (by simp) ?_
              refine AllReadyH.cons (o := { dst := none, op := Op.store 37 (Operand.tmp 9) (Operand.tmp 61), type := 0, pos := "wal.go:196", after := #[{ on := 17, ground := Ground.data }, { on := 14, ground := Ground.data }, { on := 12, ground := Ground.chain }, { on := 0, ground := Ground.phase }, { on := 1, ground := Ground.phase }, { on := 2, ground := Ground.phase }, { on := 3, ground := Ground.phase }, { on := 4, ground := Ground.phase }, { on := 5, ground := Ground.phase }, { on := 6, ground := Ground.phase }, { on := 7, ground := Ground.phase }, { on := 8, ground := Ground.phase }, { on := 9, ground := Ground.phase }, { on := 10, ground := Ground.phase }, { on := 11, ground := Ground.phase }, { on := 12, ground := Ground.phase }, { on := 13, ground := Ground.phase }, { on := 14, ground := Ground.phase }, { on := 15, ground := Ground.textOnly Departure.lateStores }, { on := 16, ground := Ground.textOnly Departure.lateStores }, { on := 17, ground := Ground.phase }], guard := none }) rfl (fun K hK => ?_) (AllReadyH.nil)
              rw [if_pos (by rfl)]
              refine wp_store_mid 37 (.tmp 9) (.tmp 61) rfl wB.heap.size 0 (r.cells L7) rfl rfl HT.out Tryz.sizeRec (by simp [Value.oneCell', Rc.cells]) ?_
              simp only [Act.put]
              have HGT : Hid (Gt w1 (w7.setCells wB.heap.size 0 (r.cl L7)) wB.heap.size r L7) := ⟨HO7.out.trans (only_setCells wB.heap.size (r.cl L7) 0 w7) (fun i hi e => by have := HGE.out; omega), range_set _ _ r L7 HT.out, fun W' ho => HL7.out W' (((only_setCells wB.heap.size (r.cl L7) 0 w7).mono (fun _ _ e => .inr e)).trans ho (fun i hi e => .inl e))⟩
              refine hK.out _ _ (HGT.out.only) (fun hHeld => ?_)
              clear hK K
              try simp only [Act.put, List.setIfInBounds_toArray, List.set_cons_zero, List.set_cons_succ]
              refine wpAnyH_take (i := 19) (oi := { dst := some 10, op := Op.assign (Operand.tmp 62), type := 3, pos := "wal.go:196", after := #[{ on := 15, ground := Ground.data }, { on := 18, ground := Ground.chain }, { on := 0, ground := Ground.phase }, { on := 1, ground := Ground.phase }, { on := 2, ground := Ground.phase }, { on := 3, ground := Ground.phase }, { on := 4, ground := Ground.phase }, { on := 5, ground := Ground.phase }, { on := 6, ground := Ground.phase }, { on := 7, ground := Ground.phase }, { on := 8, ground := Ground.phase }, { on := 9, ground := Ground.phase }, { on := 10, ground := Ground.phase }, { on := 11, ground := Ground.phase }, { on := 12, ground := Ground.phase }, { on := 13, ground := Ground.phase }, { on := 14, ground := Ground.phase }, { on := 15, ground := Ground.phase }, { on := 16, ground := Ground.textOnly Departure.lateStores }, { on := 17, ground := Ground.phase }, { on := 18, ground := Ground.phase }], guard := none }) (v := .int .i64 z7) rfl (by kernel_rfl) (by kernel_rfl) (by kernel_rfl) (fun _ _ _ h => h) (Or.inl ⟨by rfl, fun w' hSw => by clear hSw; go_simp⟩) (by assumption) ?_
              simp only [Act.put, List.setIfInBounds_toArray, List.set_cons_zero, List.set_cons_succ]
              refine wpAnyH_take (i := 20) (oi := { dst := some 11, op := Op.assign (Operand.tmp 63), type := 24, pos := "wal.go:196", after := #[{ on := 16, ground := Ground.data }, { on := 19, ground := Ground.chain }, { on := 0, ground := Ground.phase }, { on := 1, ground := Ground.phase }, { on := 2, ground := Ground.phase }, { on := 3, ground := Ground.phase }, { on := 4, ground := Ground.phase }, { on := 5, ground := Ground.phase }, { on := 6, ground := Ground.phase }, { on := 7, ground := Ground.phase }, { on := 8, ground := Ground.phase }, { on := 9, ground := Ground.phase }, { on := 10, ground := Ground.phase }, { on := 11, ground := Ground.phase }, { on := 12, ground := Ground.phase }, { on := 13, ground := Ground.phase }, { on := 14, ground := Ground.phase }, { on := 15, ground := Ground.phase }, { on := 16, ground := Ground.phase }, { on := 17, ground := Ground.phase }, { on := 18, ground := Ground.phase }, { on := 19, ground := Ground.phase }], guard := none }) (v := .int .i64 0) rfl (by kernel_rfl) (by kernel_rfl) (by kernel_rfl) (fun _ _ _ h => h) (Or.inl ⟨by rfl, fun w' hSw => by clear hSw; go_simp⟩) (by assumption) ?_
              simp only [Act.put, List.setIfInBounds_toArray, List.set_cons_zero, List.set_cons_succ]
              refine wpAnyH_done (by kernel_rfl) ?_ _
              refine NoPanic.normal ?_
              go_wp2_with fail
              go_meet
              exact ⟨_, L7, rfl, rfl, HGT⟩
          · go_simp
            have HT := hide (there_new wB Rc.none Loc.none)
            have HLT : Hid (wB.heap.size < (wB.alloc (.cells (Rc.none.cells Loc.none) 37)).heap.size) := by unfold Hid; simp
            have HGE : Hid (w1.heap.size ≤ wB.heap.size) := hHeld.size
            refine hK.out _ _ (o2 hHeld (onlyA _ _)) (fun hHeld => ?_)
            clear hK K
            try simp only [Act.put, List.setIfInBounds_toArray, List.set_cons_zero, List.set_cons_succ]
            refine wpAnyH_ready (rs := [11]) (by kernel_rfl) (by simp) ?_
            refine AllReadyH.cons (o := { dst := some 59, op := Op.convert 60 9 (Operand.tmp 58), type := 9, pos := "wal.go:196", after := #[{ on := 10, ground := Ground.data }], guard := none }) rfl (fun K hK => ?_) (AllReadyH.nil)
            have hcv := HCV.out _ (o2 HO1.out hHeld)
            go_simp
            clear hcv
            refine hK.out _ _ (hHeld) (fun hHeld => ?_)
            clear hK K
            try simp only [Act.put, List.setIfInBounds_toArray, List.set_cons_zero, List.set_cons_succ]
            refine wpAnyH_ready (rs := [12]) (by kernel_rfl) (by simp) ?_
            refine AllReadyH.cons (o := { dst := some 60, op := Op.call { callee := Callee.value (Operand.func 28), args := #[Operand.tmp 59], argTypes := #[9] }, type := 69, pos := "wal.go:196", after := #[{ on := 11, ground := Ground.data }, { on := 9, ground := Ground.chain }], guard := none }) rfl (fun K hK => ?_) (AllReadyH.nil)
            go_simp
            refine (HDEC.out _ (o2 HO1.out hHeld)).mono ?_
            rintro e w7 ⟨L7, rfl, hat7, ho7⟩
            have HO7 := hide (o2 hHeld ho7)
            have HL7 : Hid (∀ W', Only (fun k => k < w1.heap.size ∨ k = wB.heap.size) w7 W' → RcAt W' r L7) := fun W' ho => hat7 W' (ho.mono (fun i hi e => e.elim (fun h => Nat.lt_of_lt_of_le h hHeld.size) (fun h => by rw [h]; exact HLT.out)))
            have HT := hide (there_kept HT.out ho7 (fun h => h))
            clear hat7 ho7
            refine hK.out _ _ (HO7.out) (fun hHeld => ?_)
            clear hK K
            try simp only [Act.put, List.setIfInBounds_toArray, List.set_cons_zero, List.set_cons_succ]
            refine wpAnyH_take (i := 13) (oi := { dst := some 47, op := Op.move (Operand.tmp 60), type := 69, pos := "wal.go:196", after := #[{ on := 12, ground := Ground.data }], guard := none }) (v := .tuple #[.agg (r.cells L7), .int .i64 z7, .int .i64 0]) rfl (by kernel_rfl) (by kernel_rfl) (by kernel_rfl) (fun _ _ _ h => h) (Or.inl ⟨by rfl, fun w' hSw => by clear hSw; go_simp⟩) (by assumption) ?_
            simp only [Act.put, List.setIfInBounds_toArray, List.set_cons_zero, List.set_cons_succ]
            refine wpAnyH_take (i := 14) (oi := { dst := some 61, op := Op.extract (Operand.tmp 47) 0, type := 37, pos := "wal.go:196", after := #[{ on := 13, ground := Ground.data }], guard := none }) (v := .agg (r.cells L7)) rfl (by kernel_rfl) (by kernel_rfl) (by kernel_rfl) (fun _ _ _ h => h) (Or.inl ⟨by rfl, fun w' hSw => by clear hSw; go_simp⟩) (by assumption) ?_
            simp only [Act.put, List.setIfInBounds_toArray, List.set_cons_zero, List.set_cons_succ]
            refine wpAnyH_take (i := 15) (oi := { dst := some 62, op := Op.extract (Operand.tmp 47) 1, type := 3, pos := "wal.go:196", after := #[{ on := 13, ground := Ground.data }, { on := 18, ground := Ground.gcOnly Departure.lateStores }], guard := none }) (v := .int .i64 z7) rfl (by kernel_rfl) (by kernel_rfl) (by kernel_rfl) (fun _ _ _ h => h) (Or.inl ⟨by rfl, fun w' hSw => by clear hSw; go_simp⟩) (by assumption) ?_
            simp only [Act.put, List.setIfInBounds_toArray, List.set_cons_zero, List.set_cons_succ]
            refine wpAnyH_take (i := 16) (oi := { dst := some 63, op := Op.extract (Operand.tmp 47) 2, type := 24, pos := "wal.go:196", after := #[{ on := 13, ground := Ground.data }, { on := 19, ground := Ground.gcOnly Departure.lateStores }], guard := none }) (v := .int .i64 0) rfl (by kernel_rfl) (by kernel_rfl) (by kernel_rfl) (fun _ _ _ h => h) (Or.inl ⟨by rfl, fun w' hSw => by clear hSw; go_simp⟩) (by assumption) ?_
            simp only [Act.put, List.setIfInBounds_toArray, List.set_cons_zero, List.set_cons_succ]
            refine wpAnyH_ready (rs := [18]) (by kernel_rfl) (by simp) ?_
            refine AllReadyH.cons (o := { dst := none, op := Op.store 37 (Operand.tmp 9) (Operand.tmp 61), type := 0, pos := "wal.go:196", after := #[{ on := 17, ground := Ground.data }, { on := 14, ground := Ground.data }, { on := 12, ground := Ground.chain }, { on := 0, ground := Ground.phase }, { on := 1, ground := Ground.phase }, { on := 2, ground := Ground.phase }, { on := 3, ground := Ground.phase }, { on := 4, ground := Ground.phase }, { on := 5, ground := Ground.phase }, { on := 6, ground := Ground.phase }, { on := 7, ground := Ground.phase }, { on := 8, ground := Ground.phase }, { on := 9, ground := Ground.phase }, { on := 10, ground := Ground.phase }, { on := 11, ground := Ground.phase }, { on := 12, ground := Ground.phase }, { on := 13, ground := Ground.phase }, { on := 14, ground := Ground.phase }, { on := 15, ground := Ground.textOnly Departure.lateStores }, { on := 16, ground := Ground.textOnly Departure.lateStores }, { on := 17, ground := Ground.phase }], guard := none }) rfl (fun K hK => ?_) (AllReadyH.nil)
            rw [if_pos (by rfl)]
            refine wp_store_mid 37 (.tmp 9) (.tmp 61) rfl wB.heap.size 0 (r.cells L7) rfl rfl HT.out Tryz.sizeRec (by simp [Value.oneCell', Rc.cells]) ?_
            simp only [Act.put]
            have HGT : Hid (Gt w1 (w7.setCells wB.heap.size 0 (r.cl L7)) wB.heap.size r L7) := ⟨HO7.out.trans (only_setCells wB.heap.size (r.cl L7) 0 w7) (fun i hi e => by have := HGE.out; omega), range_set _ _ r L7 HT.out, fun W' ho => HL7.out W' (((only_setCells wB.heap.size (r.cl L7) 0 w7).mono (fun _ _ e => .inr e)).trans ho (fun i hi e => .inl e))⟩
            refine hK.out _ _ (HGT.out.only) (fun hHeld => ?_)
            clear hK K
            try simp only [Act.put, List.setIfInBounds_toArray, List.set_cons_zero, List.set_cons_succ]
            refine wpAnyH_take (i := 19) (oi := { dst := some 10, op := Op.assign (Operand.tmp 62), type := 3, pos := "wal.go:196", after := #[{ on := 15, ground := Ground.data }, { on := 18, ground := Ground.chain }, { on := 0, ground := Ground.phase }, { on := 1, ground := Ground.phase }, { on := 2, ground := Ground.phase }, { on := 3, ground := Ground.phase }, { on := 4, ground := Ground.phase }, { on := 5, ground := Ground.phase }, { on := 6, ground := Ground.phase }, { on := 7, ground := Ground.phase }, { on := 8, ground := Ground.phase }, { on := 9, ground := Ground.phase }, { on := 10, ground := Ground.phase }, { on := 11, ground := Ground.phase }, { on := 12, ground := Ground.phase }, { on := 13, ground := Ground.phase }, { on := 14, ground := Ground.phase }, { on := 15, ground := Ground.phase }, { on := 16, ground := Ground.textOnly Departure.lateStores }, { on := 17, ground := Ground.phase }, { on := 18, ground := Ground.phase }], guard := none }) (v := .int .i64 z7) rfl (by kernel_rfl) (by kernel_rfl) (by kernel_rfl) (fun _ _ _ h => h) (Or.inl ⟨by rfl, fun w' hSw => by clear hSw; go_simp⟩) (by assumption) ?_
            simp only [Act.put, List.setIfInBounds_toArray, List.set_cons_zero, List.set_cons_succ]
            refine wpAnyH_take (i := 20) (oi := { dst := some 11, op := Op.assign (Operand.tmp 63), type := 24, pos := "wal.go:196", after := #[{ on := 16, ground := Ground.data }, { on := 19, ground := Ground.chain }, { on := 0, ground := Ground.phase }, { on := 1, ground := Ground.phase }, { on := 2, ground := Ground.phase }, { on := 3, ground := Ground.phase }, { on := 4, ground := Ground.phase }, { on := 5, ground := Ground.phase }, { on := 6, ground := Ground.phase }, { on := 7, ground := Ground.phase }, { on := 8, ground := Ground.phase }, { on := 9, ground := Ground.phase }, { on := 10, ground := Ground.phase }, { on := 11, ground := Ground.phase }, { on := 12, ground := Ground.phase }, { on := 13, ground := Ground.phase }, { on := 14, ground := Ground.phase }, { on := 15, ground := Ground.phase }, { on := 16, ground := Ground.phase }, { on := 17, ground := Ground.phase }, { on := 18, ground := Ground.phase }, { on := 19, ground := Ground.phase }], guard := none }) (v := .int .i64 0) rfl (by kernel_rfl) (by kernel_rfl) (by kernel_rfl) (fun _ _ _ h => h) (Or.inl ⟨by rfl, fun w' hSw => by clear hSw; go_simp⟩) (by assumption) ?_
            simp only [Act.put, List.setIfInBounds_toArray, List.set_cons_zero, List.set_cons_succ]
            refine wpAnyH_done (by kernel_rfl) ?_ _
            refine NoPanic.normal ?_
            go_wp2_with fail
            go_meet
            exact ⟨_, L7, rfl, rfl, HGT⟩
        · go_simp
          have HT := hide (there_new wA Rc.none Loc.none)
          have HLT : Hid (wA.heap.size < (wA.alloc (.cells (Rc.none.cells Loc.none) 37)).heap.size) := by unfold Hid; simp
          have HGE : Hid (w1.heap.size ≤ wA.heap.size) := hHeld.size
          refine hK.out _ _ (o2 hHeld (onlyA _ _)) (fun hHeld => ?_)
          clear hK K
          try simp only [Act.put, List.setIfInBounds_toArray, List.set_cons_zero, List.set_cons_succ]
          refine wpAnyH_ready (rs := [9]) (by kernel_rfl) (by simp) ?_
          refine AllReadyH.cons (o := { dst := some 57, op := Op.call { callee := Callee.value (Operand.func 29), args := #[Operand.tmp 55, Operand.tmp 56], argTypes := #[27, 3] }, type := 3, pos := "wal.go:196", after := #[{ on := 7, ground := Ground.data }, { on := 8, ground := Ground.data }, { on := 6, ground := Ground.chain }], guard := none }) rfl (fun K hK => ?_) (AllReadyH.nil)
          go_simp
          refine (HOF2.out _ (o2 HO1.out hHeld)).mono ?_
          rintro e wB ⟨rfl, hoX⟩
          have HOwB := hide (o2 hHeld hoX)
          have HT := hide (there_kept HT.out hoX (fun h => h))
          have HLT := hide (Nat.lt_of_lt_of_le HLT.out hoX.size)
          clear hoX
          refine hK.out _ _ (HOwB.out) (fun hHeld => ?_)
          clear hK K
          try simp only [Act.put, List.setIfInBounds_toArray, List.set_cons_zero, List.set_cons_succ]
          refine wpAnyH_take (i := 10) (oi := { dst := some 58, op := Op.slice 60 (Operand.tmp 51) (some (Operand.tmp 54)) (some (Operand.tmp 57)) none, type := 60, pos := "wal.go:196", after := #[{ on := 3, ground := Ground.data }, { on := 6, ground := Ground.data }, { on := 9, ground := Ground.data }], guard := none }) (v := .slice A2 (hi' - lo) (cp - lo)) rfl (by kernel_rfl) (by kernel_rfl) (by kernel_rfl) (fun _ _ _ h => h) (Or.inl ⟨by rfl, fun w' hSw => by clear hSw; go_simp⟩) (by assumption) ?_
          simp only [Act.put, List.setIfInBounds_toArray, List.set_cons_zero, List.set_cons_succ]
          refine wpAnyH_ready (rs := [11]) (by kernel_rfl) (by simp) ?_
          refine AllReadyH.cons (o := { dst := some 59, op := Op.convert 60 9 (Operand.tmp 58), type := 9, pos := "wal.go:196", after := #[{ on := 10, ground := Ground.data }], guard := none }) rfl (fun K hK => ?_) (AllReadyH.nil)
          have hcv := HCV.out _ (o2 HO1.out hHeld)
          go_simp
          clear hcv
          refine hK.out _ _ (hHeld) (fun hHeld => ?_)
          clear hK K
          try simp only [Act.put, List.setIfInBounds_toArray, List.set_cons_zero, List.set_cons_succ]
          refine wpAnyH_ready (rs := [12]) (by kernel_rfl) (by simp) ?_
          refine AllReadyH.cons (o := { dst := some 60, op := Op.call { callee := Callee.value (Operand.func 28), args := #[Operand.tmp 59], argTypes := #[9] }, type := 69, pos := "wal.go:196", after := #[{ on := 11, ground := Ground.data }, { on := 9, ground := Ground.chain }], guard := none }) rfl (fun K hK => ?_) (AllReadyH.nil)
          go_simp
          refine (HDEC.out _ (o2 HO1.out hHeld)).mono ?_
          rintro e w7 ⟨L7, rfl, hat7, ho7⟩
          have HO7 := hide (o2 hHeld ho7)
          have HL7 : Hid (∀ W', Only (fun k => k < w1.heap.size ∨ k = wA.heap.size) w7 W' → RcAt W' r L7) := fun W' ho => hat7 W' (ho.mono (fun i hi e => e.elim (fun h => Nat.lt_of_lt_of_le h hHeld.size) (fun h => by rw [h]; exact HLT.out)))
          have HT := hide (there_kept HT.out ho7 (fun h => h))
          clear hat7 ho7
          refine hK.out _ _ (HO7.out) (fun hHeld => ?_)
          clear hK K
          try simp only [Act.put, List.setIfInBounds_toArray, List.set_cons_zero, List.set_cons_succ]
          refine wpAnyH_take (i := 13) (oi := { dst := some 47, op := Op.move (Operand.tmp 60), type := 69, pos := "wal.go:196", after := #[{ on := 12, ground := Ground.data }], guard := none }) (v := .tuple #[.agg (r.cells L7), .int .i64 z7, .int .i64 0]) rfl (by kernel_rfl) (by kernel_rfl) (by kernel_rfl) (fun _ _ _ h => h) (Or.inl ⟨by rfl, fun w' hSw => by clear hSw; go_simp⟩) (by assumption) ?_
          simp only [Act.put, List.setIfInBounds_toArray, List.set_cons_zero, List.set_cons_succ]
          refine wpAnyH_take (i := 14) (oi := { dst := some 61, op := Op.extract (Operand.tmp 47) 0, type := 37, pos := "wal.go:196", after := #[{ on := 13, ground := Ground.data }], guard := none }) (v := .agg (r.cells L7)) rfl (by kernel_rfl) (by kernel_rfl) (by kernel_rfl) (fun _ _ _ h => h) (Or.inl ⟨by rfl, fun w' hSw => by clear hSw; go_simp⟩) (by assumption) ?_
          simp only [Act.put, List.setIfInBounds_toArray, List.set_cons_zero, List.set_cons_succ]
          refine wpAnyH_take (i := 15) (oi := { dst := some 62, op := Op.extract (Operand.tmp 47) 1, type := 3, pos := "wal.go:196", after := #[{ on := 13, ground := Ground.data }, { on := 18, ground := Ground.gcOnly Departure.lateStores }], guard := none }) (v := .int .i64 z7) rfl (by kernel_rfl) (by kernel_rfl) (by kernel_rfl) (fun _ _ _ h => h) (Or.inl ⟨by rfl, fun w' hSw => by clear hSw; go_simp⟩) (by assumption) ?_
          simp only [Act.put, List.setIfInBounds_toArray, List.set_cons_zero, List.set_cons_succ]
          refine wpAnyH_take (i := 16) (oi := { dst := some 63, op := Op.extract (Operand.tmp 47) 2, type := 24, pos := "wal.go:196", after := #[{ on := 13, ground := Ground.data }, { on := 19, ground := Ground.gcOnly Departure.lateStores }], guard := none }) (v := .int .i64 0) rfl (by kernel_rfl) (by kernel_rfl) (by kernel_rfl) (fun _ _ _ h => h) (Or.inl ⟨by rfl, fun w' hSw => by clear hSw; go_simp⟩) (by assumption) ?_
          simp only [Act.put, List.setIfInBounds_toArray, List.set_cons_zero, List.set_cons_succ]
          refine wpAnyH_ready (rs := [18]) (by kernel_rfl) (by simp) ?_
          refine AllReadyH.cons (o := { dst := none, op := Op.store 37 (Operand.tmp 9) (Operand.tmp 61), type := 0, pos := "wal.go:196", after := #[{ on := 17, ground := Ground.data }, { on := 14, ground := Ground.data }, { on := 12, ground := Ground.chain }, { on := 0, ground := Ground.phase }, { on := 1, ground := Ground.phase }, { on := 2, ground := Ground.phase }, { on := 3, ground := Ground.phase }, { on := 4, ground := Ground.phase }, { on := 5, ground := Ground.phase }, { on := 6, ground := Ground.phase }, { on := 7, ground := Ground.phase }, { on := 8, ground := Ground.phase }, { on := 9, ground := Ground.phase }, { on := 10, ground := Ground.phase }, { on := 11, ground := Ground.phase }, { on := 12, ground := Ground.phase }, { on := 13, ground := Ground.phase }, { on := 14, ground := Ground.phase }, { on := 15, ground := Ground.textOnly Departure.lateStores }, { on := 16, ground := Ground.textOnly Departure.lateStores }, { on := 17, ground := Ground.phase }], guard := none }) rfl (fun K hK => ?_) (AllReadyH.nil)
          rw [if_pos (by rfl)]
          refine wp_store_mid 37 (.tmp 9) (.tmp 61) rfl wA.heap.size 0 (r.cells L7) rfl rfl HT.out Tryz.sizeRec (by simp [Value.oneCell', Rc.cells]) ?_
          simp only [Act.put]
          have HGT : Hid (Gt w1 (w7.setCells wA.heap.size 0 (r.cl L7)) wA.heap.size r L7) := ⟨HO7.out.trans (only_setCells wA.heap.size (r.cl L7) 0 w7) (fun i hi e => by have := HGE.out; omega), range_set _ _ r L7 HT.out, fun W' ho => HL7.out W' (((only_setCells wA.heap.size (r.cl L7) 0 w7).mono (fun _ _ e => .inr e)).trans ho (fun i hi e => .inl e))⟩
          refine hK.out _ _ (HGT.out.only) (fun hHeld => ?_)
          clear hK K
          try simp only [Act.put, List.setIfInBounds_toArray, List.set_cons_zero, List.set_cons_succ]
          refine wpAnyH_take (i := 19) (oi := { dst := some 10, op := Op.assign (Operand.tmp 62), type := 3, pos := "wal.go:196", after := #[{ on := 15, ground := Ground.data }, { on := 18, ground := Ground.chain }, { on := 0, ground := Ground.phase }, { on := 1, ground := Ground.phase }, { on := 2, ground := Ground.phase }, { on := 3, ground := Ground.phase }, { on := 4, ground := Ground.phase }, { on := 5, ground := Ground.phase }, { on := 6, ground := Ground.phase }, { on := 7, ground := Ground.phase }, { on := 8, ground := Ground.phase }, { on := 9, ground := Ground.phase }, { on := 10, ground := Ground.phase }, { on := 11, ground := Ground.phase }, { on := 12, ground := Ground.phase }, { on := 13, ground := Ground.phase }, { on := 14, ground := Ground.phase }, { on := 15, ground := Ground.phase }, { on := 16, ground := Ground.textOnly Departure.lateStores }, { on := 17, ground := Ground.phase }, { on := 18, ground := Ground.phase }], guard := none }) (v := .int .i64 z7) rfl (by kernel_rfl) (by kernel_rfl) (by kernel_rfl) (fun _ _ _ h => h) (Or.inl ⟨by rfl, fun w' hSw => by clear hSw; go_simp⟩) (by assumption) ?_
          simp only [Act.put, List.setIfInBounds_toArray, List.set_cons_zero, List.set_cons_succ]
          refine wpAnyH_take (i := 20) (oi := { dst := some 11, op := Op.assign (Operand.tmp 63), type := 24, pos := "wal.go:196", after := #[{ on := 16, ground := Ground.data }, { on := 19, ground := Ground.chain }, { on := 0, ground := Ground.phase }, { on := 1, ground := Ground.phase }, { on := 2, ground := Ground.phase }, { on := 3, ground := Ground.phase }, { on := 4, ground := Ground.phase }, { on := 5, ground := Ground.phase }, { on := 6, ground := Ground.phase }, { on := 7, ground := Ground.phase }, { on := 8, ground := Ground.phase }, { on := 9, ground := Ground.phase }, { on := 10, ground := Ground.phase }, { on := 11, ground := Ground.phase }, { on := 12, ground := Ground.phase }, { on := 13, ground := Ground.phase }, { on := 14, ground := Ground.phase }, { on := 15, ground := Ground.phase }, { on := 16, ground := Ground.phase }, { on := 17, ground := Ground.phase }, { on := 18, ground := Ground.phase }, { on := 19, ground := Ground.phase }], guard := none }) (v := .int .i64 0) rfl (by kernel_rfl) (by kernel_rfl) (by kernel_rfl) (fun _ _ _ h => h) (Or.inl ⟨by rfl, fun w' hSw => by clear hSw; go_simp⟩) (by assumption) ?_
          simp only [Act.put, List.setIfInBounds_toArray, List.set_cons_zero, List.set_cons_succ]
          refine wpAnyH_done (by kernel_rfl) ?_ _
          refine NoPanic.normal ?_
          go_wp2_with fail
          go_meet
          exact ⟨_, L7, rfl, rfl, HGT⟩
      · go_simp
        have HT : Hid (((w1.alloc (.cells (Rc.none.cells Loc.none) 37)).drew).there w1.heap.size 0 16) := there_new w1 Rc.none Loc.none
        have HLT : Hid (w1.heap.size < ((w1.alloc (.cells (Rc.none.cells Loc.none) 37)).drew).heap.size) := by unfold Hid; simp
        have HGE : Hid (w1.heap.size ≤ w1.heap.size) := Nat.le_refl _
        refine hK.out _ _ (o2 (onlyA _ _) (Only.drew _ _)) (fun hHeld => ?_)
        clear hK K
        try simp only [Act.put, List.setIfInBounds_toArray, List.set_cons_zero, List.set_cons_succ]
        refine wpAnyH_ready (rs := [6]) (by kernel_rfl) (by simp) ?_
        refine AllReadyH.cons (o := { dst := some 54, op := Op.call { callee := Callee.value (Operand.func 29), args := #[Operand.tmp 52, Operand.tmp 53], argTypes := #[27, 3] }, type := 3, pos := "wal.go:196", after := #[{ on := 4, ground := Ground.data }, { on := 5, ground := Ground.data }], guard := none }) rfl (fun K hK => ?_) (AllReadyH.nil)
        go_simp
        refine (HOF1.out _ (o2 HO1.out hHeld)).mono ?_
        rintro e wA ⟨rfl, hoX⟩
        have HOwA := hide (o2 hHeld hoX)
        have HT := hide (there_kept HT.out hoX (fun h => h))
        have HLT := hide (Nat.lt_of_lt_of_le HLT.out hoX.size)
        clear hoX
        refine hK.out _ _ (HOwA.out) (fun hHeld => ?_)
        clear hK K
        try simp only [Act.put, List.setIfInBounds_toArray, List.set_cons_zero, List.set_cons_succ]
        refine wpAnyH_ready (rs := [9]) (by kernel_rfl) (by simp) ?_
        refine AllReadyH.cons (o := { dst := some 57, op := Op.call { callee := Callee.value (Operand.func 29), args := #[Operand.tmp 55, Operand.tmp 56], argTypes := #[27, 3] }, type := 3, pos := "wal.go:196", after := #[{ on := 7, ground := Ground.data }, { on := 8, ground := Ground.data }, { on := 6, ground := Ground.chain }], guard := none }) rfl (fun K hK => ?_) (AllReadyH.nil)
        go_simp
        refine (HOF2.out _ (o2 HO1.out hHeld)).mono ?_
        rintro e wB ⟨rfl, hoX⟩
        have HOwB := hide (o2 hHeld hoX)
        have HT := hide (there_kept HT.out hoX (fun h => h))
        have HLT := hide (Nat.lt_of_lt_of_le HLT.out hoX.size)
        clear hoX
        refine hK.out _ _ (HOwB.out) (fun hHeld => ?_)
        clear hK K
        try simp only [Act.put, List.setIfInBounds_toArray, List.set_cons_zero, List.set_cons_succ]
        refine wpAnyH_take (i := 10) (oi := { dst := some 58, op := Op.slice 60 (Operand.tmp 51) (some (Operand.tmp 54)) (some (Operand.tmp 57)) none, type := 60, pos := "wal.go:196", after := #[{ on := 3, ground := Ground.data }, { on := 6, ground := Ground.data }, { on := 9, ground := Ground.data }], guard := none }) (v := .slice A2 (hi' - lo) (cp - lo)) rfl (by kernel_rfl) (by kernel_rfl) (by kernel_rfl) (fun _ _ _ h => h) (Or.inl ⟨by rfl, fun w' hSw => by clear hSw; go_simp⟩) (by assumption) ?_
        simp only [Act.put, List.setIfInBounds_toArray, List.set_cons_zero, List.set_cons_succ]
        refine wpAnyH_ready (rs := [11]) (by kernel_rfl) (by simp) ?_
        refine AllReadyH.cons (o := { dst := some 59, op := Op.convert 60 9 (Operand.tmp 58), type := 9, pos := "wal.go:196", after := #[{ on := 10, ground := Ground.data }], guard := none }) rfl (fun K hK => ?_) (AllReadyH.nil)
        have hcv := HCV.out _ (o2 HO1.out hHeld)
        go_simp
        clear hcv
        refine hK.out _ _ (hHeld) (fun hHeld => ?_)
        clear hK K
        try simp only [Act.put, List.setIfInBounds_toArray, List.set_cons_zero, List.set_cons_succ]
        refine wpAnyH_ready (rs := [12]) (by kernel_rfl) (by simp) ?_
        refine AllReadyH.cons (o := { dst := some 60, op := Op.call { callee := Callee.value (Operand.func 28), args := #[Operand.tmp 59], argTypes := #[9] }, type := 69, pos := "wal.go:196", after := #[{ on := 11, ground := Ground.data }, { on := 9, ground := Ground.chain }], guard := none }) rfl (fun K hK => ?_) (AllReadyH.nil)
        go_simp
        refine (HDEC.out _ (o2 HO1.out hHeld)).mono ?_
        rintro e w7 ⟨L7, rfl, hat7, ho7⟩
        have HO7 := hide (o2 hHeld ho7)
        have HL7 : Hid (∀ W', Only (fun k => k < w1.heap.size ∨ k = w1.heap.size) w7 W' → RcAt W' r L7) := fun W' ho => hat7 W' (ho.mono (fun i hi e => e.elim (fun h => Nat.lt_of_lt_of_le h hHeld.size) (fun h => by rw [h]; exact HLT.out)))
        have HT := hide (there_kept HT.out ho7 (fun h => h))
        clear hat7 ho7
        refine hK.out _ _ (HO7.out) (fun hHeld => ?_)
        clear hK K
        try simp only [Act.put, List.setIfInBounds_toArray, List.set_cons_zero, List.set_cons_succ]
        refine wpAnyH_take (i := 13) (oi := { dst := some 47, op := Op.move (Operand.tmp 60), type := 69, pos := "wal.go:196", after := #[{ on := 12, ground := Ground.data }], guard := none }) (v := .tuple #[.agg (r.cells L7), .int .i64 z7, .int .i64 0]) rfl (by kernel_rfl) (by kernel_rfl) (by kernel_rfl) (fun _ _ _ h => h) (Or.inl ⟨by rfl, fun w' hSw => by clear hSw; go_simp⟩) (by assumption) ?_
        simp only [Act.put, List.setIfInBounds_toArray, List.set_cons_zero, List.set_cons_succ]
        refine wpAnyH_take (i := 14) (oi := { dst := some 61, op := Op.extract (Operand.tmp 47) 0, type := 37, pos := "wal.go:196", after := #[{ on := 13, ground := Ground.data }], guard := none }) (v := .agg (r.cells L7)) rfl (by kernel_rfl) (by kernel_rfl) (by kernel_rfl) (fun _ _ _ h => h) (Or.inl ⟨by rfl, fun w' hSw => by clear hSw; go_simp⟩) (by assumption) ?_
        simp only [Act.put, List.setIfInBounds_toArray, List.set_cons_zero, List.set_cons_succ]
        refine wpAnyH_take (i := 15) (oi := { dst := some 62, op := Op.extract (Operand.tmp 47) 1, type := 3, pos := "wal.go:196", after := #[{ on := 13, ground := Ground.data }, { on := 18, ground := Ground.gcOnly Departure.lateStores }], guard := none }) (v := .int .i64 z7) rfl (by kernel_rfl) (by kernel_rfl) (by kernel_rfl) (fun _ _ _ h => h) (Or.inl ⟨by rfl, fun w' hSw => by clear hSw; go_simp⟩) (by assumption) ?_
        simp only [Act.put, List.setIfInBounds_toArray, List.set_cons_zero, List.set_cons_succ]
        refine wpAnyH_take (i := 16) (oi := { dst := some 63, op := Op.extract (Operand.tmp 47) 2, type := 24, pos := "wal.go:196", after := #[{ on := 13, ground := Ground.data }, { on := 19, ground := Ground.gcOnly Departure.lateStores }], guard := none }) (v := .int .i64 0) rfl (by kernel_rfl) (by kernel_rfl) (by kernel_rfl) (fun _ _ _ h => h) (Or.inl ⟨by rfl, fun w' hSw => by clear hSw; go_simp⟩) (by assumption) ?_
        simp only [Act.put, List.setIfInBounds_toArray, List.set_cons_zero, List.set_cons_succ]
        refine wpAnyH_ready (rs := [18]) (by kernel_rfl) (by simp) ?_
        refine AllReadyH.cons (o := { dst := none, op := Op.store 37 (Operand.tmp 9) (Operand.tmp 61), type := 0, pos := "wal.go:196", after := #[{ on := 17, ground := Ground.data }, { on := 14, ground := Ground.data }, { on := 12, ground := Ground.chain }, { on := 0, ground := Ground.phase }, { on := 1, ground := Ground.phase }, { on := 2, ground := Ground.phase }, { on := 3, ground := Ground.phase }, { on := 4, ground := Ground.phase }, { on := 5, ground := Ground.phase }, { on := 6, ground := Ground.phase }, { on := 7, ground := Ground.phase }, { on := 8, ground := Ground.phase }, { on := 9, ground := Ground.phase }, { on := 10, ground := Ground.phase }, { on := 11, ground := Ground.phase }, { on := 12, ground := Ground.phase }, { on := 13, ground := Ground.phase }, { on := 14, ground := Ground.phase }, { on := 15, ground := Ground.textOnly Departure.lateStores }, { on := 16, ground := Ground.textOnly Departure.lateStores }, { on := 17, ground := Ground.phase }], guard := none }) rfl (fun K hK => ?_) (AllReadyH.nil)
        rw [if_pos (by rfl)]
        refine wp_store_mid 37 (.tmp 9) (.tmp 61) rfl w1.heap.size 0 (r.cells L7) rfl rfl HT.out Tryz.sizeRec (by simp [Value.oneCell', Rc.cells]) ?_
        simp only [Act.put]
        have HGT : Hid (Gt w1 (w7.setCells w1.heap.size 0 (r.cl L7)) w1.heap.size r L7) := ⟨HO7.out.trans (only_setCells w1.heap.size (r.cl L7) 0 w7) (fun i hi e => by have := HGE.out; omega), range_set _ _ r L7 HT.out, fun W' ho => HL7.out W' (((only_setCells w1.heap.size (r.cl L7) 0 w7).mono (fun _ _ e => .inr e)).trans ho (fun i hi e => .inl e))⟩
        refine hK.out _ _ (HGT.out.only) (fun hHeld => ?_)
        clear hK K
        try simp only [Act.put, List.setIfInBounds_toArray, List.set_cons_zero, List.set_cons_succ]
        refine wpAnyH_take (i := 19) (oi := { dst := some 10, op := Op.assign (Operand.tmp 62), type := 3, pos := "wal.go:196", after := #[{ on := 15, ground := Ground.data }, { on := 18, ground := Ground.chain }, { on := 0, ground := Ground.phase }, { on := 1, ground := Ground.phase }, { on := 2, ground := Ground.phase }, { on := 3, ground := Ground.phase }, { on := 4, ground := Ground.phase }, { on := 5, ground := Ground.phase }, { on := 6, ground := Ground.phase }, { on := 7, ground := Ground.phase }, { on := 8, ground := Ground.phase }, { on := 9, ground := Ground.phase }, { on := 10, ground := Ground.phase }, { on := 11, ground := Ground.phase }, { on := 12, ground := Ground.phase }, { on := 13, ground := Ground.phase }, { on := 14, ground := Ground.phase }, { on := 15, ground := Ground.phase }, { on := 16, ground := Ground.textOnly Departure.lateStores }, { on := 17, ground := Ground.phase }, { on := 18, ground := Ground.phase }], guard := none }) (v := .int .i64 z7) rfl (by kernel_rfl) (by kernel_rfl) (by kernel_rfl) (fun _ _ _ h => h) (Or.inl ⟨by rfl, fun w' hSw => by clear hSw; go_simp⟩) (by assumption) ?_
        simp only [Act.put, List.setIfInBounds_toArray, List.set_cons_zero, List.set_cons_succ]
        refine wpAnyH_take (i := 20) (oi := { dst := some 11, op := Op.assign (Operand.tmp 63), type := 24, pos := "wal.go:196", after := #[{ on := 16, ground := Ground.data }, { on := 19, ground := Ground.chain }, { on := 0, ground := Ground.phase }, { on := 1, ground := Ground.phase }, { on := 2, ground := Ground.phase }, { on := 3, ground := Ground.phase }, { on := 4, ground := Ground.phase }, { on := 5, ground := Ground.phase }, { on := 6, ground := Ground.phase }, { on := 7, ground := Ground.phase }, { on := 8, ground := Ground.phase }, { on := 9, ground := Ground.phase }, { on := 10, ground := Ground.phase }, { on := 11, ground := Ground.phase }, { on := 12, ground := Ground.phase }, { on := 13, ground := Ground.phase }, { on := 14, ground := Ground.phase }, { on := 15, ground := Ground.phase }, { on := 16, ground := Ground.phase }, { on := 17, ground := Ground.phase }, { on := 18, ground := Ground.phase }, { on := 19, ground := Ground.phase }], guard := none }) (v := .int .i64 0) rfl (by kernel_rfl) (by kernel_rfl) (by kernel_rfl) (fun _ _ _ h => h) (Or.inl ⟨by rfl, fun w' hSw => by clear hSw; go_simp⟩) (by assumption) ?_
        simp only [Act.put, List.setIfInBounds_toArray, List.set_cons_zero, List.set_cons_succ]
        refine wpAnyH_done (by kernel_rfl) ?_ _
        refine NoPanic.normal ?_
        go_wp2_with fail
        go_meet
        exact ⟨_, L7, rfl, rfl, HGT⟩
    case rest =>
      obtain ⟨b9, L9, rfl, rfl, HG⟩ := hcut
      have HT9 := hide (there_kept HTH1.out HG.out.only (fun h => h))
      go_wp2_with (first
        | (refine wpList_load_rec rfl (.tmp 9) rfl b9 rfl r L9 HG.out.rng ?_; go_frame)
        | (refine wpList_put_rec rfl (.tmp 4) (.tmp 64) rfl w.heap.size rfl r L9 rfl HT9.out ?_; intro W9 HW9; go_frame))
      refine bodyPost_ret (results_rec2 rfl rfl HW9.out.load) rfl ?_
      have hs0 := HSZ0.out
      have hs1 := HO01.out.size
      exact ⟨L9, rfl, HG.out.at_ _ (HW9.out.only.mono (fun i hi e => by omega)), (o2 HO1.out HG.out.only).trans HW9.out.only (fun i hi e => by omega)⟩
end Go.Proofs.YtcbdpdkmkncffaaGreatDoor
