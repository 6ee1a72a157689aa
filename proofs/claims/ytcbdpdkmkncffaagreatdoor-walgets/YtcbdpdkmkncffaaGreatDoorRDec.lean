/- What Decode does. -/
import Derived.Test.YtcbdpdkmkncffaaGreatDoorRPt
namespace Go.Proofs.YtcbdpdkmkncffaaGreatDoor
open Go.RowKit

theorem there_kept {S : Nat → Prop} {w w' : World} {b : Nat} (h : w.there b 0 16) (ho : Only S w w') (hS : ¬ S b) : w'.there b 0 16 := fun j hj => by
  obtain ⟨h1, h2⟩ := h j hj
  obtain ⟨u, hu⟩ := Option.isSome_iff_exists.1 h1
  have hb := World.block_lt_of_cell? w _ hu
  exact ⟨by rw [ho.cell (p := ⟨b, 0 + j, none⟩) hb hS]; exact h1, by rw [ho.frozen (p := ⟨b, 0 + j, none⟩) hb hS]; exact h2⟩
theorem range_set (w : World) (b : Nat) (r : Rc) (L : Loc) (ht : w.there b 0 16) : (w.setCells b 0 (r.cl L)).rangeAt b 0 (r.cl L) := World.rangeAt_setCells_same w b 0 (r.cl L) ht
/-- A record was stored into block b; its cells. -/
structure Stor2 (w W : World) (b : Nat) (r : Rc) (L : Loc) : Prop where
  only : Only (fun k => k = b) w W
  range : W.rangeAt b 0 (r.cl L)
section
variable {ops : Array Oper} {rest : List Oper} {o : Oper} {a : Act} {w : World} {Q : Exit → Act → World → Prop}
theorem wpList_lay_rec (hg : o.guard = none) (x y : Operand) (hop : o.op = .store 37 x y) (b : Nat) (hx : a.eval x = .pointer (some ⟨b, 0, none⟩)) (r : Rc) (L : Loc) (hy : a.eval y = .agg (r.cells L)) (hc : w.there b 0 16)
    (h : ∀ W, Hid (Stor2 w W b r L) → wpList Tryz.prog ops Q rest (a.put o.dst undef) W) : wpList Tryz.prog ops Q (o :: rest) a w :=
  wpList_store_rec hg x y hop b hx r L hy hc (h _ ⟨only_setCells b (r.cl L) 0 w, range_set w b r L hc⟩)
end
theorem none_at (w : World) : RcAt w Rc.none Loc.none :=
  ⟨Zs.nil _ _ _, Zs.nil _ _ _, ⟨fun _ => True, Ims.nil _ _ _ _⟩, Prs.nil _ _ _, Prs.nil _ _ _, ⟨fun _ => rfl, Nat.le_refl _, Nat.zero_le _⟩, ⟨fun _ => rfl, Nat.le_refl _, Nat.zero_le _⟩, Nat.zero_le _, ⟨by decide, by decide⟩⟩

theorem results_rec3 {fn : Func} {p u u' : Tmp} (h : fn.results = #[.cell p 37, .tmp u, .tmp u']) {tmps : Array Value} {w : World} {b : Nat} {v : Value} (hp : tmps.getD p undef = .pointer (some ⟨b, 0, none⟩)) (hP : (loadVar 37 ⟨b, 0, none⟩).run Tryz.prog w = .ok v w) :
    (results fn tmps).run Tryz.prog w = .ok (.tuple #[v, tmps.getD u undef, tmps.getD u' undef]) w := by
  have e : (asAddr (tmps.getD p undef)).run Tryz.prog w = .ok ⟨b, 0, none⟩ w := by rw [hp]; rfl
  have key : (results fn tmps).run Tryz.prog w = ((asAddr (tmps.getD p undef)).run Tryz.prog w).andThen fun a w₁ => ((loadVar 37 a).run Tryz.prog w₁).andThen fun v w₂ => .ok (.tuple #[v, tmps.getD u undef, tmps.getD u' undef]) w₂ := by
    simp only [results, h]
    simp [Sem.run_bind, Result.andThen]
  rw [key, e]
  simp only [Result.andThen, hP]
/-- What Decode answers. -/
structure DcQ (w w' : World) (e : Ending) (l : List UInt8) : Prop where
  ex : ∃ (r : Rc) (n c : Int) (L : Loc), DecIs l r n c ∧ RcAt w' r L ∧ e = .returned (.tuple #[.agg (r.cells L), .int .i64 n, .int .i64 c])
  only : Only (fun _ => False) w w'
theorem di_short {l : List UInt8} (h : l.length < 8) : DecIs l .none 0 40 := ⟨fun _ => ⟨rfl, rfl, rfl⟩, fun h' => absurd h' (by omega), fun h' => absurd h' (by omega), fun h' => absurd h' (by omega), fun h' => absurd h' (by omega)⟩
theorem di_zero {l : List UInt8} (h : 8 ≤ l.length) (hz : ofTo (l.take 4) = 0 ∨ 65535 < ofTo (l.take 4)) : DecIs l .none 0 41 := ⟨fun h' => absurd h' (by omega), fun _ _ => ⟨rfl, rfl, rfl⟩, fun _ h' => absurd hz h', fun _ h' => absurd hz h', fun _ h' => absurd hz h'⟩
theorem di_cut {l : List UInt8} (h : 8 ≤ l.length) (hz : ¬ (ofTo (l.take 4) = 0 ∨ 65535 < ofTo (l.take 4))) (hc : (l.length : Int) - 8 < ofTo (l.take 4)) : DecIs l .none 0 40 := ⟨fun h' => absurd h' (by omega), fun _ h' => absurd h' hz, fun _ _ _ => ⟨rfl, rfl, rfl⟩, fun _ _ h' => absurd hc h', fun _ _ h' => absurd hc h'⟩
theorem di_sum {l : List UInt8} (h : 8 ≤ l.length) (hz : ¬ (ofTo (l.take 4) = 0 ∨ 65535 < ofTo (l.take 4))) (hc : ¬ (l.length : Int) - 8 < ofTo (l.take 4)) (hs : sum ((l.drop 8).take (ofTo (l.take 4)).toNat) ≠ ofTo ((l.drop 4).take 4)) : DecIs l .none 0 30 := ⟨fun h' => absurd h' (by omega), fun _ h' => absurd h' hz, fun _ _ h' => absurd h' hc, fun _ _ _ _ => ⟨rfl, rfl, rfl⟩, fun _ _ _ h' => absurd h' hs⟩
theorem di_rest {l : List UInt8} {r : Rc} {n c : Int} (h : 8 ≤ l.length) (hz : ¬ (ofTo (l.take 4) = 0 ∨ 65535 < ofTo (l.take 4))) (hc : ¬ (l.length : Int) - 8 < ofTo (l.take 4)) (hs : sum ((l.drop 8).take (ofTo (l.take 4)).toNat) = ofTo ((l.drop 4).take 4))
    (hx : ∃ q e, Steps ((l.drop 8).take (ofTo (l.take 4)).toNat) q e ∧ (∀ i ∈ q.images, i.body.lsn < 9223372036854775808) ∧ ((e = ([], 0) ∧ q.valid ∧ q.lay = (l.drop 8).take (ofTo (l.take 4)).toNat ∧ r = q ∧ n = 8 + ofTo (l.take 4) ∧ c = 0) ∨ (¬ (e = ([], 0) ∧ q.valid ∧ q.lay = (l.drop 8).take (ofTo (l.take 4)).toNat) ∧ r = .none ∧ n = 0 ∧ c = 41))) : DecIs l r n c :=
  ⟨fun h' => absurd h' (by omega), fun _ h' => absurd h' hz, fun _ _ h' => absurd h' hc, fun _ _ _ h' => absurd hs h', fun _ _ _ _ => hx⟩
set_option maxRecDepth 100000 in
set_option maxHeartbeats 3200000 in
theorem rdecode_any (w : World) (S : ByteArray) (hS : S.size ≤ maxLen) : Calls Tryz.prog 28 #[.string S] w fun e w' => DcQ w w' e (bl S) := by
  unfold maxLen at hS
  have hlen : (bl S).length = S.size := bl_len S
  have HTH0 := hide (there_new w Rc.none Loc.none)
  have HO0 := hide (onlyA w (.cells (Rc.none.cells Loc.none) 37))
  obtain ⟨b0, hb0⟩ : ∃ b0, w.heap.size = b0 := ⟨_, rfl⟩
  rw [hb0] at HTH0
  have hb0' : w.heap.size ≤ b0 := by omega
  have hb0'' : b0 ≤ w.heap.size := by omega
  obtain ⟨W0, hW0⟩ : ∃ W0, w.alloc (.cells (Rc.none.cells Loc.none) 37) = W0 := ⟨_, rfl⟩
  rw [hW0] at HTH0 HO0
  have HW0 := hide hW0
  have HB0 := hide hb0
  clear hW0 hb0
  by_cases h8 : S.size < 8
  · have h8' : (S.size : Int) < 8 := by omega
    have HD : Hid (DecIs (bl S) .none 0 40) := di_short (by omega)
    have HTH := HTH0
    clear h8
    go_enter Tryz.func28, Tryz.ntmps28
    go_upto_region 1 with fail
    rw [HB0.out]
    rw [show w.alloc (.cells #[.int .i64 0, .int .i64 0, .int .i64 0, .int .u8 0, .int .i64 0, .int .i64 0, .int .i64 0, .int .i64 0, .int .i64 0, .int .i64 0, .string ⟨#[]⟩, .slice none 0 0, .slice none 0 0, .slice none 0 0, .slice none 0 0, .slice none 0 0] 37) = W0 from HW0.out]
    go_upto_region 2 with fail
    go_wp2_with (refine wpList_build_rec rfl rfl ?_; go_frame; refine wpList_put_rec rfl (.tmp 2) (.tmp 13) rfl b0 rfl Rc.none Loc.none rfl HTH.out ?_; intro W9 HW9; go_frame)
    refine bodyPost_ret (results_rec3 rfl rfl HW9.out.load) rfl ?_
    exact ⟨⟨Rc.none, 0, _, Loc.none, HD.out, none_at _, rfl⟩, HO0.out.trans HW9.out.only (fun i hi e => by omega)⟩
  · have h8' : ¬ (S.size : Int) < 8 := by omega
    have h4 : (4 : Int) ≤ (S.size : Int) := by omega
    have h8b : (8 : Int) ≤ (S.size : Int) := by omega
    obtain ⟨A, hA⟩ : ∃ A, S.extract 0 4 = A := ⟨_, rfl⟩
    obtain ⟨C, hC⟩ : ∃ C, S.extract 4 8 = C := ⟨_, rfl⟩
    obtain ⟨R, hR⟩ : ∃ R, S.extract 8 S.size = R := ⟨_, rfl⟩
    have bA : bl A = (bl S).take 4 := by rw [← hA, ext_bl, List.drop_zero]
    have bC : bl C = ((bl S).drop 4).take 4 := by rw [← hC, ext_bl, List.drop_take]
    have bR : bl R = (bl S).drop 8 := by rw [← hR, ext_bl, List.take_of_length_le (by rw [bl_len]; exact Nat.le_refl _)]
    have sA : A.size = 4 := by rw [← bl_len, bA, List.length_take]; omega
    have sC : C.size = 4 := by rw [← bl_len, bC, List.length_take, List.length_drop]; omega
    have sR : R.size = S.size - 8 := by rw [← bl_len, bR, List.length_drop]; omega
    have oA := ofTo_small (bl A) (by rw [bl_len]; omega)
    have oC := ofTo_small (bl C) (by rw [bl_len]; omega)
    rw [bl_len, sA] at oA
    rw [bl_len, sC] at oC
    have p4 : (256 : Int) ^ 4 = 4294967296 := by decide
    rw [p4] at oA oC
    have cA := fun W => of_any A W (by unfold maxLen; omega)
    have cC := fun W => of_any C W (by unfold maxLen; omega)
    obtain ⟨n, hn⟩ := Int.eq_ofNat_of_zero_le oA.1
    obtain ⟨m, hm⟩ := Int.eq_ofNat_of_zero_le oC.1
    have eA : ofTo A.data.toList % 9223372036854775808 = (n : Int) := by show ofTo (bl A) % _ = _; omega
    have eC : ofTo C.data.toList % 9223372036854775808 = (m : Int) := by show ofTo (bl C) % _ = _; omega
    simp only [eA] at cA
    simp only [eC] at cC
    have HCA := hide cA
    have HCC := hide cC
    rw [bA] at hn
    rw [bC] at hm
    have HN := hide hn
    have HM := hide hm
    have HBR := hide bR
    have HSR := hide sR
    have hRb : R.size ≤ 9223372036854775807 := by omega
    have HL8 : Hid (8 ≤ (bl S).length) := by unfold Hid; omega
    have HLEN := hide hlen
    clear cA cC eA eC hn hm bA bC bR sA sC sR oA oC p4 h8 hlen
    by_cases hz : n = 0 ∨ 65535 < n
    · have HD : Hid (DecIs (bl S) .none 0 41) := di_zero HL8.out (by rw [HN.out]; omega)
      by_cases hz0 : n = 0
      · subst hz0
        clear hz
        go_enter Tryz.func28, Tryz.ntmps28
        go_upto_region 1 with fail
        rw [HB0.out]
        rw [show w.alloc (.cells #[.int .i64 0, .int .i64 0, .int .i64 0, .int .u8 0, .int .i64 0, .int .i64 0, .int .i64 0, .int .i64 0, .int .i64 0, .int .i64 0, .string ⟨#[]⟩, .slice none 0 0, .slice none 0 0, .slice none 0 0, .slice none 0 0, .slice none 0 0] 37) = W0 from HW0.out]
        go_wp2_with fail
        refine (HCA.out _).mono ?_
        rintro e w1 ⟨rfl, hw1⟩
        obtain rfl := hw1.symm
        go_upto_region 4 with fail
        go_quiet ((go_at_call 55; exact Calls.quiet_of_same (HCC.out _)))
        have HTH := hide (there_kept HTH0.out (onlyN W0 nq) (fun h => h))
        go_upto_region 6 with fail
        go_wp2_with (refine wpList_build_rec rfl rfl ?_; go_frame; refine wpList_put_rec rfl (.tmp 2) (.tmp 28) rfl b0 rfl Rc.none Loc.none rfl HTH.out ?_; intro W9 HW9; go_frame)
        refine bodyPost_ret (results_rec3 rfl rfl HW9.out.load) rfl ?_
        exact ⟨⟨Rc.none, 0, _, Loc.none, HD.out, none_at _, rfl⟩, (o2 HO0.out (onlyN W0 nq)).trans HW9.out.only (fun i hi e => by omega)⟩
      · have hz1 : (65535 : Int) < (n : Int) := by omega
        have hz2 : ((n : Int) == 0) = false := by simp; omega
        clear hz hz0
        go_enter Tryz.func28, Tryz.ntmps28
        go_upto_region 1 with fail
        rw [HB0.out]
        rw [show w.alloc (.cells #[.int .i64 0, .int .i64 0, .int .i64 0, .int .u8 0, .int .i64 0, .int .i64 0, .int .i64 0, .int .i64 0, .int .i64 0, .int .i64 0, .string ⟨#[]⟩, .slice none 0 0, .slice none 0 0, .slice none 0 0, .slice none 0 0, .slice none 0 0] 37) = W0 from HW0.out]
        go_wp2_with fail
        refine (HCA.out _).mono ?_
        rintro e w1 ⟨rfl, hw1⟩
        obtain rfl := hw1.symm
        go_upto_region 4 with fail
        go_quiet ((go_at_call 55; exact Calls.quiet_of_same (HCC.out _)))
        have HTH := hide (there_kept HTH0.out (onlyN W0 nq) (fun h => h))
        go_upto_region 6 with fail
        go_wp2_with (refine wpList_build_rec rfl rfl ?_; go_frame; refine wpList_put_rec rfl (.tmp 2) (.tmp 28) rfl b0 rfl Rc.none Loc.none rfl HTH.out ?_; intro W9 HW9; go_frame)
        refine bodyPost_ret (results_rec3 rfl rfl HW9.out.load) rfl ?_
        exact ⟨⟨Rc.none, 0, _, Loc.none, HD.out, none_at _, rfl⟩, (o2 HO0.out (onlyN W0 nq)).trans HW9.out.only (fun i hi e => by omega)⟩
    · have HNZ : Hid (¬ (ofTo ((bl S).take 4) = 0 ∨ 65535 < ofTo ((bl S).take 4))) := by unfold Hid; rw [HN.out]; omega
      have hz2 : ((n : Int) == 0) = false := by simp; omega
      have hz1 : ¬ (65535 : Int) < (n : Int) := by omega
      have hn1 : n ≤ 65535 := by omega
      clear hz
      by_cases hc : R.size < n
      · have hc' : (R.size : Int) < (n : Int) := by omega
        have HD : Hid (DecIs (bl S) .none 0 40) := di_cut HL8.out HNZ.out (by rw [HN.out, HLEN.out]; have := HSR.out; omega)
        clear hc
        go_enter Tryz.func28, Tryz.ntmps28
        go_upto_region 1 with fail
        rw [HB0.out]
        rw [show w.alloc (.cells #[.int .i64 0, .int .i64 0, .int .i64 0, .int .u8 0, .int .i64 0, .int .i64 0, .int .i64 0, .int .i64 0, .int .i64 0, .int .i64 0, .string ⟨#[]⟩, .slice none 0 0, .slice none 0 0, .slice none 0 0, .slice none 0 0, .slice none 0 0] 37) = W0 from HW0.out]
        go_wp2_with fail
        refine (HCA.out _).mono ?_
        rintro e w1 ⟨rfl, hw1⟩
        obtain rfl := hw1.symm
        go_upto_region 4 with fail
        go_quiet ((go_at_call 55; exact Calls.quiet_of_same (HCC.out _)))
        have HTH := hide (there_kept HTH0.out (onlyN W0 nq) (fun h => h))
        go_upto_region 8 with fail
        go_wp2_with (refine wpList_build_rec rfl rfl ?_; go_frame; refine wpList_put_rec rfl (.tmp 2) (.tmp 33) rfl b0 rfl Rc.none Loc.none rfl HTH.out ?_; intro W9 HW9; go_frame)
        refine bodyPost_ret (results_rec3 rfl rfl HW9.out.load) rfl ?_
        exact ⟨⟨Rc.none, 0, _, Loc.none, HD.out, none_at _, rfl⟩, (o2 HO0.out (onlyN W0 nq)).trans HW9.out.only (fun i hi e => by omega)⟩
      · have hc' : ¬ (R.size : Int) < (n : Int) := by omega
        have hcc : (n : Int) ≤ (R.size : Int) := by omega
        have HNC : Hid (¬ ((bl S).length : Int) - 8 < ofTo ((bl S).take 4)) := by unfold Hid; rw [HN.out, HLEN.out]; have := HSR.out; omega
        obtain ⟨D, hD⟩ : ∃ D, R.extract 0 n = D := ⟨_, rfl⟩
        have bD : bl D = ((bl S).drop 8).take n := by rw [← hD, ext_bl, List.drop_zero, HBR.out]
        have sD : D.size ≤ 65535 := by rw [← bl_len, bD, List.length_take]; omega
        have HBD : Hid (bl D = ((bl S).drop 8).take (ofTo ((bl S).take 4)).toNat) := by unfold Hid; rw [HN.out, Int.toNat_natCast]; exact bD
        obtain ⟨z, hzz⟩ : ∃ z, sum D.data.toList = z := ⟨_, rfl⟩
        have hzb := sum_bd D.data.toList
        have cS := fun W => sum_any D W (by unfold maxLen; omega)
        rw [hzz] at hzb
        simp only [hzz] at cS
        have HCS := hide cS
        have HZZ : Hid (sum (bl D) = z) := hzz
        have hz0 := hzb.1
        have hz9 := hzb.2
        clear bD hc cS hzz hzb
        by_cases hs : z = (m : Int)
        · have hs' : (z != (m : Int)) = false := by simpa using hs
          have HSE : Hid (sum (((bl S).drop 8).take (ofTo ((bl S).take 4)).toNat) = ofTo (((bl S).drop 4).take 4)) := by unfold Hid; rw [← HBD.out, HZZ.out, HM.out]; exact hs
          clear hs
          go_enter Tryz.func28, Tryz.ntmps28
          go_upto_region 1 with fail
          rw [HB0.out]
          rw [show w.alloc (.cells #[.int .i64 0, .int .i64 0, .int .i64 0, .int .u8 0, .int .i64 0, .int .i64 0, .int .i64 0, .int .i64 0, .int .i64 0, .int .i64 0, .string ⟨#[]⟩, .slice none 0 0, .slice none 0 0, .slice none 0 0, .slice none 0 0, .slice none 0 0] 37) = W0 from HW0.out]
          go_wp2_with fail
          refine (HCA.out _).mono ?_
          rintro e w1 ⟨rfl, hw1⟩
          obtain rfl := hw1.symm
          go_upto_region 4 with fail
          go_quiet ((go_at_call 55; exact Calls.quiet_of_same (HCC.out _)))
          have HTH := hide (there_kept HTH0.out (onlyN W0 nq) (fun h => h))
          have HO1 := hide (o2 HO0.out (onlyN W0 nq))
          go_wp2_with fail
          refine (HCS.out _).mono ?_
          rintro e w1 ⟨rfl, hw1⟩
          obtain rfl := hw1.symm
          go_wp2_with fail
          refine (rparts_any _ D).mono ?_
          rintro e w2 hq
          obtain ⟨q, st, hst, hls, hx⟩ := hq.ex
          have HST := hide hst
          have HLS := hide hls
          have HO2 := hide (o2 HO1.out hq.only)
          have HTH2 := hide (there_kept HTH.out hq.only (fun h => h))
          have HO2W := hide hq.only.size
          have HNEW := hide (there_new w2 Rc.none Loc.none)
          have HOA := hide (onlyA w2 (.cells (Rc.none.cells Loc.none) 37))
          clear hq hst hls
          rcases hx with ⟨h1, h2, h3, L, hat, rfl⟩ | ⟨hbad, rfl⟩
          · have HX := hide h1
            have HV := hide h2
            have HY := hide h3
            have HAT := hide hat
            clear h1 h2 h3 hat
            have hb2 : b0 < w2.heap.size := by have h1 := HB0.out; have h2 := HO0.out.size; have h3 := HW0.out; have h4 : W0.heap.size = w.heap.size + 1 := by { rw [← h3]; simp }; have h5 := (onlyN W0 nq).size; have h6 := HO2W.out; omega
            go_upto_region 14 with (refine wpList_lay_rec rfl (.tmp 8) (.tmp 47) rfl w2.heap.size rfl q L rfl HNEW.out ?_; intro W3 HW3; go_frame)
            have HT3 := hide (there_kept (there_kept HTH2.out HOA.out (fun h => h)) HW3.out.only (by omega))
            have hn8 : (8 : Int) + (n : Int) ≤ 9223372036854775807 := by omega
            go_wp2_with (first
              | (refine wpList_load_rec rfl (.tmp 8) rfl w2.heap.size rfl q L HW3.out.range ?_; go_frame)
              | (refine wpList_put_rec rfl (.tmp 2) (.tmp 52) rfl b0 rfl q L rfl HT3.out ?_; intro W9 HW9; go_frame))
            refine bodyPost_ret (results_rec3 rfl rfl HW9.out.load) rfl ?_
            have hz0 := HB0.out
            refine ⟨⟨q, _, 0, L, di_rest HL8.out HNZ.out (by have := HNC.out; omega) HSE.out ⟨q, st, by rw [← HBD.out]; exact HST.out, HLS.out, .inl ⟨HX.out, HV.out, by rw [← HBD.out]; exact HY.out, rfl, rfl, rfl⟩⟩, HAT.out _ ?_, ?_⟩, ?_⟩
            · have k4 : W0.heap.size = w.heap.size + 1 := by rw [← HW0.out]; simp
              have k5 := (onlyN W0 nq).size
              exact ((HOA.out.mono (fun _ _ h => h.elim)).trans HW3.out.only (fun i hi e => by omega)).trans HW9.out.only (fun i hi e => by omega)
            · rw [HN.out]; rfl
            · exact ((o2 HO2.out HOA.out).trans HW3.out.only (fun i hi e => by omega)).trans HW9.out.only (fun i hi e => by omega)
          · have HX := hide hbad
            clear hbad
            go_upto_region 12 with (refine wpList_lay_rec rfl (.tmp 8) (.tmp 47) rfl w2.heap.size rfl Rc.none Loc.none rfl HNEW.out ?_; intro W3 HW3; go_frame)
            have hb2 : b0 < w2.heap.size := by have h1 := HB0.out; have h2 := HO0.out.size; have h3 := HW0.out; have h4 : W0.heap.size = w.heap.size + 1 := by { rw [← h3]; simp }; have h5 := (onlyN W0 nq).size; have h6 := HO2W.out; omega
            have HTH := hide (there_kept (there_kept HTH2.out HOA.out (fun h => h)) HW3.out.only (by omega))
            have HO3 := hide ((o2 HO2.out HOA.out).trans HW3.out.only (fun i hi e => by omega))
            go_upto_region 13 with fail
            go_wp2_with (refine wpList_build_rec rfl rfl ?_; go_frame; refine wpList_put_rec rfl (.tmp 2) (.tmp 51) rfl b0 rfl Rc.none Loc.none rfl HTH.out ?_; intro W9 HW9; go_frame)
            refine bodyPost_ret (results_rec3 rfl rfl HW9.out.load) rfl ?_
            exact ⟨⟨Rc.none, 0, 41, Loc.none, di_rest HL8.out HNZ.out (by have := HNC.out; omega) HSE.out ⟨q, st, by rw [← HBD.out]; exact HST.out, HLS.out, .inr ⟨by rw [← HBD.out]; exact HX.out, rfl, rfl, rfl⟩⟩, none_at _, rfl⟩, HO3.out.trans HW9.out.only (fun i hi e => by omega)⟩
        · have hs' : (z != (m : Int)) = true := by simpa using hs
          have HD : Hid (DecIs (bl S) .none 0 30) := di_sum HL8.out HNZ.out HNC.out (by rw [← HBD.out, HZZ.out, HM.out]; exact hs)
          clear hs
          go_enter Tryz.func28, Tryz.ntmps28
          go_upto_region 1 with fail
          rw [HB0.out]
          rw [show w.alloc (.cells #[.int .i64 0, .int .i64 0, .int .i64 0, .int .u8 0, .int .i64 0, .int .i64 0, .int .i64 0, .int .i64 0, .int .i64 0, .int .i64 0, .string ⟨#[]⟩, .slice none 0 0, .slice none 0 0, .slice none 0 0, .slice none 0 0, .slice none 0 0] 37) = W0 from HW0.out]
          go_wp2_with fail
          refine (HCA.out _).mono ?_
          rintro e w1 ⟨rfl, hw1⟩
          obtain rfl := hw1.symm
          go_upto_region 4 with fail
          go_quiet ((go_at_call 55; exact Calls.quiet_of_same (HCC.out _)))
          have HTH := hide (there_kept HTH0.out (onlyN W0 nq) (fun h => h))
          have HO1 := hide (o2 HO0.out (onlyN W0 nq))
          go_wp2_with fail
          refine (HCS.out _).mono ?_
          rintro e w1 ⟨rfl, hw1⟩
          obtain rfl := hw1.symm
          go_upto_region 10 with fail
          go_wp2_with (refine wpList_build_rec rfl rfl ?_; go_frame; refine wpList_put_rec rfl (.tmp 2) (.tmp 41) rfl b0 rfl Rc.none Loc.none rfl HTH.out ?_; intro W9 HW9; go_frame)
          refine bodyPost_ret (results_rec3 rfl rfl HW9.out.load) rfl ?_
          exact ⟨⟨Rc.none, 0, _, Loc.none, HD.out, none_at _, rfl⟩, HO1.out.trans HW9.out.only (fun i hi e => by omega)⟩
end Go.Proofs.YtcbdpdkmkncffaaGreatDoor
