/- What awake does: the chapter's example. -/
import Derived.Test.YtmhjmnmhbndlcaaGreatDoorRPt
import Derived.Test.YtmhjmnmhbndlcaaGreatDoorRSame
import Derived.Deep.RegionHeld3
namespace Go.Proofs.YtmhjmnmhbndlcaaGreatDoor
open Go.RowKit

theorem there_kept {S : Nat → Prop} {w w' : World} {b : Nat} (h : w.there b 0 16) (ho : Only S w w') (hS : ¬ S b) : w'.there b 0 16 := fun j hj => by
  obtain ⟨h1, h2⟩ := h j hj
  obtain ⟨u, hu⟩ := Option.isSome_iff_exists.1 h1
  have hb := World.block_lt_of_cell? w _ hu
  exact ⟨by rw [ho.cell (p := ⟨b, 0 + j, none⟩) hb hS]; exact h1, by rw [ho.frozen (p := ⟨b, 0 + j, none⟩) hb hS]; exact h2⟩
theorem range_set (w : World) (b : Nat) (r : Rc) (L : Loc) (ht : w.there b 0 16) : (w.setCells b 0 (r.cl L)).rangeAt b 0 (r.cl L) := World.rangeAt_setCells_same w b 0 (r.cl L) ht
/-- A record was stored into block b; its cells. -/
structure Stor2 (w W : World) (b : Nat) (r : Rc) (L : Loc) : Prop where
  only : Only (fun k => k = b) w W
  range : W.rangeAt b 0 (r.cl L)
section
variable {ops : Array Oper} {rest : List Oper} {o : Oper} {a : Act} {w : World} {Q : Exit → Act → World → Prop}
theorem wpList_lay_rec (hg : o.guard = none) (x y : Operand) (hop : o.op = .store 28 x y) (b : Nat) (hx : a.eval x = .pointer (some ⟨b, 0, none⟩)) (r : Rc) (L : Loc) (hy : a.eval y = .agg (r.cells L)) (hc : w.there b 0 16)
    (h : ∀ W, Hid (Stor2 w W b r L) → wpList Tryz.prog ops Q rest (a.put o.dst undef) W) : wpList Tryz.prog ops Q (o :: rest) a w :=
  wpList_store_rec hg x y hop b hx r L hy hc (h _ ⟨only_setCells b (r.cl L) 0 w, range_set w b r L hc⟩)
end
theorem none_at (w : World) : RcAt w Rc.none Loc.none :=
  ⟨Zs.nil _ _ _, Zs.nil _ _ _, ⟨fun _ => True, Ims.nil _ _ _ _⟩, Prs.nil _ _ _, Prs.nil _ _ _, ⟨fun _ => rfl, Nat.le_refl _, Nat.zero_le _⟩, ⟨fun _ => rfl, Nat.le_refl _, Nat.zero_le _⟩, Nat.zero_le _, ⟨by decide, by decide⟩⟩

theorem results_rec3 {fn : Func} {p u u' : Tmp} (h : fn.results = #[.cell p 28, .tmp u, .tmp u']) {tmps : Array Value} {w : World} {b : Nat} {v : Value} (hp : tmps.getD p undef = .pointer (some ⟨b, 0, none⟩)) (hP : (loadVar 28 ⟨b, 0, none⟩).run Tryz.prog w = .ok v w) :
    (results fn tmps).run Tryz.prog w = .ok (.tuple #[v, tmps.getD u undef, tmps.getD u' undef]) w := by
  have e : (asAddr (tmps.getD p undef)).run Tryz.prog w = .ok ⟨b, 0, none⟩ w := by rw [hp]; rfl
  have key : (results fn tmps).run Tryz.prog w = ((asAddr (tmps.getD p undef)).run Tryz.prog w).andThen fun a w₁ => ((loadVar 28 a).run Tryz.prog w₁).andThen fun v w₂ => .ok (.tuple #[v, tmps.getD u undef, tmps.getD u' undef]) w₂ := by
    simp only [results, h]
    simp [Sem.run_bind, Result.andThen]
  rw [key, e]
  simp only [Result.andThen, hP]
/-- What Decode answers. -/
structure DcQ (w w' : World) (e : Ending) (l : List UInt8) : Prop where
  ex : ∃ (r : Rc) (n c : Int) (L : Loc), DecIs l r n c ∧ RcAt w' r L ∧ e = .returned (.tuple #[.agg (r.cells L), .int .i64 n, .int .i64 c])
  only : Only (fun _ => False) w w'
theorem di_short {l : List UInt8} (h : l.length < 8) : DecIs l .none 0 40 := ⟨fun _ => ⟨rfl, rfl, rfl⟩, fun h' => absurd h' (by omega), fun h' => absurd h' (by omega), fun h' => absurd h' (by omega), fun h' => absurd h' (by omega)⟩
theorem di_zero {l : List UInt8} (h : 8 ≤ l.length) (hz : ofTo (l.take 4) = 0 ∨ 65535 < ofTo (l.take 4)) : DecIs l .none 0 41 := ⟨fun h' => absurd h' (by omega), fun _ _ => ⟨rfl, rfl, rfl⟩, fun _ h' => absurd hz h', fun _ h' => absurd hz h', fun _ h' => absurd hz h'⟩
theorem di_cut {l : List UInt8} (h : 8 ≤ l.length) (hz : ¬ (ofTo (l.take 4) = 0 ∨ 65535 < ofTo (l.take 4))) (hc : (l.length : Int) - 8 < ofTo (l.take 4)) : DecIs l .none 0 40 := ⟨fun h' => absurd h' (by omega), fun _ h' => absurd h' hz, fun _ _ _ => ⟨rfl, rfl, rfl⟩, fun _ _ h' => absurd hc h', fun _ _ h' => absurd hc h'⟩
theorem di_sum {l : List UInt8} (h : 8 ≤ l.length) (hz : ¬ (ofTo (l.take 4) = 0 ∨ 65535 < ofTo (l.take 4))) (hc : ¬ (l.length : Int) - 8 < ofTo (l.take 4)) (hs : sum ((l.drop 8).take (ofTo (l.take 4)).toNat) ≠ ofTo ((l.drop 4).take 4)) : DecIs l .none 0 30 := ⟨fun h' => absurd h' (by omega), fun _ h' => absurd h' hz, fun _ _ h' => absurd h' hc, fun _ _ _ _ => ⟨rfl, rfl, rfl⟩, fun _ _ _ h' => absurd h' hs⟩
theorem di_rest {l : List UInt8} {r : Rc} {n c : Int} (h : 8 ≤ l.length) (hz : ¬ (ofTo (l.take 4) = 0 ∨ 65535 < ofTo (l.take 4))) (hc : ¬ (l.length : Int) - 8 < ofTo (l.take 4)) (hs : sum ((l.drop 8).take (ofTo (l.take 4)).toNat) = ofTo ((l.drop 4).take 4))
    (hx : ∃ q e, Steps ((l.drop 8).take (ofTo (l.take 4)).toNat) q e ∧ (∀ i ∈ q.images, i.body.lsn < 9223372036854775808) ∧ ((e = ([], 0) ∧ q.valid ∧ q.lay = (l.drop 8).take (ofTo (l.take 4)).toNat ∧ r = q ∧ n = 8 + ofTo (l.take 4) ∧ c = 0) ∨ (¬ (e = ([], 0) ∧ q.valid ∧ q.lay = (l.drop 8).take (ofTo (l.take 4)).toNat) ∧ r = .none ∧ n = 0 ∧ c = 41))) : DecIs l r n c :=
  ⟨fun h' => absurd h' (by omega), fun _ h' => absurd h' hz, fun _ _ h' => absurd h' hc, fun _ _ _ h' => absurd hs h', fun _ _ _ _ => hx⟩
set_option maxRecDepth 100000 in
set_option maxHeartbeats 3200000 in
theorem rdecode_any (w : World) (S : ByteArray) (hS : S.size ≤ maxLen) : Calls Tryz.prog 12 #[.string S] w fun e w' => DcQ w w' e (bl S) := by
  unfold maxLen at hS
  have hlen : (bl S).length = S.size := bl_len S
  have HTH0 := hide (there_new w Rc.none Loc.none)
  have HO0 := hide (onlyA w (.cells (Rc.none.cells Loc.none) 28))
  obtain ⟨b0, hb0⟩ : ∃ b0, w.heap.size = b0 := ⟨_, rfl⟩
  rw [hb0] at HTH0
  have hb0' : w.heap.size ≤ b0 := by omega
  have hb0'' : b0 ≤ w.heap.size := by omega
  obtain ⟨W0, hW0⟩ : ∃ W0, w.alloc (.cells (Rc.none.cells Loc.none) 28) = W0 := ⟨_, rfl⟩
  rw [hW0] at HTH0 HO0
  have HW0 := hide hW0
  have HB0 := hide hb0
  clear hW0 hb0
  by_cases h8 : S.size < 8
  · have h8' : (S.size : Int) < 8 := by omega
    have HD : Hid (DecIs (bl S) .none 0 40) := di_short (by omega)
    have HTH := HTH0
    clear h8
    go_enter Tryz.func12, Tryz.ntmps12
    go_upto_region 1 with fail
    rw [HB0.out]
    rw [show w.alloc (.cells #[.int .i64 0, .int .i64 0, .int .i64 0, .int .u8 0, .int .i64 0, .int .i64 0, .int .i64 0, .int .i64 0, .int .i64 0, .int .i64 0, .string ⟨#[]⟩, .slice none 0 0, .slice none 0 0, .slice none 0 0, .slice none 0 0, .slice none 0 0] 28) = W0 from HW0.out]
    go_upto_region 2 with fail
    go_wp2_with (refine wpList_build_rec rfl rfl ?_; go_frame; refine wpList_put_rec rfl (.tmp 2) (.tmp 13) rfl b0 rfl Rc.none Loc.none rfl HTH.out ?_; intro W9 HW9; go_frame)
    refine bodyPost_ret (results_rec3 rfl rfl HW9.out.load) rfl ?_
    exact ⟨⟨Rc.none, 0, _, Loc.none, HD.out, none_at _, rfl⟩, HO0.out.trans HW9.out.only (fun i hi e => by omega)⟩
  · have h8' : ¬ (S.size : Int) < 8 := by omega
    have h4 : (4 : Int) ≤ (S.size : Int) := by omega
    have h8b : (8 : Int) ≤ (S.size : Int) := by omega
    obtain ⟨A, hA⟩ : ∃ A, S.extract 0 4 = A := ⟨_, rfl⟩
    obtain ⟨C, hC⟩ : ∃ C, S.extract 4 8 = C := ⟨_, rfl⟩
    obtain ⟨R, hR⟩ : ∃ R, S.extract 8 S.size = R := ⟨_, rfl⟩
    have bA : bl A = (bl S).take 4 := by rw [← hA, ext_bl, List.drop_zero]
    have bC : bl C = ((bl S).drop 4).take 4 := by rw [← hC, ext_bl, List.drop_take]
    have bR : bl R = (bl S).drop 8 := by rw [← hR, ext_bl, List.take_of_length_le (by rw [bl_len]; exact Nat.le_refl _)]
    have sA : A.size = 4 := by rw [← bl_len, bA, List.length_take]; omega
    have sC : C.size = 4 := by rw [← bl_len, bC, List.length_take, List.length_drop]; omega
    have sR : R.size = S.size - 8 := by rw [← bl_len, bR, List.length_drop]; omega
    have oA := ofTo_small (bl A) (by rw [bl_len]; omega)
    have oC := ofTo_small (bl C) (by rw [bl_len]; omega)
    rw [bl_len, sA] at oA
    rw [bl_len, sC] at oC
    have p4 : (256 : Int) ^ 4 = 4294967296 := by decide
    rw [p4] at oA oC
    have cA := fun W => of_any A W (by unfold maxLen; omega)
    have cC := fun W => of_any C W (by unfold maxLen; omega)
    obtain ⟨n, hn⟩ := Int.eq_ofNat_of_zero_le oA.1
    obtain ⟨m, hm⟩ := Int.eq_ofNat_of_zero_le oC.1
    have eA : ofTo A.data.toList % 9223372036854775808 = (n : Int) := by show ofTo (bl A) % _ = _; omega
    have eC : ofTo C.data.toList % 9223372036854775808 = (m : Int) := by show ofTo (bl C) % _ = _; omega
    simp only [eA] at cA
    simp only [eC] at cC
    have HCA := hide cA
    have HCC := hide cC
    rw [bA] at hn
    rw [bC] at hm
    have HN := hide hn
    have HM := hide hm
    have HBR := hide bR
    have HSR := hide sR
    have hRb : R.size ≤ 9223372036854775807 := by omega
    have HL8 : Hid (8 ≤ (bl S).length) := by unfold Hid; omega
    have HLEN := hide hlen
    clear cA cC eA eC hn hm bA bC bR sA sC sR oA oC p4 h8 hlen
    by_cases hz : n = 0 ∨ 65535 < n
    · have HD : Hid (DecIs (bl S) .none 0 41) := di_zero HL8.out (by rw [HN.out]; omega)
      by_cases hz0 : n = 0
      · subst hz0
        clear hz
        go_enter Tryz.func12, Tryz.ntmps12
        go_upto_region 1 with fail
        rw [HB0.out]
        rw [show w.alloc (.cells #[.int .i64 0, .int .i64 0, .int .i64 0, .int .u8 0, .int .i64 0, .int .i64 0, .int .i64 0, .int .i64 0, .int .i64 0, .int .i64 0, .string ⟨#[]⟩, .slice none 0 0, .slice none 0 0, .slice none 0 0, .slice none 0 0, .slice none 0 0] 28) = W0 from HW0.out]
        go_wp2_with fail
        refine (HCA.out _).mono ?_
        rintro e w1 ⟨rfl, hw1⟩
        obtain rfl := hw1.symm
        go_upto_region 4 with fail
        go_quiet ((go_at_call 30; exact Calls.quiet_of_same (HCC.out _)))
        have HTH := hide (there_kept HTH0.out (onlyN W0 nq) (fun h => h))
        go_upto_region 6 with fail
        go_wp2_with (refine wpList_build_rec rfl rfl ?_; go_frame; refine wpList_put_rec rfl (.tmp 2) (.tmp 28) rfl b0 rfl Rc.none Loc.none rfl HTH.out ?_; intro W9 HW9; go_frame)
        refine bodyPost_ret (results_rec3 rfl rfl HW9.out.load) rfl ?_
        exact ⟨⟨Rc.none, 0, _, Loc.none, HD.out, none_at _, rfl⟩, (o2 HO0.out (onlyN W0 nq)).trans HW9.out.only (fun i hi e => by omega)⟩
      · have hz1 : (65535 : Int) < (n : Int) := by omega
        have hz2 : ((n : Int) == 0) = false := by simp; omega
        clear hz hz0
        go_enter Tryz.func12, Tryz.ntmps12
        go_upto_region 1 with fail
        rw [HB0.out]
        rw [show w.alloc (.cells #[.int .i64 0, .int .i64 0, .int .i64 0, .int .u8 0, .int .i64 0, .int .i64 0, .int .i64 0, .int .i64 0, .int .i64 0, .int .i64 0, .string ⟨#[]⟩, .slice none 0 0, .slice none 0 0, .slice none 0 0, .slice none 0 0, .slice none 0 0] 28) = W0 from HW0.out]
        go_wp2_with fail
        refine (HCA.out _).mono ?_
        rintro e w1 ⟨rfl, hw1⟩
        obtain rfl := hw1.symm
        go_upto_region 4 with fail
        go_quiet ((go_at_call 30; exact Calls.quiet_of_same (HCC.out _)))
        have HTH := hide (there_kept HTH0.out (onlyN W0 nq) (fun h => h))
        go_upto_region 6 with fail
        go_wp2_with (refine wpList_build_rec rfl rfl ?_; go_frame; refine wpList_put_rec rfl (.tmp 2) (.tmp 28) rfl b0 rfl Rc.none Loc.none rfl HTH.out ?_; intro W9 HW9; go_frame)
        refine bodyPost_ret (results_rec3 rfl rfl HW9.out.load) rfl ?_
        exact ⟨⟨Rc.none, 0, _, Loc.none, HD.out, none_at _, rfl⟩, (o2 HO0.out (onlyN W0 nq)).trans HW9.out.only (fun i hi e => by omega)⟩
    · have HNZ : Hid (¬ (ofTo ((bl S).take 4) = 0 ∨ 65535 < ofTo ((bl S).take 4))) := by unfold Hid; rw [HN.out]; omega
      have hz2 : ((n : Int) == 0) = false := by simp; omega
      have hz1 : ¬ (65535 : Int) < (n : Int) := by omega
      have hn1 : n ≤ 65535 := by omega
      clear hz
      by_cases hc : R.size < n
      · have hc' : (R.size : Int) < (n : Int) := by omega
        have HD : Hid (DecIs (bl S) .none 0 40) := di_cut HL8.out HNZ.out (by rw [HN.out, HLEN.out]; have := HSR.out; omega)
        clear hc
        go_enter Tryz.func12, Tryz.ntmps12
        go_upto_region 1 with fail
        rw [HB0.out]
        rw [show w.alloc (.cells #[.int .i64 0, .int .i64 0, .int .i64 0, .int .u8 0, .int .i64 0, .int .i64 0, .int .i64 0, .int .i64 0, .int .i64 0, .int .i64 0, .string ⟨#[]⟩, .slice none 0 0, .slice none 0 0, .slice none 0 0, .slice none 0 0, .slice none 0 0] 28) = W0 from HW0.out]
        go_wp2_with fail
        refine (HCA.out _).mono ?_
        rintro e w1 ⟨rfl, hw1⟩
        obtain rfl := hw1.symm
        go_upto_region 4 with fail
        go_quiet ((go_at_call 30; exact Calls.quiet_of_same (HCC.out _)))
        have HTH := hide (there_kept HTH0.out (onlyN W0 nq) (fun h => h))
        go_upto_region 8 with fail
        go_wp2_with (refine wpList_build_rec rfl rfl ?_; go_frame; refine wpList_put_rec rfl (.tmp 2) (.tmp 33) rfl b0 rfl Rc.none Loc.none rfl HTH.out ?_; intro W9 HW9; go_frame)
        refine bodyPost_ret (results_rec3 rfl rfl HW9.out.load) rfl ?_
        exact ⟨⟨Rc.none, 0, _, Loc.none, HD.out, none_at _, rfl⟩, (o2 HO0.out (onlyN W0 nq)).trans HW9.out.only (fun i hi e => by omega)⟩
      · have hc' : ¬ (R.size : Int) < (n : Int) := by omega
        have hcc : (n : Int) ≤ (R.size : Int) := by omega
        have HNC : Hid (¬ ((bl S).length : Int) - 8 < ofTo ((bl S).take 4)) := by unfold Hid; rw [HN.out, HLEN.out]; have := HSR.out; omega
        obtain ⟨D, hD⟩ : ∃ D, R.extract 0 n = D := ⟨_, rfl⟩
        have bD : bl D = ((bl S).drop 8).take n := by rw [← hD, ext_bl, List.drop_zero, HBR.out]
        have sD : D.size ≤ 65535 := by rw [← bl_len, bD, List.length_take]; omega
        have HBD : Hid (bl D = ((bl S).drop 8).take (ofTo ((bl S).take 4)).toNat) := by unfold Hid; rw [HN.out, Int.toNat_natCast]; exact bD
        obtain ⟨z, hzz⟩ : ∃ z, sum D.data.toList = z := ⟨_, rfl⟩
        have hzb := sum_bd D.data.toList
        have cS := fun W => sum_any D W (by unfold maxLen; omega)
        rw [hzz] at hzb
        simp only [hzz] at cS
        have HCS := hide cS
        have HZZ : Hid (sum (bl D) = z) := hzz
        have hz0 := hzb.1
        have hz9 := hzb.2
        clear bD hc cS hzz hzb
        by_cases hs : z = (m : Int)
        · have hs' : (z != (m : Int)) = false := by simpa using hs
          have HSE : Hid (sum (((bl S).drop 8).take (ofTo ((bl S).take 4)).toNat) = ofTo (((bl S).drop 4).take 4)) := by unfold Hid; rw [← HBD.out, HZZ.out, HM.out]; exact hs
          clear hs
          go_enter Tryz.func12, Tryz.ntmps12
          go_upto_region 1 with fail
          rw [HB0.out]
          rw [show w.alloc (.cells #[.int .i64 0, .int .i64 0, .int .i64 0, .int .u8 0, .int .i64 0, .int .i64 0, .int .i64 0, .int .i64 0, .int .i64 0, .int .i64 0, .string ⟨#[]⟩, .slice none 0 0, .slice none 0 0, .slice none 0 0, .slice none 0 0, .slice none 0 0] 28) = W0 from HW0.out]
          go_wp2_with fail
          refine (HCA.out _).mono ?_
          rintro e w1 ⟨rfl, hw1⟩
          obtain rfl := hw1.symm
          go_upto_region 4 with fail
          go_quiet ((go_at_call 30; exact Calls.quiet_of_same (HCC.out _)))
          have HTH := hide (there_kept HTH0.out (onlyN W0 nq) (fun h => h))
          have HO1 := hide (o2 HO0.out (onlyN W0 nq))
          go_wp2_with fail
          refine (HCS.out _).mono ?_
          rintro e w1 ⟨rfl, hw1⟩
          obtain rfl := hw1.symm
          go_wp2_with fail
          refine (rparts_any _ D).mono ?_
          rintro e w2 hq
          obtain ⟨q, st, hst, hls, hx⟩ := hq.ex
          have HST := hide hst
          have HLS := hide hls
          have HO2 := hide (o2 HO1.out hq.only)
          have HTH2 := hide (there_kept HTH.out hq.only (fun h => h))
          have HO2W := hide hq.only.size
          have HNEW := hide (there_new w2 Rc.none Loc.none)
          have HOA := hide (onlyA w2 (.cells (Rc.none.cells Loc.none) 28))
          clear hq hst hls
          rcases hx with ⟨h1, h2, h3, L, hat, rfl⟩ | ⟨hbad, rfl⟩
          · have HX := hide h1
            have HV := hide h2
            have HY := hide h3
            have HAT := hide hat
            clear h1 h2 h3 hat
            have hb2 : b0 < w2.heap.size := by have h1 := HB0.out; have h2 := HO0.out.size; have h3 := HW0.out; have h4 : W0.heap.size = w.heap.size + 1 := by { rw [← h3]; simp }; have h5 := (onlyN W0 nq).size; have h6 := HO2W.out; omega
            go_upto_region 14 with (refine wpList_lay_rec rfl (.tmp 8) (.tmp 47) rfl w2.heap.size rfl q L rfl HNEW.out ?_; intro W3 HW3; go_frame)
            have HT3 := hide (there_kept (there_kept HTH2.out HOA.out (fun h => h)) HW3.out.only (by omega))
            have hn8 : (8 : Int) + (n : Int) ≤ 9223372036854775807 := by omega
            go_wp2_with (first
              | (refine wpList_load_rec rfl (.tmp 8) rfl w2.heap.size rfl q L HW3.out.range ?_; go_frame)
              | (refine wpList_put_rec rfl (.tmp 2) (.tmp 52) rfl b0 rfl q L rfl HT3.out ?_; intro W9 HW9; go_frame))
            refine bodyPost_ret (results_rec3 rfl rfl HW9.out.load) rfl ?_
            have hz0 := HB0.out
            refine ⟨⟨q, _, 0, L, di_rest HL8.out HNZ.out (by have := HNC.out; omega) HSE.out ⟨q, st, by rw [← HBD.out]; exact HST.out, HLS.out, .inl ⟨HX.out, HV.out, by rw [← HBD.out]; exact HY.out, rfl, rfl, rfl⟩⟩, HAT.out _ ?_, ?_⟩, ?_⟩
            · have k4 : W0.heap.size = w.heap.size + 1 := by rw [← HW0.out]; simp
              have k5 := (onlyN W0 nq).size
              exact ((HOA.out.mono (fun _ _ h => h.elim)).trans HW3.out.only (fun i hi e => by omega)).trans HW9.out.only (fun i hi e => by omega)
            · rw [HN.out]; rfl
            · exact ((o2 HO2.out HOA.out).trans HW3.out.only (fun i hi e => by omega)).trans HW9.out.only (fun i hi e => by omega)
          · have HX := hide hbad
            clear hbad
            go_upto_region 12 with (refine wpList_lay_rec rfl (.tmp 8) (.tmp 47) rfl w2.heap.size rfl Rc.none Loc.none rfl HNEW.out ?_; intro W3 HW3; go_frame)
            have hb2 : b0 < w2.heap.size := by have h1 := HB0.out; have h2 := HO0.out.size; have h3 := HW0.out; have h4 : W0.heap.size = w.heap.size + 1 := by { rw [← h3]; simp }; have h5 := (onlyN W0 nq).size; have h6 := HO2W.out; omega
            have HTH := hide (there_kept (there_kept HTH2.out HOA.out (fun h => h)) HW3.out.only (by omega))
            have HO3 := hide ((o2 HO2.out HOA.out).trans HW3.out.only (fun i hi e => by omega))
            go_upto_region 13 with fail
            go_wp2_with (refine wpList_build_rec rfl rfl ?_; go_frame; refine wpList_put_rec rfl (.tmp 2) (.tmp 51) rfl b0 rfl Rc.none Loc.none rfl HTH.out ?_; intro W9 HW9; go_frame)
            refine bodyPost_ret (results_rec3 rfl rfl HW9.out.load) rfl ?_
            exact ⟨⟨Rc.none, 0, 41, Loc.none, di_rest HL8.out HNZ.out (by have := HNC.out; omega) HSE.out ⟨q, st, by rw [← HBD.out]; exact HST.out, HLS.out, .inr ⟨by rw [← HBD.out]; exact HX.out, rfl, rfl, rfl⟩⟩, none_at _, rfl⟩, HO3.out.trans HW9.out.only (fun i hi e => by omega)⟩
        · have hs' : (z != (m : Int)) = true := by simpa using hs
          have HD : Hid (DecIs (bl S) .none 0 30) := di_sum HL8.out HNZ.out HNC.out (by rw [← HBD.out, HZZ.out, HM.out]; exact hs)
          clear hs
          go_enter Tryz.func12, Tryz.ntmps12
          go_upto_region 1 with fail
          rw [HB0.out]
          rw [show w.alloc (.cells #[.int .i64 0, .int .i64 0, .int .i64 0, .int .u8 0, .int .i64 0, .int .i64 0, .int .i64 0, .int .i64 0, .int .i64 0, .int .i64 0, .string ⟨#[]⟩, .slice none 0 0, .slice none 0 0, .slice none 0 0, .slice none 0 0, .slice none 0 0] 28) = W0 from HW0.out]
          go_wp2_with fail
          refine (HCA.out _).mono ?_
          rintro e w1 ⟨rfl, hw1⟩
          obtain rfl := hw1.symm
          go_upto_region 4 with fail
          go_quiet ((go_at_call 30; exact Calls.quiet_of_same (HCC.out _)))
          have HTH := hide (there_kept HTH0.out (onlyN W0 nq) (fun h => h))
          have HO1 := hide (o2 HO0.out (onlyN W0 nq))
          go_wp2_with fail
          refine (HCS.out _).mono ?_
          rintro e w1 ⟨rfl, hw1⟩
          obtain rfl := hw1.symm
          go_upto_region 10 with fail
          go_wp2_with (refine wpList_build_rec rfl rfl ?_; go_frame; refine wpList_put_rec rfl (.tmp 2) (.tmp 41) rfl b0 rfl Rc.none Loc.none rfl HTH.out ?_; intro W9 HW9; go_frame)
          refine bodyPost_ret (results_rec3 rfl rfl HW9.out.load) rfl ?_
          exact ⟨⟨Rc.none, 0, _, Loc.none, HD.out, none_at _, rfl⟩, HO1.out.trans HW9.out.only (fun i hi e => by omega)⟩
end Go.Proofs.YtmhjmnmhbndlcaaGreatDoor

namespace Go.Proofs.YtmhjmnmhbndlcaaGreatDoor
open Go.RowKit

/-- The chapter's record. -/
def sm : Rc := ⟨1, 0, 0, 8, 0, 1, 0, 0, 0, 0, ⟨#[]⟩, [], [], [], [], []⟩
theorem sm_lay : sm.lay = [1, 0, 0, 8, 0, 1, 0, 0, 0, 0, 0, 0, 0, 0, 0, 0] := by decide +kernel
theorem sm_valid : sm.valid :=
  ⟨by decide, by decide, ⟨by decide, by decide, (fun n h => by cases h), (fun n h => by cases h), (fun n h => by cases h), (fun n h => by cases h), (fun n h => by cases h)⟩, ⟨by decide, by decide, by decide, by decide, by decide, by decide⟩, rfl, by rw [sm_lay]; decide⟩
theorem sm_at (w : World) : RcAt w sm Loc.none :=
  ⟨Zs.nil _ _ _, Zs.nil _ _ _, ⟨fun _ => True, Ims.nil _ _ _ _⟩, Prs.nil _ _ _, Prs.nil _ _ _, ⟨fun _ => rfl, Nat.le_refl _, Nat.zero_le _⟩, ⟨fun _ => rfl, Nat.le_refl _, Nat.zero_le _⟩, Nat.zero_le _, ⟨by decide, by decide⟩⟩
theorem sm_len : sm.enc.length = 24 := by rw [renc_len, sm_lay]; rfl
theorem sm_3 : sm.enc.getD 3 0 = 16 := by
  have e : sm.enc = bigF 4 16 ++ (bigF 4 (sum sm.lay).toNat ++ sm.lay) := by unfold Rc.enc; rw [sm_lay]; rfl
  rw [e, show bigF 4 16 = [0, 0, 0, 16] by decide]
  rfl
theorem sm_8 : sm.enc.getD 8 0 = 1 := by
  have h1 := bigF_len 4 sm.lay.length
  have h2 := bigF_len 4 (sum sm.lay).toNat
  rw [List.getD_eq_getElem?_getD]
  unfold Rc.enc
  rw [List.getElem?_append_right (by omega), List.getElem?_append_right (by omega), h1, h2, sm_lay]
  rfl
theorem run_build_sm (w : World) : (Instr.build 28 #[(0, .int .i64 1), (3, .int .u8 8), (5, .int .i64 1)]).run Tryz.prog w = .ok (.agg (sm.cells Loc.none)) w := run_build w 28 _ _ (by kernel_rfl)
section
variable {ops : Array Oper} {rest : List Oper} {o : Oper} {a : Act} {w : World} {Q : Exit → Act → World → Prop}
theorem wpList_build_sm (hg : o.guard = none) (hop : o.op = .build 28 #[(0, .const (.int .i64 1)), (3, .const (.int .u8 8)), (5, .const (.int .i64 1))]) (h : wpList Tryz.prog ops Q rest (a.put o.dst (.agg (sm.cells Loc.none))) w) : wpList Tryz.prog ops Q (o :: rest) a w := by
  refine wpList_plain hg fun K hK => ?_
  unfold Oper.wp execOp
  have e : (#[(0, Operand.const (.int .i64 1)), (3, .const (.int .u8 8)), (5, .const (.int .i64 1))] : Array (Nat × Operand)).map (fun x => (x.1, a.eval x.2)) = #[(0, .int .i64 1), (3, .int .u8 8), (5, .int .i64 1)] := by
    simp only [List.map_toArray, List.map_cons, List.map_nil]
    rfl
  simp only [hop, e, Sem.run_bind, Sem.run_pure, Result.andThen_ok, run_build_sm]
  exact hK _ _ h
end
set_option maxRecDepth 100000 in
set_option maxHeartbeats 800000 in
theorem small_any (w : World) : Calls Tryz.prog 29 #[] w fun e w' => e = .returned (.agg (sm.cells Loc.none)) ∧ Only (fun _ => False) w w' := by
  have HTH := hide (there_new w Rc.none Loc.none)
  have HO := hide (onlyA w (.cells (Rc.none.cells Loc.none) 28))
  go_enter Tryz.func29, Tryz.ntmps29
  go_upto_region 1 with fail
  go_wp2_with (refine wpList_build_sm rfl rfl ?_; go_frame; refine wpList_put_rec rfl (.tmp 0) (.tmp 1) rfl w.heap.size rfl sm Loc.none rfl HTH.out ?_; intro W9 HW9; go_frame)
  refine bodyPost_ret (results_cell1 rfl rfl HW9.out.load) rfl ?_
  exact ⟨rfl, HO.out.trans HW9.out.only (fun i hi e => by omega)⟩
set_option maxRecDepth 100000 in
set_option maxHeartbeats 3200000 in
theorem rawake_any (w : World) : Calls Tryz.prog 11 #[] w fun e w' => e = .returned (.bool true) ∧ Only (fun _ => False) w w' := by
  obtain ⟨E, hE⟩ : ∃ E, str sm.enc = E := ⟨_, rfl⟩
  have hbE : bl E = sm.enc := by rw [← hE, bl_str]
  have sE : E.size = 24 := by rw [← bl_len, hbE, sm_len]
  have h24 : 8 < E.size := by omega
  have e3 : (E[3]'(Nat.lt_trans (by decide : 3 < 8) h24)).toNat = 16 := by rw [idx, hbE, sm_3]; rfl
  have e8 : (E[8]'h24).toNat = 1 := by rw [idx, hbE, sm_8]; rfl
  have HE := hide hE
  have HBE := hide hbE
  have HSE := hide sE
  have sEi : Hid ((E.size : Int) = 24) := by unfold Hid; omega
  have HE3 := hide e3
  have HE8 := hide e8

  clear hE hbE sE e3 e8
  go_enter Tryz.func11, Tryz.ntmps11
  go_wp2_with fail
  refine (small_any w).mono ?_
  rintro e w1 ⟨rfl, ho1⟩
  have HO1 := hide ho1
  clear ho1
  go_wp2_with fail
  refine (rencode_any w1 sm Loc.none (sm_at w1)).mono ?_
  rintro e w2 hq
  have he := hq.ok sm_valid
  subst he
  rw [HE.out]
  have HO2 := hide (o2 HO1.out hq.only)
  clear hq
  go_wp2_with fail
  refine (rdecode_any w2 E (by unfold maxLen; have := HSE.out; omega)).mono ?_
  rintro e w3 hq
  obtain ⟨r, n, c, L, hd, hat, rfl⟩ := hq.ex
  have hd2 : DecIs (sm.enc ++ []) r n c := by rw [List.append_nil, ← HBE.out]; exact hd
  obtain ⟨hr, hn, hc⟩ := dec_back sm_valid (fun i hi => by cases hi) hd2
  rw [sm_len] at hn
  subst hr
  have hn' : n = 24 := hn
  clear hn
  subst hn' hc
  have HAT := hide hat
  have HO3 := hide (o2 HO2.out hq.only)
  have HNEW := hide (there_new w3 Rc.none Loc.none)
  have HOA := hide (onlyA w3 (.cells (Rc.none.cells Loc.none) 28))
  clear hq hd hd2 hat
  go_upto_region 3 with (refine wpList_lay_rec rfl (.tmp 3) (.tmp 17) rfl w3.heap.size rfl sm L rfl HNEW.out ?_; intro W3 HW3; go_frame)
  have HO4 := hide ((o2 HO3.out HOA.out).trans HW3.out.only (fun i hi e => by have := HO3.out.size; omega))
  go_wp2_with fail
  obtain ⟨X, hX⟩ : ∃ X, E.extract 0 (min (E.size : Int) 7).toNat = X := ⟨_, rfl⟩
  have bX : (bl X).length = 7 := by
    rw [← hX, ext_bl, List.drop_zero, List.length_take, bl_len]
    have := HSE.out
    omega
  have sX : X.size ≤ 7 := by rw [← bl_len, bX]; exact Nat.le_refl _
  have HBX := hide bX
  rw [hX]
  clear hX bX
  refine (rdecode_any W3 X (by unfold maxLen; omega)).mono ?_
  rintro e w5 hq
  obtain ⟨r2, n2, c2, L2, hd2, _, rfl⟩ := hq.ex
  obtain ⟨rfl, rfl, rfl⟩ := hd2.short (by have := HBX.out; omega)
  have HNEW5 := hide (there_new w5 Rc.none Loc.none)
  have HOA5 := hide (onlyA w5 (.cells (Rc.none.cells Loc.none) 28))
  have HO5 := hide hq.only
  clear hq hd2
  go_upto_region 4 with (refine wpList_lay_rec rfl (.tmp 6) (.tmp 27) rfl w5.heap.size rfl Rc.none L2 rfl HNEW5.out ?_; intro W6 HW6; go_frame)
  have HO6 : Hid (Only (fun _ => False) W3 W6) := (o2 HO5.out HOA5.out).trans HW6.out.only (fun i hi e => by have := HO5.out.size; omega)
  have HOT := hide (o2 HO4.out HO6.out)
  have HRN := hide (range_kept HW3.out.range HO6.out (fun h => h))
  have HK : Hid (Only (fun _ => False) w3 W6) := o2 (HOA.out.trans HW3.out.only (fun i hi e => by omega)) HO6.out
  have HAT6 := hide (HAT.out.go HK.out)
  obtain ⟨b3, hb3⟩ : ∃ b3, w3.heap.size = b3 := ⟨_, rfl⟩
  rw [hb3] at HRN ⊢
  have HCL : Hid (∀ W, Hid (Only (fun _ => False) W6 W) → W.cell? ⟨b3, 0, none⟩ = some (.int .i64 sm.lsn) ∧ W.cell? ⟨b3, 1, none⟩ = some (.int .i64 sm.prev) ∧ W.cell? ⟨b3, 2, none⟩ = some (.int .i64 sm.next) ∧ W.cell? ⟨b3, 3, none⟩ = some (.int .u8 sm.kind) ∧ W.cell? ⟨b3, 4, none⟩ = some (.int .i64 sm.xid) ∧ W.cell? ⟨b3, 5, none⟩ = some (.int .i64 sm.page) ∧ W.cell? ⟨b3, 6, none⟩ = some (.int .i64 sm.slot) ∧ W.cell? ⟨b3, 7, none⟩ = some (.int .i64 sm.old) ∧ W.cell? ⟨b3, 8, none⟩ = some (.int .i64 sm.new) ∧ W.cell? ⟨b3, 9, none⟩ = some (.int .i64 sm.redo) ∧ W.cell? ⟨b3, 10, none⟩ = some (.string sm.data) ∧ W.cell? ⟨b3, 11, none⟩ = some (.slice L.a1 sm.slots.length L.c1) ∧ W.cell? ⟨b3, 12, none⟩ = some (.slice L.a2 sm.more.length L.c2) ∧ W.cell? ⟨b3, 13, none⟩ = some (.slice L.a3 sm.images.length L.c3) ∧ W.cell? ⟨b3, 14, none⟩ = some (.slice L.a4 sm.pages.length L.c4) ∧ W.cell? ⟨b3, 15, none⟩ = some (.slice L.a5 sm.txns.length L.c5)) := fun W hW => by
    have hr := range_kept HRN.out hW.out (fun h => h)
    have c : ∀ j v, (sm.cl L)[j]? = some v → W.cell? ⟨b3, j, none⟩ = some v := fun j v hv => by
      have := hr j v hv
      rwa [Nat.zero_add] at this
    exact ⟨c 0 _ rfl, c 1 _ rfl, c 2 _ rfl, c 3 _ rfl, c 4 _ rfl, c 5 _ rfl, c 6 _ rfl, c 7 _ rfl, c 8 _ rfl, c 9 _ rfl, c 10 _ rfl, c 11 _ rfl, c 12 _ rfl, c 13 _ rfl, c 14 _ rfl, c 15 _ rfl⟩
  have HSM : Hid (∀ W, Hid (Only (fun _ => False) W6 W) → Calls Tryz.prog 29 #[] W fun e w' => e = .returned (.agg (sm.cells Loc.none)) ∧ Hid (Only (fun _ => False) W6 w')) := fun W hW => (small_any W).mono fun e w' hx => ⟨hx.1, o2 hW.out hx.2⟩
  have HSA : Hid (∀ W, Hid (Only (fun _ => False) W6 W) → Calls Tryz.prog 9 #[.agg (sm.cells L), .agg (sm.cells Loc.none)] W fun e w' => e = .returned (.bool true) ∧ Hid (Only (fun _ => False) W6 w')) := fun W hW => (rsame_any W sm sm L Loc.none (HAT6.out.go hW.out) (sm_at W)).mono fun e w' hx => by
    obtain ⟨c, hc, hp⟩ := hx.1.ex
    rw [hp.2 rfl] at hc
    exact ⟨hc, o2 hW.out hx.2⟩
  have HCK : Hid (∀ W, Hid (Only (fun _ => False) W6 W) → Calls Tryz.prog 7 #[.agg (Rc.none.cells Loc.none)] W fun e w' => e = .returned (.int .i64 41) ∧ Hid (Only (fun _ => False) W6 w')) := fun W hW => (rcheck_any W Rc.none Loc.none (none_at W)).mono fun e w' hx => by
    obtain ⟨o, ho, he⟩ := hx.ex
    rw [ho.kind (by decide)] at he
    exact ⟨he, o2 hW.out hx.only⟩
  have e3 := HE3.out
  have e8 := HE8.out
  have se := sEi.out
  obtain ⟨d0, d1, d2, d3, d4, d5, d6, d7, d8, d9, d10, d11, d12, d13, d14, d15⟩ := HCL.out W6 (hide (Only.refl _ _))
  clear hb3 sX
  go_region_held3 (fun W => (W.cell? ⟨b3, 0, none⟩ = some (.int .i64 sm.lsn) ∧ W.cell? ⟨b3, 1, none⟩ = some (.int .i64 sm.prev) ∧ W.cell? ⟨b3, 2, none⟩ = some (.int .i64 sm.next) ∧ W.cell? ⟨b3, 3, none⟩ = some (.int .u8 sm.kind) ∧ W.cell? ⟨b3, 4, none⟩ = some (.int .i64 sm.xid) ∧ W.cell? ⟨b3, 5, none⟩ = some (.int .i64 sm.page) ∧ W.cell? ⟨b3, 6, none⟩ = some (.int .i64 sm.slot) ∧ W.cell? ⟨b3, 7, none⟩ = some (.int .i64 sm.old) ∧ W.cell? ⟨b3, 8, none⟩ = some (.int .i64 sm.new) ∧ W.cell? ⟨b3, 9, none⟩ = some (.int .i64 sm.redo) ∧ W.cell? ⟨b3, 10, none⟩ = some (.string sm.data) ∧ W.cell? ⟨b3, 11, none⟩ = some (.slice L.a1 sm.slots.length L.c1) ∧ W.cell? ⟨b3, 12, none⟩ = some (.slice L.a2 sm.more.length L.c2) ∧ W.cell? ⟨b3, 13, none⟩ = some (.slice L.a3 sm.images.length L.c3) ∧ W.cell? ⟨b3, 14, none⟩ = some (.slice L.a4 sm.pages.length L.c4) ∧ W.cell? ⟨b3, 15, none⟩ = some (.slice L.a5 sm.txns.length L.c5)))
    (go_keep)
    (first
      | (go_at_call 29; refine (HSM.out _ (hide (Only.drew _ _))).mono ?_; rintro e x1 ⟨rfl, HX1⟩; obtain ⟨f0, f1, f2, f3, f4, f5, f6, f7, f8, f9, f10, f11, f12, f13, f14, f15⟩ := HCL.out _ HX1)
      | (go_at_call 9; refine (HSA.out _ HX1).mono ?_; rintro e x2 ⟨rfl, HX2⟩; obtain ⟨g0, g1, g2, g3, g4, g5, g6, g7, g8, g9, g10, g11, g12, g13, g14, g15⟩ := HCL.out _ HX2)
      | (go_at_call 7; refine (HCK.out _ HX2).mono ?_; rintro e x3 ⟨rfl, HX3⟩; obtain ⟨k0, k1, k2, k3, k4, k5, k6, k7, k8, k9, k10, k11, k12, k13, k14, k15⟩ := HCL.out _ HX3))
  all_goals go_wp2_with fail
  all_goals go_ret
  all_goals exact ⟨ret_bool (by simp), o2 HOT.out HX3.out⟩
end Go.Proofs.YtmhjmnmhbndlcaaGreatDoor
