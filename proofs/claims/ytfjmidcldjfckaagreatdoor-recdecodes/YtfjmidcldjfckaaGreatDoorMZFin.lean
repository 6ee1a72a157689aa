/- For all bytes the statement RecDecodes returns true: which record they begin with, and how many bytes it has, is as the document says; no condition on them. Go's own tables of the library hold what they are laid with. -/
import Derived.Test.YtfjmidcldjfckaaGreatDoorMRAwake
import Derived.Test.YtfjmidcldjfckaaGreatDoorMZTaken
import Derived.Test.YtfjmidcldjfckaaGreatDoorMZTk
import Derived.Test.YtfjmidcldjfckaaGreatDoorMZChk
import Derived.Test.YtfjmidcldjfckaaGreatDoorMRO
import Derived.Test.YtfjmidcldjfckaaGreatDoorMZSame
import Derived.Test.YtfjmidcldjfckaaGreatDoorPCat
import Derived.ProofKit
import Derived.OpenShut
import Derived.ShutString
import Derived.SizedLaws
import Derived.Deep.Strs
import Derived.Test.YtfjmidcldjfckaaGreatDoorCards
import Derived.Test.YtfjmidcldjfckaaGreatDoorTie
import Derived.Deep.DeepHandedRow
import Derived.Lib.LaidTab
namespace Go.Proofs.YtfjmidcldjfckaaGreatDoor
open Go.RowKit

section
variable {ops : Array Oper} {rest : List Oper} {o : Oper} {a : Act} {w : World} {Q : Exit → Act → World → Prop}
theorem wpList_loadg_rec (hw : Region.wanted o (yielded ops a.tmps) = true) (x : Operand) (hop : o.op = .load 28 x) (b : Nat) (hx : a.eval x = .pointer (some ⟨b, 0, none⟩)) (r : Rc) (L : Loc) (hc : w.rangeAt b 0 (r.cl L))
    (h : wpList Tryz.prog ops Q rest (a.put o.dst (.agg (r.cells L))) w) : wpList Tryz.prog ops Q (o :: rest) a w :=
  BigFrame.wpList_want hw fun _ hK => wp_load_mid 28 x hop b 0 hx (r.cl L) _ hc Tryz.underlying28 rfl Tryz.sizeRec (hK _ _ h)
end
end Go.Proofs.YtfjmidcldjfckaaGreatDoor

namespace Go.Proofs.YtfjmidcldjfckaaGreatDoor
open Go.RowKit

/-- What the document's Decode answers. -/
structure ZdQ (w w' : World) (e : Ending) (l : List UInt8) : Prop where
  ex : ∃ (r : Rc) (n c : Int) (L : Loc), DecIs l r n c ∧ Lst w' w.heap.size r L ∧ e = .returned (.tuple #[.agg (r.cells L), .int .i64 n, .int .i64 c])
  only : Only (fun _ => False) w w'
/-- What taken answers, held against what is read. -/
structure Hold (l : List UInt8) (q : Rc) (ee : St) (q' : Rc) (good : Bool) : Prop where
  st : Steps l q ee
  lsn : ∀ i ∈ q.images, i.body.lsn < 9223372036854775808
  lsn' : ∀ i ∈ q'.images, i.body.lsn < 9223372036854775808
  tk : (q.valid ∧ (∀ i ∈ q.images, i.body.lsn < 9223372036854775808) ∧ q.lay = l) → good = true ∧ q' = q
theorem Hold.no {l : List UInt8} {q : Rc} {ee : St} {q' : Rc} {good : Bool} (h : Hold l q ee q' good) (hn : ¬ (good = true ∧ q'.valid ∧ q'.lay = l)) : ¬ (ee = ([], 0) ∧ q.valid ∧ q.lay = l) := fun ⟨_, h2, h3⟩ => by
  obtain ⟨e1, e2⟩ := h.tk ⟨h2, h.lsn, h3⟩
  exact hn ⟨e1, by rw [e2]; exact h2, by rw [e2]; exact h3⟩
theorem Hold.yes {l : List UInt8} {q : Rc} {ee : St} {q' : Rc} {good : Bool} (h : Hold l q ee q' good) (h1 : q'.valid) (h2 : q'.lay = l) : ee = ([], 0) ∧ q'.valid ∧ q'.lay = l ∧ q = q' := by
  have hs := steps_lay q' h1 h.lsn'
  rw [h2] at hs
  obtain ⟨e1, e2⟩ := h.st.one hs
  exact ⟨e2, h1, h2, e1⟩
set_option maxRecDepth 100000 in
set_option maxHeartbeats 3200000 in
theorem zdecode_any (w : World) (S : ByteArray) (hS : S.size ≤ maxLen) : Calls Tryz.prog 5 #[.string S] w fun e w' => ZdQ w w' e (bl S) := by
  unfold maxLen at hS
  have hlen : (bl S).length = S.size := bl_len S
  have HTH0 := hide (there_new w Rc.none Loc.none)
  have HO0 := hide (onlyA w (.cells (Rc.none.cells Loc.none) 28))
  obtain ⟨b0, hb0⟩ : ∃ b0, w.heap.size = b0 := ⟨_, rfl⟩
  rw [hb0] at HTH0
  have hb0' : w.heap.size ≤ b0 := by omega
  have hb0'' : b0 ≤ w.heap.size := by omega
  obtain ⟨W0, hW0⟩ : ∃ W0, w.alloc (.cells (Rc.none.cells Loc.none) 28) = W0 := ⟨_, rfl⟩
  rw [hW0] at HTH0 HO0
  have hW0s : b0 < W0.heap.size := by rw [← hW0]; simp; omega
  have HW0 := hide hW0
  have HB0 := hide hb0
  clear hW0 hb0
  by_cases h8 : S.size < 8
  · have h8' : (S.size : Int) < 8 := by omega
    have HD : Hid (DecIs (bl S) .none 0 40) := di_short (by omega)
    clear h8
    go_enter Tryz.func5, Tryz.ntmps5
    go_upto_region 1 with fail
    rw [HB0.out]
    rw [show w.alloc (.cells #[.int .i64 0, .int .i64 0, .int .i64 0, .int .u8 0, .int .i64 0, .int .i64 0, .int .i64 0, .int .i64 0, .int .i64 0, .int .i64 0, .string ⟨#[]⟩, .slice none 0 0, .slice none 0 0, .slice none 0 0, .slice none 0 0, .slice none 0 0] 28) = W0 from HW0.out]
    go_upto_region 2 with fail
    go_wp2_with (refine wpList_build_rec rfl rfl ?_; go_frame; refine wpList_put_rec rfl (.tmp 2) (.tmp 12) rfl b0 rfl Rc.none Loc.none rfl HTH0.out ?_; intro W9 HW9; go_frame)
    refine bodyPost_ret (results_rec3 rfl rfl HW9.out.load) rfl ?_
    exact ⟨⟨Rc.none, 0, _, Loc.none, HD.out, Lst.none _ _, rfl⟩, HO0.out.trans HW9.out.only (fun i hi e => by omega)⟩
  · have h8' : ¬ (S.size : Int) < 8 := by omega
    have h4 : (4 : Int) ≤ (S.size : Int) := by omega
    have h8b : (8 : Int) ≤ (S.size : Int) := by omega
    obtain ⟨A, hA⟩ : ∃ A, S.extract 0 4 = A := ⟨_, rfl⟩
    obtain ⟨C, hC⟩ : ∃ C, S.extract 4 8 = C := ⟨_, rfl⟩
    have bA : bl A = (bl S).take 4 := by rw [← hA, ext_bl, List.drop_zero]
    have bC : bl C = ((bl S).drop 4).take 4 := by rw [← hC, ext_bl, List.drop_take]
    have sA : A.size = 4 := by rw [← bl_len, bA, List.length_take]; omega
    have sC : C.size = 4 := by rw [← bl_len, bC, List.length_take, List.length_drop]; omega
    have oA := ofTo_small (bl A) (by rw [bl_len]; omega)
    have oC := ofTo_small (bl C) (by rw [bl_len]; omega)
    rw [bl_len, sA] at oA
    rw [bl_len, sC] at oC
    have p4 : (256 : Int) ^ 4 = 4294967296 := by decide
    rw [p4] at oA oC
    have cA := fun W => refOf_any A W (by unfold maxLen; omega)
    have cC := fun W => refOf_any C W (by unfold maxLen; omega)
    obtain ⟨n, hn⟩ := Int.eq_ofNat_of_zero_le oA.1
    obtain ⟨m, hm⟩ := Int.eq_ofNat_of_zero_le oC.1
    have eA : ofTo A.data.toList % 9223372036854775808 = (n : Int) := by show ofTo (bl A) % _ = _; omega
    have eC : ofTo C.data.toList % 9223372036854775808 = (m : Int) := by show ofTo (bl C) % _ = _; omega
    simp only [eA] at cA
    simp only [eC] at cC
    have HCA := hide cA
    have HCC := hide cC
    rw [bA] at hn
    rw [bC] at hm
    have HN := hide hn
    have HM := hide hm
    have HL8 : Hid (8 ≤ (bl S).length) := by unfold Hid; omega
    have HLEN := hide hlen
    clear cA cC eA eC hn hm bA bC sA sC oA oC p4 h8 hlen
    by_cases hz : n = 0 ∨ 65535 < n
    · have HD : Hid (DecIs (bl S) .none 0 41) := di_zero HL8.out (by rw [HN.out]; omega)
      by_cases hz0 : n = 0
      · have hz1 : (n : Int) < 1 := by omega
        clear hz hz0
        go_enter Tryz.func5, Tryz.ntmps5
        go_upto_region 1 with fail
        rw [HB0.out]
        rw [show w.alloc (.cells #[.int .i64 0, .int .i64 0, .int .i64 0, .int .u8 0, .int .i64 0, .int .i64 0, .int .i64 0, .int .i64 0, .int .i64 0, .int .i64 0, .string ⟨#[]⟩, .slice none 0 0, .slice none 0 0, .slice none 0 0, .slice none 0 0, .slice none 0 0] 28) = W0 from HW0.out]
        go_wp2_with fail
        refine (HCA.out _).mono ?_
        rintro e w1 ⟨rfl, hw1⟩
        obtain rfl := hw1.symm
        clear hw1
        go_upto_region 5 with fail
        go_wp2_with (refine wpList_build_rec rfl rfl ?_; go_frame; refine wpList_put_rec rfl (.tmp 2) (.tmp 22) rfl b0 rfl Rc.none Loc.none rfl HTH0.out ?_; intro W9 HW9; go_frame)
        refine bodyPost_ret (results_rec3 rfl rfl HW9.out.load) rfl ?_
        exact ⟨⟨Rc.none, 0, _, Loc.none, HD.out, Lst.none _ _, rfl⟩, HO0.out.trans HW9.out.only (fun i hi e => by omega)⟩
      · have hz1 : (65535 : Int) < (n : Int) := by omega
        have hz2 : ¬ (n : Int) < 1 := by omega
        clear hz hz0
        go_enter Tryz.func5, Tryz.ntmps5
        go_upto_region 1 with fail
        rw [HB0.out]
        rw [show w.alloc (.cells #[.int .i64 0, .int .i64 0, .int .i64 0, .int .u8 0, .int .i64 0, .int .i64 0, .int .i64 0, .int .i64 0, .int .i64 0, .int .i64 0, .string ⟨#[]⟩, .slice none 0 0, .slice none 0 0, .slice none 0 0, .slice none 0 0, .slice none 0 0] 28) = W0 from HW0.out]
        go_wp2_with fail
        refine (HCA.out _).mono ?_
        rintro e w1 ⟨rfl, hw1⟩
        obtain rfl := hw1.symm
        clear hw1
        go_upto_region 5 with fail
        go_wp2_with (refine wpList_build_rec rfl rfl ?_; go_frame; refine wpList_put_rec rfl (.tmp 2) (.tmp 22) rfl b0 rfl Rc.none Loc.none rfl HTH0.out ?_; intro W9 HW9; go_frame)
        refine bodyPost_ret (results_rec3 rfl rfl HW9.out.load) rfl ?_
        exact ⟨⟨Rc.none, 0, _, Loc.none, HD.out, Lst.none _ _, rfl⟩, HO0.out.trans HW9.out.only (fun i hi e => by omega)⟩
    · have HNZ : Hid (¬ (ofTo ((bl S).take 4) = 0 ∨ 65535 < ofTo ((bl S).take 4))) := by unfold Hid; rw [HN.out]; omega
      have hz2 : ¬ (n : Int) < 1 := by omega
      have hz1 : ¬ (65535 : Int) < (n : Int) := by omega
      have hn1 : n ≤ 65535 := by omega
      clear hz
      by_cases hc : S.size - 8 < n
      · have hc' : (S.size : Int) - 8 < (n : Int) := by omega
        have HD : Hid (DecIs (bl S) .none 0 40) := di_cut HL8.out HNZ.out (by rw [HN.out, HLEN.out]; omega)
        clear hc
        go_enter Tryz.func5, Tryz.ntmps5
        go_upto_region 1 with fail
        rw [HB0.out]
        rw [show w.alloc (.cells #[.int .i64 0, .int .i64 0, .int .i64 0, .int .u8 0, .int .i64 0, .int .i64 0, .int .i64 0, .int .i64 0, .int .i64 0, .int .i64 0, .string ⟨#[]⟩, .slice none 0 0, .slice none 0 0, .slice none 0 0, .slice none 0 0, .slice none 0 0] 28) = W0 from HW0.out]
        go_wp2_with fail
        refine (HCA.out _).mono ?_
        rintro e w1 ⟨rfl, hw1⟩
        obtain rfl := hw1.symm
        clear hw1
        go_upto_region 7 with fail
        go_wp2_with (refine wpList_build_rec rfl rfl ?_; go_frame; refine wpList_put_rec rfl (.tmp 2) (.tmp 28) rfl b0 rfl Rc.none Loc.none rfl HTH0.out ?_; intro W9 HW9; go_frame)
        refine bodyPost_ret (results_rec3 rfl rfl HW9.out.load) rfl ?_
        exact ⟨⟨Rc.none, 0, _, Loc.none, HD.out, Lst.none _ _, rfl⟩, HO0.out.trans HW9.out.only (fun i hi e => by omega)⟩
      · have hc' : ¬ (S.size : Int) - 8 < (n : Int) := by omega
        have hcc : (8 : Int) + (n : Int) ≤ (S.size : Int) := by omega
        have HNC : Hid (¬ ((bl S).length : Int) - 8 < ofTo ((bl S).take 4)) := by unfold Hid; rw [HN.out, HLEN.out]; omega
        obtain ⟨k8, hk8⟩ : ∃ k : Nat, 8 + n = k := ⟨_, rfl⟩
        have hk8' : (8 : Int) + (n : Int) = (k8 : Int) := by omega
        obtain ⟨D, hD⟩ : ∃ D, S.extract 8 k8 = D := ⟨_, rfl⟩
        have bD : bl D = ((bl S).drop 8).take n := by rw [← hD, ext_bl, List.drop_take, show k8 - 8 = n from by omega]
        have sD : D.size ≤ 65535 := by rw [← bl_len, bD, List.length_take]; omega
        have HBD : Hid (bl D = ((bl S).drop 8).take (ofTo ((bl S).take 4)).toNat) := by unfold Hid; rw [HN.out, Int.toNat_natCast]; exact bD
        obtain ⟨z, hzz⟩ : ∃ z, sum D.data.toList = z := ⟨_, rfl⟩
        have hzb := sum_bd D.data.toList
        have cS := fun W => refSum_any D W (by unfold maxLen; omega)
        rw [hzz] at hzb
        simp only [hzz] at cS
        have HCS := hide cS
        have HZZ : Hid (sum (bl D) = z) := hzz
        have hz0 := hzb.1
        have hz9 := hzb.2
        have hk81 : (8 : Int) ≤ (k8 : Int) := by omega
        have hk82 : (k8 : Int) ≤ (S.size : Int) := by omega
        have HK8 := hide hk8
        have HK8' := hide hk8'
        clear bD hc cS hzz hzb hk8 hcc
        by_cases hs : z = (m : Int)
        · have hs' : ((m : Int) != z) = false := by simp [hs]
          have HSE : Hid (sum (((bl S).drop 8).take (ofTo ((bl S).take 4)).toNat) = ofTo (((bl S).drop 4).take 4)) := by unfold Hid; rw [← HBD.out, HZZ.out, HM.out]; exact hs
          clear hs
          go_enter Tryz.func5, Tryz.ntmps5
          go_upto_region 1 with fail
          rw [HB0.out]
          rw [show w.alloc (.cells #[.int .i64 0, .int .i64 0, .int .i64 0, .int .u8 0, .int .i64 0, .int .i64 0, .int .i64 0, .int .i64 0, .int .i64 0, .int .i64 0, .string ⟨#[]⟩, .slice none 0 0, .slice none 0 0, .slice none 0 0, .slice none 0 0, .slice none 0 0] 28) = W0 from HW0.out]
          go_wp2_with fail
          refine (HCA.out _).mono ?_
          rintro e w1 ⟨rfl, hw1⟩
          obtain rfl := hw1.symm
          clear hw1
          go_wp2_with fail
          refine (HCC.out _).mono ?_
          rintro e w1 ⟨rfl, hw1⟩
          obtain rfl := hw1.symm
          clear hw1
          go_wp2_with fail
          refine (HCS.out _).mono ?_
          rintro e w1 ⟨rfl, hw1⟩
          obtain rfl := hw1.symm
          clear hw1
          obtain ⟨q, ee, hst, hls⟩ := steps_ex (bl D)
          go_wp2_with fail
          refine (ztaken_any W0 D sD q (q.valid ∧ (∀ i ∈ q.images, i.body.lsn < 9223372036854775808) ∧ q.lay = bl D) id).mono ?_
          rintro e w2 hq
          obtain ⟨q', L, good, rfl, hlst, hvv, hls'⟩ := hq.ex
          have HH : Hid (Hold (bl D) q ee q' good) := ⟨hst, hls, hls', hvv⟩
          have HO2 := hide (o2 HO0.out hq.only)
          have HTH2 := hide (there_kept HTH0.out hq.only (fun h => h))
          have HNEW := hide (there_new w2 Rc.none Loc.none)
          have HOA := hide (onlyA w2 (.cells (Rc.none.cells Loc.none) 28))
          have HLST := hide hlst
          have hw2s : W0.heap.size ≤ w2.heap.size := hq.only.size
          clear hq hst hls hlst hvv hls'
          go_upto_region 12 with (refine wpList_lay_rec rfl (.tmp 7) (.tmp 44) rfl w2.heap.size rfl q' L rfl HNEW.out ?_; intro W3 HW3; go_frame)
          have HO3 := hide ((o2 HO2.out HOA.out).trans HW3.out.only (fun i hi e => by omega))
          have HTH3 := hide (there_kept (there_kept HTH2.out HOA.out (fun h => h)) HW3.out.only (by omega))
          have HL3 := hide (HLST.out.kept ((HOA.out.mono (T := fun k => k = w2.heap.size) (fun _ _ h => h.elim)).trans HW3.out.only (fun _ _ h => h)) (fun k hk hk2 e => by omega))
          cases good with
          | false =>
            have HD : Hid (DecIs (bl S) .none 0 41) := di_rest HL8.out HNZ.out (by have := HNC.out; omega) HSE.out ⟨q, ee, by rw [← HBD.out]; exact HH.out.st, HH.out.lsn, .inr ⟨by rw [← HBD.out]; exact HH.out.no (fun h => by cases h.1), rfl, rfl, rfl⟩⟩
            go_upto_region 13 with fail
            go_wp2_with (refine wpList_build_rec rfl rfl ?_; go_frame; refine wpList_put_rec rfl (.tmp 2) (.tmp 59) rfl b0 rfl Rc.none Loc.none rfl HTH3.out ?_; intro W9 HW9; go_frame)
            refine bodyPost_ret (results_rec3 rfl rfl HW9.out.load) rfl ?_
            exact ⟨⟨Rc.none, 0, _, Loc.none, HD.out, Lst.none _ _, rfl⟩, HO3.out.trans HW9.out.only (fun i hi e => by omega)⟩
          | true =>
            go_wp2_with (refine wpList_loadg_rec rfl (.tmp 7) rfl w2.heap.size rfl q' L HW3.out.range ?_; go_frame)
            refine (zcheck_any W3 q' L HL3.out.at_).mono ?_
            rintro e w4 hq
            obtain ⟨o, ho, rfl⟩ := hq.ex
            have HL4 := hide (HL3.out.kept hq.only (fun _ _ _ h => h))
            have HR4 := hide (range_kept HW3.out.range hq.only (fun h => h))
            have HO4 := hide (o2 HO3.out hq.only)
            have HTH4 := hide (there_kept HTH3.out hq.only (fun h => h))
            clear hq
            rcases ho.cases with ⟨hv, rfl⟩ | ⟨hv, h1, h2⟩
            · have HV := hide hv
              clear hv ho
              simp only
              go_wp2_with (refine wpList_loadg_rec rfl (.tmp 7) rfl w2.heap.size rfl q' L HR4.out ?_; go_frame)
              refine (zbody_any w4 q' L HL4.out.at_ HV.out.k0 HV.out.k1 HV.out.rng HV.out.short HV.out.ims).mono ?_
              rintro e w5 ⟨rfl, ho5⟩
              have HL5 := hide (HL4.out.kept ho5 (fun _ _ _ h => h))
              have HR5 := hide (range_kept HR4.out ho5 (fun h => h))
              have HO5 := hide (o2 HO4.out ho5)
              have HTH5 := hide (there_kept HTH4.out ho5 (fun h => h))
              clear ho5
              by_cases hl : q'.lay = bl D
              · have HL := hide hl
                rw [hl, str_bl]
                clear hl
                go_upto_region 14 with fail
                go_wp2_with (first
                  | (refine wpList_load_rec rfl (.tmp 7) rfl w2.heap.size rfl q' L HR5.out ?_; go_frame)
                  | (refine wpList_put_rec rfl (.tmp 2) (.tmp 60) rfl b0 rfl q' L rfl HTH5.out ?_; intro W9 HW9; go_frame))
                refine bodyPost_ret (results_rec3 rfl rfl HW9.out.load) rfl ?_
                obtain ⟨y1, y2, y3, y4⟩ := HH.out.yes HV.out HL.out
                exact ⟨⟨q', _, 0, L, di_rest HL8.out HNZ.out (by have := HNC.out; omega) HSE.out ⟨q, ee, by rw [← HBD.out]; exact HH.out.st, HH.out.lsn, .inl ⟨y1, by rw [y4]; exact y2, by rw [← HBD.out, y4]; exact y3, y4.symm, by rw [HN.out]; exact HK8'.out.symm, rfl⟩⟩, (HL5.out.kept HW9.out.only (fun k hk hk2 e => by omega)).lower HO0.out.size, rfl⟩, HO5.out.trans HW9.out.only (fun i hi e => by omega)⟩
              · have HL := hide hl
                have HD : Hid (DecIs (bl S) .none 0 41) := di_rest HL8.out HNZ.out (by have := HNC.out; omega) HSE.out ⟨q, ee, by rw [← HBD.out]; exact HH.out.st, HH.out.lsn, .inr ⟨by rw [← HBD.out]; exact HH.out.no (fun h => HL.out h.2.2), rfl, rfl, rfl⟩⟩
                obtain ⟨X, hX⟩ : ∃ X, str q'.lay = X := ⟨_, rfl⟩
                have hne : ¬ X.toList = D.toList := fun h => by
                  have h2 := ba_toList h
                  rw [← hX] at h2
                  exact HL.out (by rw [← h2, bl_str])
                have hne2 : (X.toList == D.toList) = false := by simpa using hne
                rw [hX]
                clear hl hX hne
                go_upto_region 13 with fail
                go_wp2_with (refine wpList_build_rec rfl rfl ?_; go_frame; refine wpList_put_rec rfl (.tmp 2) (.tmp 59) rfl b0 rfl Rc.none Loc.none rfl HTH5.out ?_; intro W9 HW9; go_frame)
                refine bodyPost_ret (results_rec3 rfl rfl HW9.out.load) rfl ?_
                exact ⟨⟨Rc.none, 0, _, Loc.none, HD.out, Lst.none _ _, rfl⟩, HO5.out.trans HW9.out.only (fun i hi e => by omega)⟩
            · have HD : Hid (DecIs (bl S) .none 0 41) := di_rest HL8.out HNZ.out (by have := HNC.out; omega) HSE.out ⟨q, ee, by rw [← HBD.out]; exact HH.out.st, HH.out.lsn, .inr ⟨by rw [← HBD.out]; exact HH.out.no (fun h => hv h.2.1), rfl, rfl, rfl⟩⟩
              obtain ⟨o1, c2⟩ := o
              simp only at h1 h2 ⊢
              have hcb : (c2 != 0) = true := by simpa using h2
              clear hv ho h1 h2
              go_upto_region 13 with fail
              go_wp2_with (refine wpList_build_rec rfl rfl ?_; go_frame; refine wpList_put_rec rfl (.tmp 2) (.tmp 59) rfl b0 rfl Rc.none Loc.none rfl HTH4.out ?_; intro W9 HW9; go_frame)
              refine bodyPost_ret (results_rec3 rfl rfl HW9.out.load) rfl ?_
              exact ⟨⟨Rc.none, 0, _, Loc.none, HD.out, Lst.none _ _, rfl⟩, HO4.out.trans HW9.out.only (fun i hi e => by omega)⟩
        · have hs' : ((m : Int) != z) = true := by simp; omega
          have HD : Hid (DecIs (bl S) .none 0 30) := di_sum HL8.out HNZ.out HNC.out (by rw [← HBD.out, HZZ.out, HM.out]; exact hs)
          clear hs
          go_enter Tryz.func5, Tryz.ntmps5
          go_upto_region 1 with fail
          rw [HB0.out]
          rw [show w.alloc (.cells #[.int .i64 0, .int .i64 0, .int .i64 0, .int .u8 0, .int .i64 0, .int .i64 0, .int .i64 0, .int .i64 0, .int .i64 0, .int .i64 0, .string ⟨#[]⟩, .slice none 0 0, .slice none 0 0, .slice none 0 0, .slice none 0 0, .slice none 0 0] 28) = W0 from HW0.out]
          go_wp2_with fail
          refine (HCA.out _).mono ?_
          rintro e w1 ⟨rfl, hw1⟩
          obtain rfl := hw1.symm
          clear hw1
          go_wp2_with fail
          refine (HCC.out _).mono ?_
          rintro e w1 ⟨rfl, hw1⟩
          obtain rfl := hw1.symm
          clear hw1
          go_wp2_with fail
          refine (HCS.out _).mono ?_
          rintro e w1 ⟨rfl, hw1⟩
          obtain rfl := hw1.symm
          clear hw1
          go_upto_region 10 with fail
          go_wp2_with (refine wpList_build_rec rfl rfl ?_; go_frame; refine wpList_put_rec rfl (.tmp 2) (.tmp 40) rfl b0 rfl Rc.none Loc.none rfl HTH0.out ?_; intro W9 HW9; go_frame)
          refine bodyPost_ret (results_rec3 rfl rfl HW9.out.load) rfl ?_
          exact ⟨⟨Rc.none, 0, _, Loc.none, HD.out, Lst.none _ _, rfl⟩, HO0.out.trans HW9.out.only (fun i hi e => by omega)⟩
end Go.Proofs.YtfjmidcldjfckaaGreatDoor

namespace Go.Proofs.YtfjmidcldjfckaaGreatDoor
open Go.RowKit

/-- The slots of an answer, which are written over. -/
structure Ov (w5 wr : World) (a : Rc) (L : Loc) (o : Nat) : Prop where
  cell : ∀ k, k < a.slots.length → ∃ v, wr.cell? ⟨L.b1, o + k, none⟩ = some v
  fz : 0 < a.slots.length → ∀ j, wr.frozen? ⟨L.b1, j, none⟩ = false
  only : Only (fun k => 0 < a.slots.length ∧ k = L.b1) w5 wr
theorem Ov.set {w5 wr : World} {a : Rc} {L : Loc} {o : Nat} (h : Ov w5 wr a L o) {j : Nat} (hj : j < a.slots.length) (v : Value) : Ov w5 (wr.setCell ⟨L.b1, o + j, none⟩ v) a L o := by
  have hst := Only.setCell (S := fun k => 0 < a.slots.length ∧ k = L.b1) wr ⟨L.b1, o + j, none⟩ v ⟨by omega, rfl⟩
  refine ⟨fun k hk => ?_, fun h0 i => by rw [World.frozen?_setCell]; exact h.fz h0 i, h.only.trans hst (fun _ _ h => h)⟩
  by_cases e : k = j
  · subst e
    obtain ⟨u, hu⟩ := h.cell k hk
    exact ⟨v, World.cell?_setCell_same _ _ _ hu⟩
  · obtain ⟨u, hu⟩ := h.cell k hk
    exact ⟨u, (World.cell?_setCell_other _ _ _ _ (by simp)).trans hu⟩
theorem RcAt.newer {w w' : World} {r : Rc} {L : Loc} (h : RcAt w r L) (ho : Only (fun k => w.heap.size ≤ k) w w') : RcAt w' r L := by
  obtain ⟨T, hi⟩ := h.images
  exact ⟨h.slots.kept ho (fun h0 e => by have := h.slots.lt h0; omega), h.more.kept ho (fun h0 e => by have := h.more.lt h0; omega), ⟨_, hi.under.kept ho (fun h0 e => by have := hi.lt h0; omega) (fun d hd e => by omega)⟩, h.pages.kept ho (fun h0 e => by have := h.pages.lt h0; omega), h.txns.kept ho (fun h0 e => by have := h.txns.lt h0; omega), h.f1, h.f2, h.data, h.kind⟩
set_option maxRecDepth 100000 in
set_option maxHeartbeats 3200000 in
theorem rdecodes_law (w : World) (S : ByteArray) (hS : S.size ≤ maxLen) : Calls Tryz.prog 3 #[.string S] w fun e w' => e = .returned (.bool true) ∧ Only (fun _ => False) w w' := by
  have HSM := hide hS
  clear hS
  go_enter Tryz.func3, Tryz.ntmps3
  go_wp2_with fail
  refine (rdecode_own w S HSM.out).mono ?_
  rintro e w1 hq
  obtain ⟨a, n, c, L, hdi, hrf, rfl⟩ := hq.ex
  have HDI := hide hdi
  have HRF := hide hrf
  have HO1 := hide hq.only
  have HN1 := hide (there_new w1 Rc.none Loc.none)
  have HOA1 := hide (onlyA w1 (.cells (Rc.none.cells Loc.none) 28))
  clear hq hdi hrf
  go_upto_region 2 with (refine wpList_lay_rec rfl (.tmp 3) (.tmp 16) rfl w1.heap.size rfl a L rfl HN1.out ?_; intro W2 HW2; go_frame)
  have HO12 := hide ((HOA1.out.mono (T := fun k => k = w1.heap.size) (fun _ _ h => h.elim)).trans HW2.out.only (fun _ _ h => h))
  have hs12 : w1.heap.size < W2.heap.size := by
    have h1 := HW2.out.only.size
    simp at h1
    omega
  have hs1 := HO1.out.size
  have HO2 := hide ((o2 HO1.out HOA1.out).trans HW2.out.only (fun i hi e => by omega))
  go_wp2_with fail
  refine (zdecode_any W2 S HSM.out).mono ?_
  rintro e w3 hq
  obtain ⟨a2, n2, c2, M, hdi2, hlst, rfl⟩ := hq.ex
  obtain ⟨rfl, rfl, rfl⟩ := HDI.out.one hdi2
  have HLST := hide hlst
  have HO23 := hide hq.only
  have HO3 := hide (o2 HO2.out hq.only)
  have hs23 := hq.only.size
  have HN3 := hide (there_new w3 Rc.none Loc.none)
  have HOA3 := hide (onlyA w3 (.cells (Rc.none.cells Loc.none) 28))
  clear hq hdi2 hlst
  go_upto_region 3 with (refine wpList_lay_rec rfl (.tmp 6) (.tmp 22) rfl w3.heap.size rfl a M rfl HN3.out ?_; intro W4 HW4; go_frame)
  have HO34 := hide ((HOA3.out.mono (T := fun k => k = w3.heap.size) (fun _ _ h => h.elim)).trans HW4.out.only (fun _ _ h => h))
  have HO4 := hide ((o2 HO3.out HOA3.out).trans HW4.out.only (fun i hi e => by omega))
  have hs34 : w3.heap.size < W4.heap.size := by
    have h1 := HW4.out.only.size
    simp at h1
    omega
  have HO14 : Hid (Only (fun k => w1.heap.size ≤ k) w1 W4) := ((HO12.out.mono (fun _ _ h => by omega)).trans HO23.out (fun _ _ h => h.elim)).trans HO34.out (fun _ _ h => by omega)
  have HRA4 := hide (range_kept (range_kept HW2.out.range HO23.out (fun h => h)) HO34.out (by omega))
  have HL4 := hide (HLST.out.kept HO34.out (fun k hk hk2 e => by omega))
  have HAT4 := hide (HRF.out.at_.newer HO14.out)
  have HZF : Hid (0 < a.slots.length → w.heap.size ≤ L.b1 ∧ L.b1 < w1.heap.size ∧ ∀ j, W4.frozen? ⟨L.b1, j, none⟩ = false) := fun h0 => by
    have hlt := HRF.out.at_.slots.lt h0
    refine ⟨(HRF.out.fz h0).1, hlt, fun j => ?_⟩
    rw [HO14.out.frozen (p := ⟨L.b1, j, none⟩) hlt (by show ¬ w1.heap.size ≤ L.b1; omega)]
    exact (HRF.out.fz h0).2 j
  obtain ⟨ba, hba⟩ : ∃ k, w1.heap.size = k := ⟨_, rfl⟩
  obtain ⟨bb, hbb⟩ : ∃ k, w3.heap.size = k := ⟨_, rfl⟩
  have HRB4 := hide HW4.out.range
  rw [hba] at HRA4 HZF hs12
  rw [hbb] at HRB4 hs34
  simp only [hba, hbb]
  have hbab : ba < bb := by omega
  have hwba : w.heap.size ≤ ba := by omega
  have HLO := hide (show ba < W2.heap.size by omega)
  clear hs1 hs23 hba hbb HRF HO12 HO23 HO34 HO14 HOA1 HOA3 HN1 HN3 HW2 HW4 HLST HO1 HO2 HO3
  go_wp2_with (first
    | (refine wpList_loadg_rec rfl (.tmp 3) rfl ba rfl a L HRA4.out ?_; go_frame)
    | (refine wpList_loadg_rec rfl (.tmp 6) rfl bb rfl a M HRB4.out ?_; go_frame))
  refine (zsame_any W4 a a L M HAT4.out HL4.out.at_).mono ?_
  rintro e w5 ⟨hrb, ho5⟩
  obtain ⟨cc, rfl, hcc⟩ := hrb.ex
  obtain rfl := hcc.2 rfl
  have HO5 := hide (o2 HO4.out ho5)
  have HL5 := hide (HL4.out.kept ho5 (fun _ _ _ h => h))
  have HRA5 := hide (range_kept HRA4.out ho5 (fun h => h))
  have HRB5 := hide (range_kept HRB4.out ho5 (fun h => h))
  have HZ5 := hide (HAT4.out.slots.kept ho5 (fun _ h => h))
  have hs5 : bb < w5.heap.size := by have := ho5.size; omega
  have HF5 : Hid (0 < a.slots.length → w.heap.size ≤ L.b1 ∧ L.b1 < ba ∧ ∀ j, w5.frozen? ⟨L.b1, j, none⟩ = false) := fun h0 => by
    obtain ⟨h1, h2, h3⟩ := HZF.out h0
    exact ⟨h1, h2, fun j => (ho5.frozen (p := ⟨L.b1, j, none⟩) (by show L.b1 < _; omega) (fun h => h)).trans (h3 j)⟩
  clear hrb hcc ho5 HO4 HL4 HRA4 HRB4 HAT4 HZF hs34
  obtain ⟨o, HA⟩ : ∃ o, Hid (0 < a.slots.length → L.a1 = some ⟨L.b1, o, none⟩ ∧ ∀ j (h : j < a.slots.length), w5.cell? ⟨L.b1, o + j, none⟩ = some (.int .i64 a.slots[j])) := by
    by_cases h0 : 0 < a.slots.length
    · obtain ⟨o, e, hc⟩ := HZ5.out.at_ h0
      exact ⟨o, fun _ => ⟨e, hc⟩⟩
    · exact ⟨0, fun h => absurd h h0⟩
  have HV5 : Hid (Ov w5 w5 a L o) := ⟨fun k hk => ⟨_, (HA.out (by omega)).2 k hk⟩, fun h0 => (HF5.out h0).2.2, Only.refl _ _⟩
  have hsl := HZ5.out.len
  have c11 := HRA5.out 11 _ rfl
  rw [Nat.zero_add] at c11
  obtain ⟨len, hlen⟩ : ∃ len, a.slots.length = len := ⟨_, rfl⟩
  have HLEN := hide hlen
  rw [hlen] at hsl c11
  clear hlen
  go_wp2_with fail
  go_loopw [9] (fun y wr => ∃ (j : Nat), j ≤ len ∧ y = .int .i64 (j : Int) ∧ Hid (Ov w5 wr a L o)) (fun y _ => len - (intOf y).toNat)
  case atStart => exact ⟨0, by omega, rfl, HV5⟩
  case round =>
    obtain ⟨j, hj, rfl, HV⟩ := hrel
    have hS5 : ∀ k, ba ≤ k → ¬ (0 < a.slots.length ∧ k = L.b1) := fun k hk h => by have := (HF5.out h.1).2.1; omega
    have HS5 := hide hS5
    clear hS5
    have c11r : wr.cell? ⟨ba, 11, none⟩ = some (.slice L.a1 len L.c1) := (HV.out.only.cell (p := ⟨ba, 11, none⟩) (by show ba < _; omega) (HS5.out ba (Nat.le_refl _))).trans c11
    by_cases hlt : j < len
    · have hlt' : j < a.slots.length := by rw [HLEN.out]; exact hlt
      have HLT := hide hlt'
      obtain ⟨hA1, _⟩ := HA.out (by omega)
      rw [hA1] at c11r
      obtain ⟨v, hv⟩ := HV.out.cell j hlt'
      have hfz := HV.out.fz (by omega) (o + j)
      have hj1 : (j : Int) < (len : Int) := by omega
      clear hA1 hlt' c11
      go_wp2_with fail
      go_roundw
      case rel => exact ⟨j + 1, by omega, by go_num, hide (HV.out.set HLT.out _)⟩
      case measure => simp [intOf]; omega
    · have hj1 : ¬ (j : Int) < (len : Int) := by omega
      have HO6 := hide (HO5.out.trans HV.out.only (fun i hi h => by have := (HF5.out h.1).1; omega))
      have HL6 := hide (HL5.out.kept HV.out.only (fun k hk hk2 h => HS5.out k (by have := HLO.out; omega) h))
      have HRB6 := hide (range_kept HRB5.out HV.out.only (HS5.out bb (by omega)))
      clear c11
      go_wp2_with fail
      refine (rdecode_own wr S HSM.out).mono ?_
      rintro e w6 hq
      obtain ⟨a3, n3, c3, L3, hdi3, hrf3, rfl⟩ := hq.ex
      obtain ⟨rfl, rfl, rfl⟩ := HDI.out.one hdi3
      have HRF3 := hide hrf3.at_
      have HO66 := hide hq.only
      have HO7 := hide (o2 HO6.out hq.only)
      have hs6 : bb < w6.heap.size := by have h1 := hq.only.size; have h2 := HV.out.only.size; omega
      have HN6 := hide (there_new w6 Rc.none Loc.none)
      have HOA6 := hide (onlyA w6 (.cells (Rc.none.cells Loc.none) 28))
      have hsw := HO7.out.size
      clear hq hdi3 hrf3
      go_upto_region 10 with (refine wpList_lay_rec rfl (.tmp 10) (.tmp 53) rfl w6.heap.size rfl a L3 rfl HN6.out ?_; intro W7 HW7; go_frame)
      have HO67 := hide ((HOA6.out.mono (T := fun k => k = w6.heap.size) (fun _ _ h => h.elim)).trans HW7.out.only (fun _ _ h => h))
      have HO8 := hide ((o2 HO7.out HOA6.out).trans HW7.out.only (fun i hi e => by omega))
      have HL7 := hide ((HL6.out.kept HO66.out (fun _ _ _ h => h)).kept HO67.out (fun k hk hk2 e => by omega))
      have HRB7 := hide (range_kept (range_kept HRB6.out HO66.out (fun h => h)) HO67.out (by omega))
      have HAT7 := hide (HRF3.out.newer (HO67.out.mono (fun _ _ e => by omega)))
      go_wp2_with (first
        | (refine wpList_load_rec rfl (.tmp 10) rfl w6.heap.size rfl a L3 HW7.out.range ?_; go_frame)
        | (refine wpList_load_rec rfl (.tmp 6) rfl bb rfl a M HRB7.out ?_; go_frame))
      refine (zsame_any W7 a a L3 M HAT7.out HL7.out.at_).mono ?_
      rintro e w8 ⟨hrb, ho8⟩
      obtain ⟨cc, rfl, hcc⟩ := hrb.ex
      obtain rfl := hcc.2 rfl
      have HO9 := hide (o2 HO8.out ho8)
      clear hrb hcc ho8
      go_wp2_with fail
      refine (rawake_any w8).mono ?_
      rintro e w9 ⟨rfl, ho9⟩
      have HO10 := hide (o2 HO9.out ho9)
      clear ho9
      go_wp2_with fail
      go_ret
      exact ⟨rfl, HO10.out⟩
end Go.Proofs.YtfjmidcldjfckaaGreatDoor

namespace Go.Proofs.YtfjmidcldjfckaaGreatDoor
open Go.ChangeShapes Go.WideShapes Go.ChangeAt Go.RowKit Go.Deep

theorem Tryz.laidOut : laidOutB Tryz.prog = true := by kernel_rfl
theorem Tryz.cellsInt : Tryz.prog.cellsOf 3 = 1 := by kernel_rfl
theorem Tryz.cellsStr : Tryz.prog.cellsOf 9 = 1 := by kernel_rfl
theorem Tryz.cellsStrs : Tryz.prog.cellsOf 43 = 1 := by kernel_rfl
theorem Tryz.bytesStr : Tryz.prog.bytesOf 9 = 16 := by kernel_rfl
theorem cell_spot {w : World} {a : Addr} {v : Value} (h : w.cell? a = some v) : a = ⟨a.block, a.off, none⟩ := by
  obtain ⟨b, o, s⟩ := a
  cases s with
  | none => rfl
  | some q =>
    unfold World.cell? at h
    split at h
    · simp at h
    · simp at h
theorem weightsAll_mem {H : Type} {P : Program} {e : TypeId} {d : DataW H} {l : List (DataW H)} {n : Nat} (hd : d ∈ l) (hn : n ∈ d.weights P e) : n ∈ DataW.weightsAll P e l := by
  induction l with
  | nil => cases hd
  | cons x t ih =>
    rw [DataW.weightsAll, List.mem_append]
    rcases List.mem_cons.1 hd with rfl | h
    · exact .inl hn
    · exact .inr (ih h)
/-- What a page that came in holds. -/
structure PgIn (W : World) (v : Value) (a k u r : Int) (h : ByteArray) (B : Nat) (ao : Option Addr) (cp : Nat) (l : List ByteArray) : Prop where
  val : v = .agg #[.int .i64 a, .int .i64 k, .int .i64 u, .int .i64 r, .string h, .slice ao l.length cp]
  a : -9223372036854775808 ≤ a ∧ a < 9223372036854775808
  k : -9223372036854775808 ≤ k ∧ k < 9223372036854775808
  u : -9223372036854775808 ≤ u ∧ u < 9223372036854775808
  r : -9223372036854775808 ≤ r ∧ r < 9223372036854775808
  high : h.size ≤ 140737488355328
  strs : Strs W B ao l
  fit : Fit ao l.length cp
  len : l.length ≤ 8796093021952
theorem strs_of_trod {H : Type} {enc : TypeId × Value → H} {W : World} {c : Value} {x : DataW H × List MemPlace} {n : Nat} (h : DataW.trod enc Tryz.prog W 0 (fun _ => true) true n 43 [c] = some x) (hw : ∀ m ∈ x.1.weights Tryz.prog 43, m ≤ reachBytes) :
    ∃ (B : Nat) (ao : Option Addr) (cp : Nat) (l : List ByteArray), c = .slice ao l.length cp ∧ Strs W B ao l ∧ Fit ao l.length cp ∧ l.length ≤ 8796093021952 := by
  rcases open_strs Tryz.underlying43 Tryz.underlying9 Tryz.cellsStr h with ⟨hcs, _⟩ | ⟨ad, len, cap, m, Sx, hcs, _, hl, hm, hmm, hx, hc⟩
  · simp at hcs
    subst hcs
    exact ⟨0, none, 0, [], rfl, Strs.nil _ _ _, ⟨fun _ => rfl, by simp, (by unfold maxLen; omega)⟩, by simp⟩
  · simp at hcs hmm
    subst hcs
    subst hmm
    rw [hx] at hw
    simp only [DataW.weights, Tryz.underlying43, Tryz.bytesStr] at hw
    have hwb := hw ((((List.range len).map fun i => DataW.lit (H := H) (.string (Sx i).data.toList)).length + ((List.range (m - len)).map fun j => DataW.lit (H := H) (.string (Sx (len + j)).data.toList)).length) * 16) (by simp)
    simp only [List.length_map, List.length_range] at hwb
    have hlen : ((List.range len).map Sx).length = len := by simp
    have hwr : reachBytes = 140737488351232 := by decide
    refine ⟨ad.block, some ad, m, (List.range len).map Sx, by rw [hlen], ⟨fun h0 => ?_, fun h0 => ?_, by rw [hlen]; omega, fun s hs => ?_⟩, ⟨(fun h => by cases h), (by rw [hlen]; exact hl), hm⟩, by rw [hlen]; omega⟩
    · rw [hlen] at h0
      have c0 := (hc 0 (by omega)).1
      have e0 : ad.add 0 = ad := by unfold Addr.add; split <;> simp_all
      rw [e0] at c0
      have ha := cell_spot c0
      refine ⟨ad.off, by rw [← ha], fun j hj => ?_⟩
      rw [hlen] at hj
      have cj := (hc j (by omega)).1
      rw [ha, add_at] at cj
      rw [cj]
      simp
    · rw [hlen] at h0
      have c0 := (hc 0 (by omega)).1
      have e0 : ad.add 0 = ad := by unfold Addr.add; split <;> simp_all
      rw [e0] at c0
      exact World.block_lt_of_cell? W _ c0
    · obtain ⟨i, hi, rfl⟩ := List.mem_map.1 hs
      have hmem : (DataW.lit (H := H) (.string (Sx i).data.toList)) ∈ (List.range len).map fun i => DataW.lit (H := H) (.string (Sx i).data.toList) := List.mem_map.2 ⟨i, hi, rfl⟩
      have := hw (Sx i).data.toList.length (by
        refine List.mem_cons_of_mem _ (List.mem_append.2 (.inl (weightsAll_mem hmem ?_)))
        simp [DataW.weights])
      rw [show (Sx i).data.toList.length = (Sx i).size from bl_len _] at this
      omega
set_option maxRecDepth 100000 in
theorem open_page {H : Type} {enc : TypeId × Value → H} {W : World} {base : Nat} {v : Value} {d : DataW H} {ps : List MemPlace} (hok : Value.okWide Tryz.prog W .any base 45 v) (h : DataW.Trod enc Tryz.prog W 0 (fun _ => true) true 45 v d ps)
    (hw : ∀ m ∈ d.weights Tryz.prog 45, m ≤ reachBytes) : ∃ a k u r h B ao cp l, PgIn W v a k u r h B ao cp l := by
  obtain ⟨cs, rfl, hs⟩ := okWide_struct Tryz.underlying45 hok
  obtain ⟨fuel, hf⟩ := h
  rw [Tryz.cellsPage] at hs
  obtain ⟨xs, n, _, hx, _, hlen, hfs⟩ := DataW.trod_struct Tryz.underlying45 hf
  obtain ⟨c0, c1, c2, c3, c4, c5, rfl⟩ : ∃ c0 c1 c2 c3 c4 c5, cs = #[c0, c1, c2, c3, c4, c5] := by
    obtain ⟨l⟩ := cs
    match l, hs with
    | [c0, c1, c2, c3, c4, c5], _ => exact ⟨c0, c1, c2, c3, c4, c5, rfl⟩
  match xs, hlen with
  | [y0, y1, y2, y3, y4, y5], _ =>
    simp only [Prod.mk.injEq] at hx
    have g0 := hfs 0 _ rfl
    have g1 := hfs 1 _ rfl
    have g2 := hfs 2 _ rfl
    have g3 := hfs 3 _ rfl
    have g4 := hfs 4 _ rfl
    have g5 := hfs 5 _ rfl
    simp [Value.cells, Tryz.cellsInt, Tryz.cellsStr, Tryz.cellsStrs] at g0 g1 g2 g3 g4 g5
    obtain ⟨a, e0, _, w0⟩ := DataW.trod_int Tryz.underlying3 g0
    obtain ⟨k, e1, _, w1⟩ := DataW.trod_int Tryz.underlying3 g1
    obtain ⟨u, e2, _, w2⟩ := DataW.trod_int Tryz.underlying3 g2
    obtain ⟨r, e3, _, w3⟩ := DataW.trod_int Tryz.underlying3 g3
    obtain ⟨h, e4, f4, _⟩ := DataW.trod_string Tryz.underlying9 g4
    simp at e0 e1 e2 e3 e4
    rw [hx.1] at hw
    simp only [DataW.weights, Tryz.underlying45] at hw
    have hw4 : ∀ m ∈ y4.1.weights Tryz.prog 9, m ≤ reachBytes := fun m hm => hw m (DataW.weights_mem_each (j := 4) (t := 9) (d := y4.1) rfl rfl m hm)
    have hw5 : ∀ m ∈ y5.1.weights Tryz.prog 43, m ≤ reachBytes := fun m hm => hw m (DataW.weights_mem_each (j := 5) (t := 43) (d := y5.1) rfl rfl m hm)
    obtain ⟨B, ao, cp, l, e5, hS, hF, hL⟩ := strs_of_trod g5 hw5
    have hwr : reachBytes = 140737488351232 := by decide
    have hh : h.size ≤ 140737488355328 := by
      rw [f4] at hw4
      have := hw4 h.data.toList.length (by simp [DataW.weights])
      rw [show h.data.toList.length = h.size from bl_len _] at this
      omega
    have b0 := bounds_i64 w0
    have b1 := bounds_i64 w1
    have b2 := bounds_i64 w2
    have b3 := bounds_i64 w3
    exact ⟨a, k, u, r, h, B, ao, cp, l, ⟨by rw [e0, e1, e2, e3, e4, e5], by omega, by omega, by omega, by omega, hh, hS, hF, hL⟩⟩
end Go.Proofs.YtfjmidcldjfckaaGreatDoor

namespace Go.Proofs.YtfjmidcldjfckaaGreatDoor
open Go.ChangeShapes Go.WideShapes Go.ChangeAt Go.RowKit

theorem ownKnob_none : ownKnob Tryz.prog.godebug = none := by kernel_rfl
theorem gFirst : Tryz.prog.globalNamed "unicode/utf8.first" = some 1 := by kernel_rfl
theorem gRanges : Tryz.prog.globalNamed "unicode/utf8.acceptRanges" = some 2 := by kernel_rfl
def putCells (cs : Array Value) : Obj → Obj
  | .cells _ t frozen => .cells cs t frozen
  | o => o
def firstCells : Array Value := (Go.Pinned.utf8FirstZ.map fun n : Nat => Value.int .u8 (n : Int)).toArray
def rangeCells : Array Value := #[.int .u8 128, .int .u8 191, .int .u8 160, .int .u8 191, .int .u8 128, .int .u8 159, .int .u8 144, .int .u8 191, .int .u8 128, .int .u8 143, .int .u8 0, .int .u8 0, .int .u8 0, .int .u8 0, .int .u8 0, .int .u8 0, .int .u8 0, .int .u8 0, .int .u8 0, .int .u8 0, .int .u8 0, .int .u8 0, .int .u8 0, .int .u8 0, .int .u8 0, .int .u8 0, .int .u8 0, .int .u8 0, .int .u8 0, .int .u8 0, .int .u8 0, .int .u8 0]
noncomputable def settled (os : Os) : World := World.holding Tryz.prog os ⟨#[], #[], []⟩
/-- A world for the witness: the settled one, the two tables as they are laid. -/
noncomputable def laidWorld (os : Os) : World := { settled os with heap := ((settled os).heap.modify 1 (putCells firstCells)).modify 2 (putCells rangeCells) }
theorem sized_mem {H : Type} {ts : List TypeId} {ds : List (DataW H)} (h : (DataW.weightsEach Tryz.prog ts ds).all (· ≤ reachBytes) = true) {j : Nat} {t : TypeId} {d : DataW H} (ht : ts[j]? = some t) (hd : ds[j]? = some d) : ∀ n ∈ d.weights Tryz.prog t, n ≤ reachBytes := by
  intro n hn
  have := List.all_eq_true.1 h _ (DataW.weights_mem_each ht hd n hn)
  simpa using this
end Go.Proofs.YtfjmidcldjfckaaGreatDoor

namespace Go.Proofs.YtfjmidcldjfckaaGreatDoor.recDecodes
open Go.ChangeShapes Go.WideShapes Go.ChangeAt Go.RowKit

theorem laid_met (os : Os) : laidMet Tryz.prog Rows.recDecodesRow.laid ((laidWorld os).forCall (fun _ _ => 0) ⟨#[], #[.string ByteArray.empty], []⟩).memory :=
  laidMet_of_run' 8 (by kernel_rfl) (by kernel_rfl)
set_option maxRecDepth 100000 in
theorem lifted (os : Os) (started : os.Started) (H : Type) (enc : TypeId × Value → H) (F : Stop.Interp) :
    ReturnsInHanded {} Tryz.checked os 3 .any ((OpenSpec.ofChange Rows.recDecodesSpec).preRow enc Tryz.prog Tryz.f3 Rows.recDecodesRow.domain false Rows.recDecodesRow.laid) (((OpenSpec.ofChange Rows.recDecodesSpec).at F).post enc Tryz.prog Tryz.f3 false true false false) := by
  refine returnsInHanded_of_row (C := Tryz.checked) (s := OpenSpec.ofChange Rows.recDecodesSpec) ownKnob_none started (by kernel_rfl) Tryz.func3
    (witness_row_at (enc := enc) (C := Tryz.checked) false (laidWorld os) #[.string ByteArray.empty] rfl (by kernel_rfl) (by kernel_rfl) (by kernel_rfl)
      (OpenSpec.preRow_of_cond (x := ([.lit (.string [])], [], [])) 8 (by kernel_rfl) (by kernel_rfl) (fun k hk => by cases hk) (by kernel_rfl) (laid_met os))) ?_
  intro W base args ds gs before hval0 hW _ _ hsz _ _ _
  have hval : ∀ (j : Nat) t v, Tryz.f3.params[j]? = some t → args[j]? = some v → Value.okWide Tryz.prog W .any base t v := hval0
  have hW' := hW
  obtain ⟨p, q, hA0, hV, rfl, hfz, hnd⟩ := hW
  have hA : DataW.TrodAll enc Tryz.prog W 0 (fun _ => true) true Tryz.f3.params.toList args.toList ds p := hA0
  rw [Tryz.params3] at hA hval hsz
  obtain ⟨v0, vs0, d0, ds0, p0, q0, hargs, rfl, rfl, h0, r0⟩ := trodAll_cons hA
  obtain ⟨rfl, rfl, rfl⟩ := trodAll_nil r0
  obtain rfl : args = #[v0] := by cases args; simp_all
  obtain ⟨rfl, rfl⟩ := trodVars_none hV
  obtain ⟨d, rfl, rfl, rfl, w1⟩ := ChangeMaps.open_string Tryz.underlying9 (hval 0 9 v0 rfl rfl) h0
  clear hA0 hval0
  simp only [List.append_nil] at hW'
  refine (rdecodes_law W d w1).mono fun e W' ⟨he, ho⟩ => ?_
  subst he
  have bel : Below W.heap.size W W' := ho.below (Nat.le_refl _) (fun _ _ h => h)
  exact ⟨_, rfl, _, _, _, [], _, [], hW', trodAll_mk1 (shut_bool Tryz.underlying4 _), (trodAll_cons_mk (ChangeMaps.shut_string Tryz.underlying9 w1) trodAll_mk0), rfl, bel.frame _, fun h => by cases h⟩

theorem said : Rows.RecDecodesSaid :=
  OpenClaim.holds_of_cond 3 Tryz.f3 rfl rfl rfl rfl rfl rfl rfl ⟨rfl, rfl, rfl, rfl, rfl⟩ rfl rfl rfl rfl rfl (by kernel_rfl) Tryz.func3 (by kernel_rfl)
    (of_decide_eq_true (by kernel_rfl)) (by unfold Func.isWrapper; first | (rw [if_pos (by decide +kernel)]; kernel_rfl) | (rw [if_neg (by decide +kernel)]; exact ⟨rfl, rfl⟩))
    (fun os started H enc _ F => by rw [OpenClaim.pre_eq_preRow]; exact lifted os started H enc F)
theorem plain (f : FuncId) (fn : Func) (hf : Tryz.pinned.checked.prog.funcNamed "almonry/almonrylaw04.RecDecodes" = some f) (hfn : Tryz.pinned.checked.prog.funcs[f]? = some fn) :
    false = Tryz.pinned.checked.prog.looks [] ∧ ∀ (j : Nat) t, fn.params[j]? = some t → Tryz.pinned.checked.prog.wantsStandIn t = false := by
  obtain rfl : f = 3 := Option.some.inj ((show Tryz.prog.funcNamed "almonry/almonrylaw04.RecDecodes" = some 3 by kernel_rfl).symm.trans hf) |>.symm
  obtain rfl : fn = Tryz.f3 := (Option.some.inj (Tryz.func3.symm.trans hfn)).symm
  refine ⟨by kernel_rfl, fun j t ht => ?_⟩
  rw [Tryz.params3] at ht
  obtain rfl : t = 9 := by simpa using Array.mem_of_getElem? ht
  exact (show Tryz.prog.wantsStandIn 9 = false by kernel_rfl)
theorem card : Rows.RecDecodesCardSaid :=
  Claim7.holds_tied_plain_at .later [] _ _ _ _ said (fun _ h => by cases h) (by kernel_rfl) (fun _ h => by cases h) recDecodes_row_tie rfl ⟨rfl, rfl⟩ (by kernel_rfl) rfl plain (by kernel_rfl)
end Go.Proofs.YtfjmidcldjfckaaGreatDoor.recDecodes
namespace Go.Proofs.YtfjmidcldjfckaaGreatDoor
theorem recDecodes_holds : Rows.RecDecodesCardSaid := recDecodes.card
#print axioms recDecodes_holds
end Go.Proofs.YtfjmidcldjfckaaGreatDoor
