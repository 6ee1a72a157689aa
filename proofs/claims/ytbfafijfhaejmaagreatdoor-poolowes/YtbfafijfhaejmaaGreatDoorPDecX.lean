/- What Decode does. -/
import Derived.Test.YtbfafijfhaejmaaGreatDoorPDecW
namespace Go.Proofs.YtbfafijfhaejmaaGreatDoor
open Go.RowKit

theorem dec_size {l : List UInt8} (h : l.length ≠ 512) : dec l = (.none, 31) := by unfold dec; rw [if_pos h]
theorem dec_sum {l : List UInt8} (h : l.length = 512) (h2 : ofTo (l.take 4) ≠ sum (l.drop 4)) : dec l = (.none, 30) := by unfold dec; rw [if_neg (by omega), if_pos h2]
theorem dec_bad {l : List UInt8} (h : l.length = 512) (h2 : ofTo (l.take 4) = sum (l.drop 4)) (h3 : ∀ p t, pre (l.drop 4) = some (p, t) → ¬ good (l.drop 4) p t) : dec l = (.none, 31) := by
  unfold dec
  rw [if_neg (by omega), if_neg (by simpa using h2)]
  cases ho : pre (l.drop 4) with
  | none => rfl
  | some q => simp only; rw [if_neg (h3 _ _ ho)]
theorem dec_good {l : List UInt8} {p : Pg} {t : List UInt8} (h : l.length = 512) (h2 : ofTo (l.take 4) = sum (l.drop 4)) (h3 : pre (l.drop 4) = some (p, t)) (h4 : good (l.drop 4) p t) : dec l = (p, 0) := by
  unfold dec
  rw [if_neg (by omega), if_neg (by simpa using h2), h3]
  simp only
  rw [if_pos h4]

theorem str_some (s : ByteArray) (h : 0 < s.size) : s.toList.isEmpty = false := by
  rw [ByteArray.toList_eq]
  cases hl : s.data.toList with
  | nil =>
    have h1 : s.data.toList.length = 0 := by rw [hl]; rfl
    have h2 : s.data.toList.length = s.size := by rw [Array.length_toList]; rfl
    omega
  | cons a t => rfl
set_option maxRecDepth 100000 in
set_option maxHeartbeats 1600000 in
theorem pdecode_any (w : World) (S : ByteArray) : Calls Tryz.prog 44 #[.string S] w fun e w' => Res w w' e (dec (bl S)).1 (dec (bl S)).2 := by
  have HP := hide (Pag.new w (.int .i64 0) (.int .i64 0) (.int .i64 0) (.int .i64 0) (.string ⟨#[]⟩) (.slice none 0 0))
  have HO0 := hide (onlyA w (.cells #[.int .i64 0, .int .i64 0, .int .i64 0, .int .i64 0, .string ⟨#[]⟩, .slice none 0 0] 45))
  have L := bl_len S
  by_cases h5 : S.size = 512
  · have h5' : ((S.size : Int) != 512) = false := by simp; omega
    have t4 : (4 : Int) ≤ (S.size : Int) := by omega
    obtain ⟨A, hA⟩ : ∃ A, S.extract 0 4 = A := ⟨_, rfl⟩
    obtain ⟨D, hD⟩ : ∃ D, S.extract 4 S.size = D := ⟨_, rfl⟩
    have bA : bl A = (bl S).take 4 := by rw [← hA, ext_bl, List.drop_zero]
    have bD : bl D = (bl S).drop 4 := by rw [← hD, ext_bl, List.take_of_length_le (by omega)]
    have sA : A.size = 4 := by rw [← bl_len, bA]; simp; omega
    have sD : D.size = 508 := by rw [← bl_len, bD]; simp; omega
    have hq := ofTo_small ((bl S).take 4) (by simp; omega)
    have l4 : ((bl S).take 4).length = 4 := by simp; omega
    rw [l4, show (256 : Int) ^ 4 = 4294967296 by decide] at hq
    obtain ⟨q, hqe⟩ : ∃ q, ofTo ((bl S).take 4) = q := ⟨_, rfl⟩
    obtain ⟨z, hz⟩ : ∃ z, sum ((bl S).drop 4) = z := ⟨_, rfl⟩
    have hzb := sum_bd ((bl S).drop 4)
    rw [hqe] at hq
    rw [hz] at hzb
    have HOF : Hid (∀ W, Calls Tryz.prog 83 #[.string A] W fun e w' => e = .returned (.int .i64 q) ∧ w' = W) := fun W => by
      have h1 := of_any A W (by unfold maxLen; omega)
      rw [show A.data.toList = (bl S).take 4 from bA, hqe, show q % 9223372036854775808 = q by omega] at h1
      exact h1
    have HSU : Hid (∀ W, Calls Tryz.prog 84 #[.string D] W fun e w' => e = .returned (.int .u32 z) ∧ w' = W) := fun W => by
      have h1 := sum_any D W (by unfold maxLen; omega)
      rw [show D.data.toList = (bl S).drop 4 from bD, hz] at h1
      exact h1
    have HPA : Hid (∀ W, Calls Tryz.prog 85 #[.string D] W fun e w' => PaQ W w' e ((bl S).drop 4)) := fun W => by
      have h1 := parts_list W D sD
      rw [bD] at h1
      exact h1
    have hL : (bl S).length = 512 := by omega
    have q0 := hq.1
    have q1 := hq.2
    have z0 := hzb.1
    have z1 := hzb.2
    have hwz : wrap64 z = z := w64_id z (by omega)
    have HQE := hide hqe
    have HZE := hide hz
    have HL := hide hL
    clear hq hzb bA bD sA sD l4 hqe hz hL L h5
    by_cases hqz : q = z
    · have hne : (q != z) = false := by simp [hqz]
      have HEQ : Hid (ofTo ((bl S).take 4) = sum ((bl S).drop 4)) := by unfold Hid; rw [HQE.out, HZE.out, hqz]
      clear hqz
      go_enter Tryz.func44, Tryz.ntmps44
      go_wp2_with fail
      go_quiet ((first | (go_at_call 83; exact Calls.quiet_of_same (HOF.out _)) | (go_at_call 84; exact Calls.quiet_of_same (HSU.out _))))
      go_wp2_with fail
      refine (HPA.out _).mono ?_
      intro e w2 hp2
      have HO2 := hide (o2 (onlyN _ nq) hp2.only)
      have HP2 := hide (HP.out.more HO2.out)
      have hz2 : w.heap.size < w2.heap.size := HP2.out.lt
      have hzW : w.heap.size < ((w.alloc (.cells #[.int .i64 0, .int .i64 0, .int .i64 0, .int .i64 0, .string ⟨#[]⟩, .slice none 0 0] 45)).drewN nq).heap.size := (HP.out.more (onlyN _ nq)).lt
      obtain ⟨p0, p1, p2, p3, p4, p5, g0, g1, g2, g3, g4, g5, gl⟩ := HP2.out
      by_cases hb : ∃ p t, pre ((bl S).drop 4) = some (p, t) ∧ (((bl S).drop 4).getD 0 0).toNat ≤ 127 ∧ (1 ≤ p.kind ∧ p.kind ≤ 3)
      · obtain ⟨p, t, hpt, hbk⟩ := hb
        obtain ⟨B, ao, cp, he, hS, hF, hB⟩ := hp2.good p t hpt hbk
        subst he
        have HSS := hide hS
        have HFF := hide hF
        have HBB : Hid (0 < p.items.length → w.heap.size < B) := fun h => Nat.lt_of_lt_of_le hzW (hB h)
        have htl : t.length ≤ 512 := by have := (pre_is _ _ _ (by rw [List.length_drop, HL.out]) hpt).size; omega
        have HPT := hide hpt
        have HBK := hide hbk
        clear hp2 hS hF hB hpt hbk hzW
        obtain ⟨Tr, hTr⟩ : ∃ Tr, (⟨(Lib.trimB (str t).data.toList 0).toArray⟩ : ByteArray) = Tr := ⟨_, rfl⟩
        have HTRIM : Hid (∀ W, Calls Tryz.prog 86 #[.string (str t), .string ⟨#[0]⟩] W fun e w' => e = .returned (.string Tr) ∧ Hid (Only (fun _ => False) W w')) := fun W => by
          have h1 := Tryz.strings_Trim_one (str t) 0 (by decide) W (by rw [str_size]; omega)
          rw [hTr] at h1
          exact h1.mono (fun e w' hx => ⟨hx.1, by rcases hx.2 with h | h; (rw [h]; exact Only.refl _ _); (rw [h]; exact Only.drew _ _)⟩)
        by_cases hz : t = List.replicate t.length 0
        · have hTe : Tr = ⟨#[]⟩ := by
            rw [← hTr, show (str t).data.toList = t from rfl, (trim_iff t).2 hz]
          have HD : Hid (dec (bl S) = (p, 0)) := dec_good HL.out HEQ.out HPT.out ⟨HBK.out.1, HBK.out.2, hz⟩
          subst hTe
          clear hTr hz
          go_wp2_with fail
          refine (HTRIM.out _).mono ?_
          rintro e w3 ⟨rfl, HO3⟩
          have HO3' := hide (o2 (onlyA w2 (.cells #[.int .i64 p.lsn, .int .i64 p.kind, .int .i64 p.level, .int .i64 p.right, .string p.high, .slice ao p.items.length cp] 45)) HO3.out)
          have HP3 := hide (HP2.out.more HO3'.out)
          have HQ3 := hide ((Pag.new w2 (.int .i64 p.lsn) (.int .i64 p.kind) (.int .i64 p.level) (.int .i64 p.right) (.string p.high) (.slice ao p.items.length cp)).more HO3.out)
          clear p0 p1 p2 p3 p4 p5 g0 g1 g2 g3 g4 g5 gl
          obtain ⟨p0, p1, p2, p3, p4, p5, g0, g1, g2, g3, g4, g5, gl⟩ := HP3.out
          obtain ⟨q0', q1', q2, q3, q4, q5, _⟩ := HQ3.out
          go_wp2_with fail
          refine bodyPost_ret (results_page rfl rfl (Pag.six HP3.out _ _ _ _ _ _)) rfl ?_
          rw [HD.out]
          have ho6 := Only.six w3 w.heap.size (.int .i64 p.lsn) (.int .i64 p.kind) (.int .i64 p.level) (.int .i64 p.right) (.string p.high) (.slice ao p.items.length cp)
          exact ⟨B, ao, cp, rfl, (HSS.out.more HO3'.out).kept ho6 (fun h0 e => by have := HBB.out h0; omega), HFF.out, (o2 HO0.out (o2 HO2.out HO3'.out)).trans ho6 (fun i hi e => by omega), fun h0 => Nat.le_of_lt (HBB.out h0)⟩
        · have hTs : 0 < Tr.size := by
            rw [← hTr, show (str t).data.toList = t from rfl]
            show 0 < (Lib.trimB t 0).length
            have := fun h => hz ((trim_iff t).1 h)
            exact List.length_pos_iff.2 this
          have hTn : Tr.toList.isEmpty = false := str_some Tr hTs
          have HD : Hid (dec (bl S) = (.none, 31)) := dec_bad HL.out HEQ.out (fun p' t' h' hg => by rw [HPT.out] at h'; cases h'; exact hz hg.2.2)
          clear hTr hz hTs
          go_wp2_with fail
          refine (HTRIM.out _).mono ?_
          rintro e w3 ⟨rfl, HO3⟩
          have HO3' := hide (o2 (onlyA w2 (.cells #[.int .i64 p.lsn, .int .i64 p.kind, .int .i64 p.level, .int .i64 p.right, .string p.high, .slice ao p.items.length cp] 45)) HO3.out)
          have HP3 := hide (HP2.out.more HO3'.out)
          clear p0 p1 p2 p3 p4 p5 g0 g1 g2 g3 g4 g5 gl
          obtain ⟨p0, p1, p2, p3, p4, p5, g0, g1, g2, g3, g4, g5, gl⟩ := HP3.out
          go_wp2_with fail
          refine bodyPost_ret (results_page rfl rfl (Pag.six HP3.out _ _ _ _ _ _)) rfl ?_
          rw [HD.out]
          exact Res.none 31 ((o2 HO0.out (o2 HO2.out HO3'.out)).trans (Only.six w3 w.heap.size _ _ _ _ _ _) (fun i hi e => by omega))
      · obtain ⟨u0, u1, u2, u3, u4, st, he⟩ := hp2.bad (fun p t h1 h2 => hb ⟨p, t, h1, h2⟩)
        subst he
        have HD : Hid (dec (bl S) = (.none, 31)) := dec_bad HL.out HEQ.out (fun p t h1 h2 => hb ⟨p, t, h1, h2.1, h2.2.1⟩)
        clear hp2 hb hzW
        go_upto_region 6 with fail
        have HP3 := hide (HP2.out.more (onlyA w2 (.cells #[.int .i64 u0, .int .i64 u1, .int .i64 u2, .int .i64 u3, .string u4, .slice none 0 0] 45)))
        have HO3 := hide (o2 HO0.out (o2 HO2.out (onlyA w2 (.cells #[.int .i64 u0, .int .i64 u1, .int .i64 u2, .int .i64 u3, .string u4, .slice none 0 0] 45))))
        obtain ⟨w3, hw3⟩ : ∃ w3, w2.alloc (.cells #[.int .i64 u0, .int .i64 u1, .int .i64 u2, .int .i64 u3, .string u4, .slice none 0 0] 45) = w3 := ⟨_, rfl⟩
        rw [hw3] at HP3 HO3 ⊢
        clear hw3 p0 p1 p2 p3 p4 p5 g0 g1 g2 g3 g4 g5 gl
        obtain ⟨p0, p1, p2, p3, p4, p5, g0, g1, g2, g3, g4, g5, gl⟩ := HP3.out
        go_wp2_with fail
        refine bodyPost_ret (results_page rfl rfl (Pag.six HP3.out _ _ _ _ _ _)) rfl ?_
        rw [HD.out]
        exact Res.none 31 (HO3.out.trans (Only.six _ w.heap.size _ _ _ _ _ _) (fun i hi e => by omega))
    · have hne : (q != z) = true := by simpa using hqz
      have HD : Hid (dec (bl S) = (.none, 30)) := dec_sum HL.out (by rw [HQE.out, HZE.out]; exact hqz)
      clear hqz
      go_enter Tryz.func44, Tryz.ntmps44
      go_wp2_with fail
      go_quiet ((first | (go_at_call 83; exact Calls.quiet_of_same (HOF.out _)) | (go_at_call 84; exact Calls.quiet_of_same (HSU.out _))))
      go_wp2_with fail
      have HP3 := hide (HP.out.more (onlyN _ nq))
      have ho3 := o2 HO0.out (onlyN _ nq)
      refine bodyPost_ret (results_page rfl rfl (Pag.six HP3.out _ _ _ _ _ _)) rfl ?_
      rw [HD.out]
      exact Res.none 30 (ho3.trans (Only.six _ w.heap.size _ _ _ _ _ _) (fun i hi e => by omega))
  · have h5' : ((S.size : Int) != 512) = true := by simp; omega
    have HD : Hid (dec (bl S) = (.none, 31)) := dec_size (by omega)
    clear h5 L
    go_enter Tryz.func44, Tryz.ntmps44
    go_wp2_with fail
    refine bodyPost_ret (results_page rfl rfl (Pag.new w _ _ _ _ _ _)) rfl ?_
    rw [HD.out]
    exact Res.none 31 (onlyA _ _)
end Go.Proofs.YtbfafijfhaejmaaGreatDoor
