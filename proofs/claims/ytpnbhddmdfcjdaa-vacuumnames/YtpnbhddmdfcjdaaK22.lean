/- Parts. -/
import Derived.Test.YtpnbhddmdfcjdaaK21
set_option maxRecDepth 100000
namespace Go.Proofs.Ytpnbhddmdfcjdaa
open Go.RowKit
/-- Two texts in a new block. -/
theorem Strs.two (w : World) (s t : ByteArray) (hs : s.size ≤ 140737488355328) (ht : t.size ≤ 140737488355328) : Strs (w.alloc (.cells #[.string s, .string t] 9)) w.heap.size (some ⟨w.heap.size, 0, none⟩) [s, t] :=
  ⟨fun _ => ⟨0, rfl, fun j hj => by
    have hj2 : j = 0 ∨ j = 1 := by simp at hj; omega
    rcases hj2 with rfl | rfl <;> simp⟩, fun _ => by simp, by simp, fun u hu => by
    simp at hu
    rcases hu with rfl | rfl
    · exact hs
    · exact ht⟩
theorem repeat_any (c : Nat) (hc : c ≤ 512) (W : World) :
    Calls Try.prog 27 #[.string ⟨#[0]⟩, .int .i64 (c : Int)] W fun e w' => e = .returned (.string (str (List.replicate c 0))) ∧ Only (fun _ => False) W w' := by
  have e1 : (⟨#[0]⟩ : ByteArray).size = 1 := rfl
  have h1 := Try.strings_Repeat ⟨#[0]⟩ c W (by omega) (by rw [e1]; omega)
  refine Calls.mono h1 ?_
  rintro e w' ⟨rfl, hb⟩
  refine ⟨?_, only_below hb⟩
  rw [rep_zero]
  rfl
theorem Pag.zero (w : World) : Pag (w.alloc (.cells #[.int .i64 0, .int .i64 0, .int .i64 0, .int .i64 0, .string ⟨#[]⟩, .slice none 0 0] 30)) w.heap.size (.int .i64 0) (.int .i64 0) (.int .i64 0) (.int .i64 0) (.string ⟨#[]⟩) (.slice none 0 0) := Pag.new w _ _ _ _ _ _
set_option maxRecDepth 100000 in
set_option maxHeartbeats 800000 in
theorem cblank_err (w : World) (m f : Int) (hm : I64 m) (hf : I64 f) (hI : ¬ Idd m f) :
    Calls Try.prog 10 #[.int .i64 m, .int .i64 f] w fun e w' => Res w w' e .none 1 := by
  have HI := hide (fun W => cisID_any m f W hm hf)
  simp only [decide_eq_false hI] at HI
  have HP := hide (Pag.zero w)
  have HO := hide (onlyA w (.cells #[.int .i64 0, .int .i64 0, .int .i64 0, .int .i64 0, .string ⟨#[]⟩, .slice none 0 0] 30))
  have hm1 := hm.1
  have hm2 := hm.2
  have hf1 := hf.1
  have hf2 := hf.2
  clear hI hm hf
  go_enter Try.func10, Try.ntmps10
  go_wp2_with fail
  refine (HI.out _).mono ?_
  rintro e w1 ⟨rfl, hw⟩
  rw [← hw] at HP HO
  clear hw
  obtain ⟨q0, q1, q2, q3, q4, q5, t0, t1, t2, t3, t4, t5, tl⟩ := HP.out
  go_wp2_with fail
  refine bodyPost_ret (results_page rfl rfl (Pag.six HP.out _ _ _ _ _ _)) rfl ?_
  exact res_none (Nat.le_refl _) HO.out 1 _ _ _ _ _ _
set_option maxRecDepth 100000 in
set_option maxHeartbeats 800000 in
theorem cblank_ok (w : World) (m f : Int) (hI : Idd m f) :
    Calls Try.prog 10 #[.int .i64 m, .int .i64 f] w fun e w' => Res w w' e (blankP m f) 0 := by
  have hm : I64 m := ⟨by have := hI.1.1; omega, by have := hI.1.2.1; omega⟩
  have hx : I64 f := ⟨by have := hI.2; omega, by have := hI.2; have := hI.1.2.1; omega⟩
  have HI := hide (fun W => cisID_any m f W hm hx)
  simp only [decide_eq_true hI] at HI
  have HL := hide (fun W => laidLimit_any f W (by have := hI.2; omega) (by have := hI.2; have := hI.1.2.1; omega))
  have HB := hide (fun W => statusBytes_any m W hI.1)
  have hn := (nb_bd hI.1).2.1
  have HR := hide (fun W => repeat_any (nb m) (by omega) W)
  have HP := hide (Pag.zero w)
  have HO := hide (onlyA w (.cells #[.int .i64 0, .int .i64 0, .int .i64 0, .int .i64 0, .string ⟨#[]⟩, .slice none 0 0] 30))
  have hm1 := hm.1
  have hm2 := hm.2
  have hf1 := hx.1
  have hf2 := hx.2
  have hse : (sev f.toNat).length ≤ 10 := sevF_len 9 _
  unfold blankP
  obtain ⟨n, hnn⟩ : ∃ n, nb m = n := ⟨_, rfl⟩
  simp only [hnn] at HB HR hn
  rw [hnn]
  obtain ⟨S, hS⟩ : ∃ S, str (sev f.toNat) = S := ⟨_, rfl⟩
  obtain ⟨Z, hZ⟩ : ∃ Z, str (List.replicate n 0) = Z := ⟨_, rfl⟩
  have HS : Hid (S.size ≤ 140737488355328) := by unfold Hid; rw [← hS, str_size]; omega
  have HZ : Hid (Z.size ≤ 140737488355328) := by unfold Hid; rw [← hZ, str_size, List.length_replicate]; omega
  simp only [hS] at HL
  simp only [hZ] at HR
  rw [hS, hZ]
  clear hI hm hx hnn hS hZ hse
  go_enter Try.func10, Try.ntmps10
  go_wp2_with fail
  refine (HI.out _).mono ?_
  rintro e w1 ⟨rfl, hw⟩
  obtain rfl := hw.symm
  clear hw
  go_wp2_with fail
  refine (HL.out _).mono ?_
  rintro e w2 ⟨rfl, ho2⟩
  have HO2 := hide (o2 HO.out ho2)
  have HP2 := hide (HP.out.more ho2)
  clear ho2
  go_wp2_with fail
  refine (HB.out _).mono ?_
  rintro e w1 ⟨rfl, hw⟩
  obtain rfl := hw.symm
  clear hw
  go_wp2_with fail
  refine (HR.out _).mono ?_
  rintro e w3 ⟨rfl, ho3⟩
  have HO3 := hide (o2 HO2.out ho3)
  have HP3 := hide (HP2.out.more ho3)
  clear ho3
  have HP4 := hide (HP3.out.more (onlyA w3 (.cells #[.string S, .string Z] 9)))
  have HO4 := hide (o2 HO3.out (onlyA w3 (.cells #[.string S, .string Z] 9)))
  have HS4 := hide (Strs.two w3 S Z HS.out HZ.out)
  have hlt := HP3.out.lt
  go_upto_region 4 with fail
  obtain ⟨g, hg⟩ : ∃ g, w3.heap.size = g := ⟨_, rfl⟩
  obtain ⟨w4, hw4⟩ : ∃ w4, w3.alloc (.cells #[.string S, .string Z] 9) = w4 := ⟨_, rfl⟩
  rw [hw4] at HP4 HO4 HS4 ⊢
  rw [hg] at HS4 hlt ⊢
  clear hw4 hg HP3 HO3
  obtain ⟨q0, q1, q2, q3, q4, q5, t0, t1, t2, t3, t4, t5, tl⟩ := HP4.out
  go_wp2_with fail
  refine bodyPost_ret (results_page rfl rfl (Pag.six HP4.out _ _ _ _ _ _)) rfl ?_
  exact res_end (cp := 2) (Nat.le_refl _) ⟨0, 1, 0, 0, ⟨#[]⟩, [S, Z]⟩ HS4.out ⟨(fun h => by cases h), Nat.le_refl _, (by unfold maxLen; omega)⟩ HO4.out (fun _ => hlt) 0 _ _ _ _ _ _
end Go.Proofs.Ytpnbhddmdfcjdaa
