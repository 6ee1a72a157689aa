/- What the document's dead, Key and State do. -/
import Derived.Test.YthcpmcpgbipgoaaURefD
namespace Go.Proofs.Ythcpmcpgbipgoaa
open Go.RowKit

set_option maxRecDepth 100000 in
set_option maxHeartbeats 1600000 in
theorem tdeadk_any (s : ByteArray) (w : World) (hz : s.size ≤ 140737488355328) :
    Calls Try.prog 40 #[.string s] w fun e w' => (∃ K, e = .returned (.tuple #[.string K, .bool (deadK (bl s)).isSome]) ∧ ∀ k, deadK (bl s) = some k → K = k) ∧ Only (fun _ => False) w w' := by
  have hl := bl_len s
  by_cases h0 : s.size = 0
  · have es : s = ⟨#[]⟩ := bl_inj (List.eq_nil_of_length_eq_zero (by omega))
    subst es
    clear h0 hl hz
    go_enter Try.func40, Try.ntmps40
    go_wp2_with fail
    go_ret2
    exact ⟨⟨_, rfl, fun k h => by cases h⟩, Only.refl _ _⟩
  · have hz0 : 0 < s.size := by omega
    obtain ⟨a, r, h1, h2⟩ := get_first s hz0
    have hne : s.toList.isEmpty = false := by
      rw [ByteArray.toList_eq]
      cases e : s.data.toList with
      | nil => rw [show s.data.toList = bl s from rfl, h1] at e; cases e
      | cons a r => rfl
    by_cases h4 : a = 4
    · have n4 : ((s[0].toNat : Int) != 4) = false := by rw [h2, h4]; rfl
      have t1 : (1 : Int) ≤ (s.size : Int) := by omega
      obtain ⟨D, hD⟩ : ∃ D, s.extract 1 s.size = D := ⟨_, rfl⟩
      have bD : bl D = (bl s).drop 1 := by rw [← hD, ext_blU]; exact List.take_of_length_le (by simp)
      have HSZ : Hid (D.size ≤ maxLen - 100) := by
        have e := bl_len D
        rw [bD, List.length_drop] at e
        unfold Hid maxLen
        omega
      obtain ⟨P, hP⟩ : ∃ P, stx 24 (bl D) 0 = P := ⟨_, rfl⟩
      obtain ⟨K, hK⟩ : ∃ K, str P.1 = K := ⟨_, rfl⟩
      obtain ⟨E, hE⟩ : ∃ E, endE P.2.1 P.2.2 = E := ⟨_, rfl⟩
      obtain ⟨O, hO⟩ : ∃ O, okK K = O := ⟨_, rfl⟩
      have HOK : Hid (∀ W, Calls Try.prog 27 #[.string K] W fun e w' => e = .returned (.bool O) ∧ w' = W) := fun W => by
        rw [← hO]
        exact right_any K W
      have HDE : Hid (deadK (bl s) = if E = 0 ∧ O = true then some K else none) := by
        have e0 : rdT 24 ((bl s).drop 1) = P := by rw [← hP, bD]; rfl
        have e4 : (bl s).head? = some 4 := by rw [h1, h4]; rfl
        unfold Hid deadK endD
        rw [e0, hE, hK, hO, e4]
        simp
      have HP := hide hP
      have HK := hide hK
      have HE := hide hE
      have HD := hide hD
      have HRN := hide (Xs.new w D)
      have HON := hide (onlyA w (.cells #[.string D, .int .i64 0, .int .i64 0] 56))
      clear hD hP hK hE hO bD h1 h2 h4 h0 hl hz
      go_enter Try.func40, Try.ntmps40
      go_wp2_with fail
      rw [HD.out]
      refine (xtext_st _ _ D (bl D) 0 24 HRN.out HSZ.out).mono ?_
      rintro e w1 ⟨rfl, hr1, ho1⟩
      rw [HP.out] at hr1 ⊢
      rw [HK.out]
      have HR1 := hide hr1
      have HO1 : Hid (Only (fun _ => False) w w1) := HON.out.trans ho1 (fun i hi e => by omega)
      clear hr1 ho1
      go_wp2_with fail
      refine (xend_st _ _ D P.2.1 P.2.2 HR1.out).mono ?_
      rintro e w2 ⟨rfl, ho2⟩
      rw [HE.out]
      have HO2 := hide (o2 HO1.out ho2)
      clear ho2
      by_cases he : E = 0
      · subst he
        have HX : Hid (deadK (bl s) = if O = true then some K else none) := by unfold Hid; rw [HDE.out]; simp
        go_wp2_with fail
        refine (HOK.out _).mono ?_
        rintro e w3 ⟨rfl, hw⟩
        obtain rfl := hw.symm
        clear hw
        cases O
        · go_wp2_with fail
          go_ret2
          exact ⟨⟨K, by rw [HX.out]; rfl, fun k h => by rw [HX.out] at h; cases h⟩, HO2.out⟩
        · go_wp2_with fail
          go_ret2
          exact ⟨⟨K, by rw [HX.out]; rfl, fun k h => by rw [HX.out] at h; simpa using h⟩, HO2.out⟩
      · have he' : (E == 0) = false := by simpa using he
        have HX : Hid (deadK (bl s) = none) := by unfold Hid; rw [HDE.out, if_neg (fun h => he h.1)]
        clear he
        go_wp2_with fail
        go_ret2
        exact ⟨⟨K, by rw [HX.out]; rfl, fun k h => by rw [HX.out] at h; cases h⟩, HO2.out⟩
    · have n4 : ((s[0].toNat : Int) != 4) = true := by rw [h2]; simpa using u8_ne h4
      have HX : Hid (deadK (bl s) = none) := by
        unfold Hid deadK
        rw [if_neg (fun h => ?_)]
        rw [h1] at h
        exact h4 (by simpa using h.1)
      clear h1 h2 h4 h0 hl hz
      go_enter Try.func40, Try.ntmps40
      go_wp2_with fail
      go_ret2
      exact ⟨⟨⟨#[]⟩, by rw [HX.out]; rfl, fun k h => by rw [HX.out] at h; cases h⟩, Only.refl _ _⟩
set_option maxRecDepth 100000 in
set_option maxHeartbeats 1600000 in
theorem tkey_any (s : ByteArray) (w : World) (hz : s.size ≤ 140737488355328) :
    Calls Try.prog 18 #[.string s] w fun e w' => e = .returned (outK (keyT (bl s))) ∧ Only (fun _ => False) w w' := by
  have HC := hide (tdecode_any s w hz)
  have HDK : Hid (∀ W, Calls Try.prog 40 #[.string s] W fun e w' => (∃ K, e = .returned (.tuple #[.string K, .bool (deadK (bl s)).isSome]) ∧ ∀ k, deadK (bl s) = some k → K = k) ∧ Only (fun _ => False) W w') := fun W => tdeadk_any s W hz
  unfold keyT
  cases hd : decT (bl s) with
  | none =>
    rw [hd, outT_none] at HC
    simp only
    obtain ⟨o, ho⟩ : ∃ o, deadK (bl s) = o := ⟨_, rfl⟩
    rw [ho] at HDK ⊢
    clear hd ho hz
    go_enter Try.func18, Try.ntmps18
    go_wp2_with fail
    refine HC.out.mono ?_
    rintro e w1 ⟨rfl, ho1⟩
    have HO1 := hide ho1
    clear ho1
    go_wp2_with fail
    refine (HDK.out _).mono ?_
    rintro e w2 ⟨⟨K, rfl, hK⟩, ho2⟩
    have HO2 := hide (o2 (o2 HO1.out (onlyA _ _)) ho2)
    have HKK := hide hK
    clear ho2 hK
    cases o with
    | none =>
      simp only [Option.isSome_none]
      go_wp2_with fail
      go_ret2
      exact ⟨rfl, HO2.out⟩
    | some k =>
      have e := HKK.out k rfl
      subst e
      simp only [Option.isSome_some]
      clear HKK
      go_wp2_with fail
      go_ret2
      exact ⟨rfl, HO2.out⟩
  | some t =>
    rw [hd, outT_some] at HC
    simp only
    rw [outK_some]
    clear hd HDK hz
    go_enter Try.func18, Try.ntmps18
    go_wp2_with fail
    refine HC.out.mono ?_
    rintro e w1 ⟨rfl, ho1⟩
    have HO1 := hide ho1
    clear ho1
    go_wp2_with fail
    go_ret2
    exact ⟨rfl, o2 HO1.out (onlyA _ _)⟩
set_option maxRecDepth 100000 in
set_option maxHeartbeats 1600000 in
theorem tstate_any (s : ByteArray) (w : World) (hz : s.size ≤ 140737488355328) :
    Calls Try.prog 20 #[.string s] w fun e w' => e = .returned (.int .u8 (stT (bl s))) ∧ Only (fun _ => False) w w' := by
  have HC := hide (tdecode_any s w hz)
  have HDK : Hid (∀ W, Calls Try.prog 40 #[.string s] W fun e w' => (∃ K, e = .returned (.tuple #[.string K, .bool (deadK (bl s)).isSome]) ∧ ∀ k, deadK (bl s) = some k → K = k) ∧ Only (fun _ => False) W w') := fun W => tdeadk_any s W hz
  have he : s.toList.isEmpty = decide (bl s = []) := by
    rw [ByteArray.toList_eq]
    show (bl s).isEmpty = _
    cases bl s <;> rfl
  unfold stT
  obtain ⟨o, ho⟩ : ∃ o, decT (bl s) = o := ⟨_, rfl⟩
  obtain ⟨b, hb⟩ : ∃ b, (deadK (bl s)).isSome = b := ⟨_, rfl⟩
  rw [ho] at HC ⊢
  rw [hb] at HDK ⊢
  clear ho hb hz
  cases o with
  | none =>
    rw [outT_none] at HC
    by_cases h0 : bl s = []
    · rw [decide_eq_true h0] at he
      rw [if_pos h0]
      clear h0
      cases b
      all_goals
        go_enter Try.func20, Try.ntmps20
        go_wp2_with fail
        refine HC.out.mono ?_
        rintro e w1 ⟨rfl, ho1⟩
        have HO1 := hide ho1
        clear ho1
        go_wp2_with fail
        refine (HDK.out _).mono ?_
        rintro e w2 ⟨⟨K, rfl, hK⟩, ho2⟩
        have HO2 := hide (o2 (o2 HO1.out (onlyA _ _)) ho2)
        clear ho2 hK
        go_wp2_with fail
        go_ret
        exact ⟨rfl, HO2.out⟩
    · rw [decide_eq_false h0] at he
      rw [if_neg h0]
      clear h0
      cases b
      all_goals
        go_enter Try.func20, Try.ntmps20
        go_wp2_with fail
        refine HC.out.mono ?_
        rintro e w1 ⟨rfl, ho1⟩
        have HO1 := hide ho1
        clear ho1
        go_wp2_with fail
        refine (HDK.out _).mono ?_
        rintro e w2 ⟨⟨K, rfl, hK⟩, ho2⟩
        have HO2 := hide (o2 (o2 HO1.out (onlyA _ _)) ho2)
        clear ho2 hK
        go_wp2_with fail
        go_ret
        exact ⟨rfl, HO2.out⟩
  | some t =>
    rw [outT_some] at HC
    clear he
    go_enter Try.func20, Try.ntmps20
    go_wp2_with fail
    refine HC.out.mono ?_
    rintro e w1 ⟨rfl, ho1⟩
    have HO1 := hide ho1
    clear ho1
    go_wp2_with fail
    refine (HDK.out _).mono ?_
    rintro e w2 ⟨⟨K, rfl, hK⟩, ho2⟩
    have HO2 := hide (o2 (o2 HO1.out (onlyA _ _)) ho2)
    clear ho2 hK
    go_wp2_with fail
    go_ret
    exact ⟨rfl, HO2.out⟩
end Go.Proofs.Ythcpmcpgbipgoaa
