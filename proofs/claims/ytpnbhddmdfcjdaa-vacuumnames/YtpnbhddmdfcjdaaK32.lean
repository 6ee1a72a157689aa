/- Parts. -/
import Derived.Test.YtpnbhddmdfcjdaaK31
set_option maxRecDepth 100000
namespace Go.Proofs.Ytpnbhddmdfcjdaa
open Go.RowKit
/-- What Dead answers. -/
def dOut (k : ByteArray) : List UInt8 := if okK k then dlay k else []
def dErr (k : ByteArray) : Int := if okK k then 0 else 110
set_option maxRecDepth 100000 in
set_option maxHeartbeats 800000 in
theorem udead_any (k : ByteArray) (w : World) :
    Calls Try.prog 13 #[.string k] w fun e w' => e = .returned (.tuple #[.string (str (dOut k)), .int .i64 (dErr k)]) ∧ Only (fun _ => False) w w' := by
  have HC : Hid (∀ W, Calls Try.prog 32 #[.string k] W fun e w' => e = .returned (.bool (okK k)) ∧ w' = W) := fun W => isKey_any k W
  unfold dOut dErr
  cases h : okK k
  · rw [h] at HC
    clear h
    go_enter Try.func13, Try.ntmps13
    go_wp2_with fail
    refine (HC.out _).mono ?_
    rintro e w0 ⟨rfl, hw⟩
    obtain rfl := hw.symm
    clear hw
    go_wp2_with fail
    go_ret2
    exact ⟨rfl, Only.refl _ _⟩
  · rw [h] at HC
    have hk := okK_iff.1 h
    have HS := hide (strs1 w k (by omega))
    have HO := hide (onlyA w (.cells #[.string k] 9))
    have HL : Hid (∀ W B, Strs W B (some ⟨B, 0, none⟩) [k] → Calls Try.prog 33 #[.slice (some ⟨B, 0, none⟩) 1 1] W fun e w' => e = .returned (.string (str (txL k))) ∧ Only (fun _ => False) W w') := fun W B hs => by
      have := ulaid_any W B 1 (some ⟨B, 0, none⟩) [k] hs (by simp) (fun s hs => by
        simp only [List.mem_cons, List.not_mem_nil, or_false] at hs
        subst hs
        omega)
      rw [show txsL [k] = txL k by simp [txsL]] at this
      exact this
    obtain ⟨Y, hY⟩ : ∃ Y, str (txL k) = Y := ⟨_, rfl⟩
    have sY : Y.size ≤ 25 := by rw [← hY, str_size, txL_len _ (by omega)]; omega
    have HE : Hid ((⟨#[4]⟩ : ByteArray) ++ Y = str (dlay k)) := by
      unfold Hid
      rw [← hY]
      exact str_catU [4] (txL k)
    rw [hY] at HL
    clear h hY hk
    go_enter Try.func13, Try.ntmps13
    go_wp2_with fail
    refine (HC.out _).mono ?_
    rintro e w0 ⟨rfl, hw⟩
    obtain rfl := hw.symm
    clear hw
    go_wp2_with fail
    refine (HL.out _ _ HS.out).mono ?_
    rintro e w1 ⟨rfl, ho⟩
    have HO1 := hide (o2 HO.out ho)
    clear ho
    go_wp2_with fail
    go_ret2
    exact ⟨by simp [HE.out], HO1.out⟩
/-- What deadKey and Key answer. -/
def outK (o : Option ByteArray) : Value := .tuple #[.string (o.getD ⟨#[]⟩), .bool o.isSome]
set_option maxRecDepth 100000 in
set_option maxHeartbeats 1600000 in
theorem deadKey_any (s : ByteArray) (w : World) :
    Calls Try.prog 23 #[.string s] w fun e w' => e = .returned (outK (deadK (bl s))) ∧ Only (fun _ => False) w w' := by
  have HC := hide (cut_any s w)
  obtain ⟨f, hf⟩ : ∃ f, fourB (bl s) = f := ⟨_, rfl⟩
  obtain ⟨D, hD⟩ : ∃ D, behind s = D := ⟨_, rfl⟩
  obtain ⟨P, hP⟩ : ∃ P, stx 24 (bl D) 0 = P := ⟨_, rfl⟩
  obtain ⟨K, hK⟩ : ∃ K, str P.1 = K := ⟨_, rfl⟩
  obtain ⟨E, hE⟩ : ∃ E, endE P.2.1 P.2.2 = E := ⟨_, rfl⟩
  obtain ⟨O, hO⟩ : ∃ O, okK K = O := ⟨_, rfl⟩
  have HOK : Hid (∀ W, Calls Try.prog 32 #[.string K] W fun e w' => e = .returned (.bool O) ∧ w' = W) := fun W => by
    rw [← hO]
    exact isKey_any K W
  have HDE : Hid (deadK (bl s) = if f = true ∧ E = 0 ∧ O = true then some K else none) := by
    unfold Hid
    have hfi : (bl s).head? = some 4 ↔ f = true := by
      rw [← hf]
      unfold fourB
      simp
    by_cases h4 : f = true
    · have bD : bl D = (bl s).drop 1 := by
        rw [← hD]
        unfold behind
        rw [hf, h4, if_pos rfl, ext_blU]
        exact List.take_of_length_le (by simp)
      have e0 : rdT 24 ((bl s).drop 1) = P := by rw [← hP, bD]; rfl
      unfold deadK endD
      rw [e0, hE, hK, hO]
      simp only [hfi]
    · unfold deadK
      rw [if_neg (fun h => h4 (hfi.1 h.1)), if_neg (fun h => h4 h.1)]
  rw [hf, hD] at HC
  have HP := hide hP
  have HK := hide hK
  have HE := hide hE
  have HRN := hide (Rd.new w D)
  have HON := hide (onlyA w (.cells #[.string D, .int .i64 0] 121))
  clear hf hD hP hK hE hO
  go_enter Try.func23, Try.ntmps23
  go_wp2_with fail
  refine HC.out.mono ?_
  rintro e w0 ⟨rfl, hw⟩
  obtain rfl := hw.symm
  clear hw
  go_wp2_with fail
  refine (read_any D _).mono ?_
  rintro e w0 ⟨rfl, hw⟩
  obtain rfl := hw.symm
  clear hw
  go_wp2_with fail
  refine (rtext_st _ _ D 0 24 HRN.out).mono ?_
  rintro e w1 ⟨rfl, hr1, ho1⟩
  rw [HP.out] at hr1 ⊢
  rw [HK.out]
  have HR1 := hide hr1
  have HO1 : Hid (Only (fun _ => False) w w1) := HON.out.trans ho1 (fun i hi e => by omega)
  clear hr1 ho1
  cases f
  · have HX : Hid (deadK (bl s) = none) := by unfold Hid; rw [HDE.out]; rfl
    go_wp2_with fail
    go_ret2
    exact ⟨by rw [HX.out]; rfl, HO1.out⟩
  · go_wp2_with fail
    refine (rend_st _ _ (str P.2.1) P.2.2 HR1.out).mono ?_
    rintro e w0 ⟨rfl, hw⟩
    obtain rfl := hw.symm
    clear hw
    rw [bl_str, HE.out]
    by_cases he : E = 0
    · subst he
      have HX : Hid (deadK (bl s) = if O = true then some K else none) := by unfold Hid; rw [HDE.out]; simp
      go_wp2_with fail
      refine (HOK.out _).mono ?_
      rintro e w0 ⟨rfl, hw⟩
      obtain rfl := hw.symm
      clear hw
      cases O
      · go_wp2_with fail
        go_ret2
        exact ⟨by rw [HX.out]; rfl, HO1.out⟩
      · go_wp2_with fail
        go_ret2
        exact ⟨by rw [HX.out]; rfl, HO1.out⟩
    · have he' : (E != 0) = true := by simpa using he
      have HX : Hid (deadK (bl s) = none) := by unfold Hid; rw [HDE.out, if_neg (fun h => he h.2.1)]
      clear he
      go_wp2_with fail
      go_ret2
      exact ⟨by rw [HX.out]; rfl, HO1.out⟩
set_option maxRecDepth 100000 in
set_option maxHeartbeats 1600000 in
theorem ukey_any (s : ByteArray) (w : World) :
    Calls Try.prog 7 #[.string s] w fun e w' => e = .returned (outK (keyT (bl s))) ∧ Only (fun _ => False) w w' := by
  have HC := hide (udecode_any s w)
  have HDK : Hid (∀ W, Calls Try.prog 23 #[.string s] W fun e w' => e = .returned (outK (deadK (bl s))) ∧ Only (fun _ => False) W w') := fun W => deadKey_any s W
  unfold keyT
  cases hd : decT (bl s) with
  | none =>
    rw [hd] at HC
    simp only
    unfold outT noT Tu.agg at HC
    obtain ⟨o, ho⟩ : ∃ o, deadK (bl s) = o := ⟨_, rfl⟩
    rw [ho] at HDK ⊢
    unfold outK at HDK ⊢
    clear hd ho
    simp only [Option.getD_none, Option.isSome_none] at HC
    go_enter Try.func7, Try.ntmps7
    go_wp2_with fail
    refine HC.out.mono ?_
    rintro e w1 ⟨rfl, ho1⟩
    have HO1 := hide ho1
    clear ho1
    go_wp2_with fail
    refine (HDK.out _).mono ?_
    rintro e w2 ⟨rfl, ho2⟩
    have HO2 := hide (o2 (o2 HO1.out (onlyA _ _)) ho2)
    clear ho2
    go_wp2_with fail
    go_ret2
    exact ⟨rfl, HO2.out⟩
  | some t =>
    rw [hd] at HC
    simp only
    unfold outT Tu.agg at HC
    unfold outK
    clear hd HDK
    simp only [Option.getD_some, Option.isSome_some] at HC
    go_enter Try.func7, Try.ntmps7
    go_wp2_with fail
    refine HC.out.mono ?_
    rintro e w1 ⟨rfl, ho1⟩
    have HO1 := hide ho1
    clear ho1
    go_wp2_with fail
    go_ret2
    exact ⟨rfl, o2 HO1.out (onlyA _ _)⟩
set_option maxRecDepth 100000 in
set_option maxHeartbeats 1600000 in
theorem ustate_any (s : ByteArray) (w : World) :
    Calls Try.prog 8 #[.string s] w fun e w' => e = .returned (.int .u8 (stT (bl s))) ∧ Only (fun _ => False) w w' := by
  have hl := bl_len s
  by_cases h0 : bl s = []
  · have e : stT (bl s) = 1 := by rw [h0]; rfl
    have es : s = ⟨#[]⟩ := bl_inj h0
    rw [e]
    subst es
    clear h0 e hl
    go_enter Try.func8, Try.ntmps8
    go_wp2_with fail
    go_ret
    exact ⟨rfl, Only.refl _ _⟩
  · have hne : s.toList.isEmpty = false := by
      rw [ByteArray.toList_eq]
      cases e : s.data.toList with
      | nil => exact absurd e h0
      | cons a r => rfl
    have HDK := hide (deadKey_any s w)
    cases hk : deadK (bl s) with
    | some k =>
      have e : stT (bl s) = 2 := by
        unfold stT
        rw [dead_dec hk, hk]
        rfl
      rw [e]
      rw [hk] at HDK
      unfold outK at HDK
      simp only [Option.getD_some, Option.isSome_some] at HDK
      clear e hk h0 hl
      go_enter Try.func8, Try.ntmps8
      go_wp2_with fail
      refine HDK.out.mono ?_
      rintro e w1 ⟨rfl, ho1⟩
      have HO1 := hide ho1
      clear ho1
      go_wp2_with fail
      go_ret
      exact ⟨rfl, HO1.out⟩
    | none =>
      have HC : Hid (∀ W, Calls Try.prog 22 #[.string s] W fun e w' => e = .returned (outT (decT (bl s))) ∧ Only (fun _ => False) W w') := fun W => udecode_any s W
      have e : stT (bl s) = if (decT (bl s)).isSome then 3 else 0 := by
        unfold stT
        rw [hk]
        simp [h0]
      rw [e]
      rw [hk] at HDK
      unfold outK at HDK
      simp only [Option.getD_none, Option.isSome_none] at HDK
      clear e hk h0 hl
      obtain ⟨o, ho⟩ : ∃ o, decT (bl s) = o := ⟨_, rfl⟩
      rw [ho] at HC ⊢
      clear ho
      unfold outT Tu.agg at HC
      cases o
      all_goals
        simp only [Option.getD_some, Option.isSome_some, Option.getD_none, Option.isSome_none] at HC
        go_enter Try.func8, Try.ntmps8
        go_wp2_with fail
        refine HDK.out.mono ?_
        rintro e w1 ⟨rfl, ho1⟩
        have HO1 := hide ho1
        clear ho1
        go_wp2_with fail
        refine (HC.out _).mono ?_
        rintro e w2 ⟨rfl, ho2⟩
        have HO2 := hide (o2 HO1.out ho2)
        clear ho2
        go_wp2_with fail
        go_ret
        exact ⟨rfl, o2 HO2.out (onlyA _ _)⟩
end Go.Proofs.Ytpnbhddmdfcjdaa
