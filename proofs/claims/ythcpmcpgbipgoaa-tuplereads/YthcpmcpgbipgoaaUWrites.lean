/- What the document's Dead does; walk of TupleWrites. -/
import Derived.Test.YthcpmcpgbipgoaaULaw
namespace Go.Proofs.Ythcpmcpgbipgoaa
open Go.RowKit

set_option maxRecDepth 100000 in
set_option maxHeartbeats 800000 in
theorem tdead_any (k : ByteArray) (w : World) :
    Calls Try.prog 12 #[.string k] w fun e w' => e = .returned (.tuple #[.string (str (dOut k)), .int .i64 (dErr k)]) ∧ Only (fun _ => False) w w' := by
  have HC : Hid (∀ W, Calls Try.prog 27 #[.string k] W fun e w' => e = .returned (.bool (okK k)) ∧ w' = W) := fun W => right_any k W
  unfold dOut dErr
  cases h : okK k
  · rw [h] at HC
    clear h
    go_enter Try.func12, Try.ntmps12
    go_wp2_with fail
    refine (HC.out _).mono ?_
    rintro e w0 ⟨rfl, hw⟩
    obtain rfl := hw.symm
    clear hw
    go_wp2_with fail
    go_ret2
    exact ⟨rfl, Only.refl _ _⟩
  · rw [h] at HC
    have hk := okK_iff.1 h
    have HL : Hid (∀ W, Calls Try.prog 29 #[.string k] W fun e w' => e = .returned (.string (str (txL k))) ∧ Only (fun _ => False) W w') := fun W => refText_any W k (by omega)
    obtain ⟨Y, hY⟩ : ∃ Y, str (txL k) = Y := ⟨_, rfl⟩
    have sY : Y.size ≤ 25 := by rw [← hY, str_size, txL_len _ (by omega)]; omega
    have HE : Hid ((⟨#[4]⟩ : ByteArray) ++ Y = str (dlay k)) := by
      unfold Hid
      rw [← hY]
      exact str_catU [4] (txL k)
    rw [hY] at HL
    clear h hY hk
    go_enter Try.func12, Try.ntmps12
    go_wp2_with fail
    refine (HC.out _).mono ?_
    rintro e w0 ⟨rfl, hw⟩
    obtain rfl := hw.symm
    clear hw
    go_wp2_with fail
    refine (HL.out _).mono ?_
    rintro e w1 ⟨rfl, ho⟩
    have HO1 := hide ho
    clear ho
    go_wp2_with fail
    go_ret2
    exact ⟨by simp [HE.out], HO1.out⟩
theorem ret_tdead (k : ByteArray) : Ret 12 #[.string k] (.tuple #[.string (str (dOut k)), .int .i64 (dErr k)]) := fun W => tdead_any k W
theorem ret_tenc (t : Tu) (h0 : -9223372036854775808 ≤ t.xmin ∧ t.xmin < 9223372036854775808) (h1 : -9223372036854775808 ≤ t.xmax ∧ t.xmax < 9223372036854775808) : Ret 10 #[.agg #[.int .i64 t.xmin, .int .i64 t.xmax, .bool t.frozen, .string t.key, .string t.value]] (.tuple #[.string (str t.out), .int .i64 t.err]) := fun W => tencode_any t W h0 h1
set_option maxRecDepth 100000 in
set_option maxHeartbeats 3200000 in
theorem writes_law (w : World) (t : Tu) (h0 : -9223372036854775808 ≤ t.xmin ∧ t.xmin < 9223372036854775808) (h1 : -9223372036854775808 ≤ t.xmax ∧ t.xmax < 9223372036854775808) :
    Calls Try.prog 3 #[.agg #[.int .i64 t.xmin, .int .i64 t.xmax, .bool t.frozen, .string t.key, .string t.value]] w fun e w' => e = .returned (.bool true) ∧ Only (fun _ => False) w w' := by
  have HAW := hide ret_awake
  have HFR := hide ret_free
  have HE := hide (ret_enc t h0 h1)
  have HF := hide (ret_tenc t h0 h1)
  have HD := hide (ret_dead t.key)
  have HG := hide (ret_tdead t.key)
  have HB := hide (Tb.new w t)
  have HO := hide (onlyA w (.cells #[.int .i64 t.xmin, .int .i64 t.xmax, .bool t.frozen, .string t.key, .string t.value] 23))
  obtain ⟨A, hA⟩ : ∃ x, str t.out = x := ⟨_, rfl⟩
  obtain ⟨D, hD⟩ : ∃ x, str (dOut t.key) = x := ⟨_, rfl⟩
  obtain ⟨e1, he1⟩ : ∃ x, t.err = x := ⟨_, rfl⟩
  obtain ⟨e2, he2⟩ : ∃ x, dErr t.key = x := ⟨_, rfl⟩
  rw [hA, he1] at HE HF
  rw [hD, he2] at HD HG
  clear h0 h1 hA hD he1 he2
  go_enter Try.func3, Try.ntmps3
  go_wp2_with fail
  refine (HE.out _).mono ?_
  rintro e x1 ⟨rfl, ho⟩
  have HB := hide (HB.out.more ho)
  have HO := hide (o2 HO.out ho)
  clear ho
  have c0 := HB.out.c0
  have c1 := HB.out.c1
  have c2 := HB.out.c2
  have c3 := HB.out.c3
  have c4 := HB.out.c4
  go_wp2_with fail
  refine (HF.out _).mono ?_
  rintro e x2 ⟨rfl, ho⟩
  have HB := hide (HB.out.more ho)
  have HO := hide (o2 HO.out ho)
  clear ho c0 c1 c2 c3 c4
  have c0 := HB.out.c0
  have c1 := HB.out.c1
  have c2 := HB.out.c2
  have c3 := HB.out.c3
  have c4 := HB.out.c4
  go_wp2_with fail
  refine (HD.out _).mono ?_
  rintro e x3 ⟨rfl, ho⟩
  have HB := hide (HB.out.more ho)
  have HO := hide (o2 HO.out ho)
  clear ho c0 c1 c2 c3 c4
  have c0 := HB.out.c0
  have c1 := HB.out.c1
  have c2 := HB.out.c2
  have c3 := HB.out.c3
  have c4 := HB.out.c4
  go_wp2_with fail
  refine (HG.out _).mono ?_
  rintro e x4 ⟨rfl, ho⟩
  have HB := hide (HB.out.more ho)
  have HO := hide (o2 HO.out ho)
  clear ho
  go_wp2_with fail
  refine (HFR.out _).mono ?_
  rintro e x5 ⟨rfl, ho⟩
  have HO := hide (o2 HO.out ho)
  clear ho
  go_wp2_with fail
  refine (HAW.out _).mono ?_
  rintro e x6 ⟨rfl, ho⟩
  have HO := hide (o2 HO.out ho)
  clear ho
  go_wp2_with fail
  go_ret
  exact ⟨rfl, HO.out⟩
end Go.Proofs.Ythcpmcpgbipgoaa
