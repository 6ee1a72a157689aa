/- What Fill, pick and the law's own examples do. -/
import Derived.Test.YtachbonlakbjmaaDWalkH
import Derived.BigRegion
namespace Go.Proofs.Ytachbonlakbjmaa
open Go.RowKit

/-- The byte of a sector that comes of a number. -/
def fillAt (n : Int) (i : Nat) : UInt8 := UInt8.ofNat ((wrap64 (n + wrap64 ((i : Int) * bits BinOp.and IntKind.i64 n 7))) % 256).toNat
def fillB (n : Int) : List UInt8 := (List.range 64).map (fillAt n)
theorem fillB_len (n : Int) : (fillB n).length = 64 := by simp [fillB]
theorem fill_step (n : Int) (j : Nat) (hj : j < 64) : ((fillB n).take j ++ List.replicate (64 - j) 0).set j (fillAt n j) = (fillB n).take (j + 1) ++ List.replicate (64 - (j + 1)) 0 := by
  have hl := fillB_len n
  have e : 64 - j = (64 - (j + 1)) + 1 := by omega
  rw [e, List.replicate_succ, List.set_append_right _ _ (by simp; omega), List.take_succ_eq_append_getElem (by omega)]
  simp [fillB, show min j 64 = j by omega]
set_option maxRecDepth 100000 in
set_option maxHeartbeats 800000 in
theorem fill_any (w : World) (n : Int) : Calls Try.prog 14 #[.int .i64 n] w fun e w' => e = .returned (.string ⟨(fillB n).toArray⟩) ∧ Only (fun _ => False) w w' := by
  obtain ⟨i0, hi, hz0, hz1, hz2⟩ := info_parts Try.infoByte
  have hmk := run_make_full (P := Try.prog) w w.heap.size 53 5 i0 (.int .u8 0) 1 Try.underlying53 hi hz0 hz1 .i64 .i64 64 (by rw [hz2]; omega) (by unfold maxLen; omega) (Nat.le_refl _)
  obtain ⟨w0, hmk1, hown, hg⟩ := hmk
  have hrow : Row w0 w.heap.size (.slice (some ⟨w.heap.size, 0, none⟩) 64 64) (some w.heap.size) ((fillB n).take 0 ++ List.replicate (64 - 0) 0) := by
    refine ⟨?_, rfl⟩
    have e := made_rep 64 1 (.int .u8 0) (by omega)
    have e2 : (madeCells (Value.int .u8 0).cells (64 * 1)).toList = cells (List.replicate 64 0) := by
      have : (Value.int .u8 0).cells = (List.replicate 1 (Value.int .u8 0)).toArray := rfl
      rw [this, e]
      unfold cells
      rw [List.map_replicate]
      rfl
    rw [e2] at hown
    simpa using hown
  have hO : Only (fun _ => False) w w0 := Only.grown hg (fun k hk => by cases hk)
  have HR0 := hide hrow
  have HO0 := hide hO
  simp only [Int.cast_ofNat_Int] at hmk1
  clear hrow hO hown hg hi hz0 hz1 hz2
  go_enter Try.func14, Try.ntmps14
  go_wp2
  go_loopw [4] (fun y wr => ∃ (j : Nat), j ≤ 64 ∧ y = .int .i64 (j : Int) ∧ Hid (Row wr w.heap.size (.slice (some ⟨w.heap.size, 0, none⟩) 64 64) (some w.heap.size) ((fillB n).take j ++ List.replicate (64 - j) 0)) ∧ Hid (Only (fun _ => False) w wr)) (fun y _ => 64 - (intOf y).toNat)
  case atStart => exact ⟨0, by omega, rfl, HR0, HO0⟩
  case round =>
    obtain ⟨j, hj, rfl, HR, HO⟩ := hrel
    by_cases hlt : j < 64
    · obtain ⟨⟨v, hc⟩, hf⟩ := HR.out.at0 hlt
      have hst := HR.out.store j (fillAt n j)
      rw [fill_step n j hlt] at hst
      have hj0 : (0 : Int) ≤ (j : Int) := by omega
      have hj1 : (j : Int) < 64 := by omega
      have HST := hide hst
      clear hst
      have HE : Hid (((fillAt n j).toNat : Int) = wrap64 (n + wrap64 ((j : Int) * bits BinOp.and IntKind.i64 n 7)) % 256) := by
        unfold Hid fillAt
        rw [byte_nat (by omega)]
        omega
      go_wp2
      go_roundw
      case rel =>
        rw [← HE.out]
        exact ⟨j + 1, by omega, by go_num, hide HST.out.1, hide (HO.out.trans HST.out.2 (fun i hi e => by omega))⟩
      case measure => simp [intOf]; omega
    · have ej : j = 64 := by omega
      subst ej
      have hcv := bytes_back wr _ _ _ _ HR.out
      have e : (fillB n).take 64 ++ List.replicate (64 - 64) 0 = fillB n := by rw [List.take_of_length_le (by rw [fillB_len]; omega)]; simp
      rw [e] at hcv
      go_wp2
      go_ret
      exact ⟨rfl, HO.out⟩
/-- Which of n things a number speaks of. -/
def pickP (c n : Int) : Int := (if c < 0 then -(c + 1) else c) % n
/-- The disk of the law's own examples, call by call. -/
def aw1 : Dk × Int := (Dk.new 4).write 1 (fillB 8)
def aw2 : Dk × Int := aw1.1.sync
def aw3 : Dk × Int := aw2.1.write 1 (fillB 16 ++ fillB 16)
def aw4 : Dk := aw3.1.crash [14]
set_option maxRecDepth 100000 in
theorem aw_all : aw1.2 = 0 ∧ aw2.2 = 0 ∧ aw3.2 = 0 ∧ aw3.1.acts = 4 ∧ (aw4.read 1 2).2 = 0 ∧ (aw4.read 1 2).1 = (fillB 16).take 4 ++ (fillB 8).drop 4 ++ List.replicate 64 0 ∧ (aw4.write 3 (fillB 8 ++ fillB 8)).2 = 20 := by
  refine ⟨by kernel_rfl, by kernel_rfl, by kernel_rfl, by kernel_rfl, by kernel_rfl, by kernel_rfl, by kernel_rfl⟩
theorem ints_one (w : World) (z : Int) (hz : -9223372036854775808 ≤ z ∧ z < 9223372036854775808) : Ints (w.alloc (.cells #[.int .i64 z] 3)) w.heap.size (some ⟨w.heap.size, 0, none⟩) [z] := by
  refine ⟨fun _ => ⟨0, rfl, fun j hj => ?_⟩, fun j hj => ?_, fun _ => by simp, by simp⟩
  · have e : j = 0 := by simpa using hj
    subst e
    simp
  · have e : j = 0 := by simpa using hj
    subst e
    simpa using hz
theorem zeros_made (w : World) : ∃ w', (Instr.makeSlice 53 (.int .i64 64) (.int .i64 64)).run Try.prog w = .ok (.slice (some ⟨w.heap.size, 0, none⟩) 64 64) w' ∧ (convert 53 9 (.slice (some ⟨w.heap.size, 0, none⟩) 64 64)).run Try.prog w' = .ok (.string ⟨(List.replicate 64 (0 : UInt8)).toArray⟩) w' ∧ Only (fun _ => False) w w' := by
  obtain ⟨i0, hi, hz0, hz1, hz2⟩ := info_parts Try.infoByte
  obtain ⟨w0, hmk1, hown, hg⟩ := run_make_full (P := Try.prog) w w.heap.size 53 5 i0 (.int .u8 0) 1 Try.underlying53 hi hz0 hz1 .i64 .i64 64 (by rw [hz2]; omega) (by unfold maxLen; omega) (Nat.le_refl _)
  have hrow : Row w0 w.heap.size (.slice (some ⟨w.heap.size, 0, none⟩) 64 64) (some w.heap.size) (List.replicate 64 0) := by
    refine ⟨?_, rfl⟩
    have e2 : (madeCells (Value.int .u8 0).cells (64 * 1)).toList = cells (List.replicate 64 0) := by
      have : (Value.int .u8 0).cells = (List.replicate 1 (Value.int .u8 0)).toArray := rfl
      rw [this, made_rep 64 1 (.int .u8 0) (by omega)]
      unfold cells
      rw [List.map_replicate]
      rfl
    rw [e2] at hown
    simpa using hown
  exact ⟨w0, hmk1, bytes_back w0 _ _ _ _ hrow, Only.grown hg (fun k hk => by cases hk)⟩
theorem add_bytes (a b : List UInt8) : (⟨a.toArray⟩ : ByteArray) ++ ⟨b.toArray⟩ = ⟨(a ++ b).toArray⟩ := by
  apply ByteArray.ext
  simp
set_option maxRecDepth 100000 in
set_option maxHeartbeats 1600000 in
theorem awake_any (w : World) : Calls Try.prog 7 #[] w fun e w' => e = .returned (.bool true) ∧ Only (fun _ => False) w w' := by
  obtain ⟨A, hA⟩ : ∃ A : List UInt8, fillB 8 = A := ⟨_, rfl⟩
  obtain ⟨B, hB⟩ : ∃ B : List UInt8, fillB 16 = B := ⟨_, rfl⟩
  have hAl : A.length = 64 := by rw [← hA]; exact fillB_len 8
  have hBl : B.length = 64 := by rw [← hB]; exact fillB_len 16
  have hf8 := fun w => fill_any w 8
  have hf16 := fun w => fill_any w 16
  have haw := aw_all
  obtain ⟨D1, e1⟩ : ∃ D1, aw1 = D1 := ⟨_, rfl⟩
  obtain ⟨D2, e2⟩ : ∃ D2, aw2 = D2 := ⟨_, rfl⟩
  obtain ⟨D3, e3⟩ : ∃ D3, aw3 = D3 := ⟨_, rfl⟩
  obtain ⟨D4, e4⟩ : ∃ D4, aw4 = D4 := ⟨_, rfl⟩
  have s1 : (Dk.new 4).write 1 A = D1 := by rw [← e1, ← hA]; rfl
  have s2 : D1.1.sync = D2 := by rw [← e2, ← e1]; rfl
  have s3 : D2.1.write 1 (B ++ B) = D3 := by rw [← e3, ← e2, ← hB]; rfl
  have s4 : D3.1.crash [14] = D4 := by rw [← e4, ← e3]; rfl
  rw [hA, hB, e1, e2, e3, e4] at haw
  rw [hA] at hf8
  rw [hB] at hf16
  obtain ⟨r1, r2, r3, r4, r5, r6, r7⟩ := haw
  have R1 := hide r1
  have R2 := hide r2
  have R3 := hide r3
  have R4 := hide r4
  have R5 := hide r5
  have R6 := hide r6
  have R7 := hide r7
  have S1 := hide s1
  have S2 := hide s2
  have S3 := hide s3
  have S4 := hide s4
  clear r1 r2 r3 r4 r5 r6 r7 s1 s2 s3 s4 e1 e2 e3 e4 hA hB
  obtain ⟨sa, ha⟩ : ∃ sa : ByteArray, (⟨A.toArray⟩ : ByteArray) = sa := ⟨_, rfl⟩
  obtain ⟨sb, hb⟩ : ∃ sb : ByteArray, (⟨B.toArray⟩ : ByteArray) = sb := ⟨_, rfl⟩
  have hsA : sa.size = 64 := by rw [← ha]; simp [ByteArray.size, hAl]
  have hsB : sb.size = 64 := by rw [← hb]; simp [ByteArray.size, hBl]
  have hadA : Hid ((sa ++ sa).data.toList = A ++ A) := by unfold Hid; rw [← ha, add_bytes]
  have hadB : Hid ((sb ++ sb).data.toList = B ++ B) := by unfold Hid; rw [← hb, add_bytes]
  have HA : Hid (sa.data.toList = A) := by unfold Hid; rw [← ha]
  obtain ⟨sz, hsz⟩ : ∃ sz : ByteArray, (⟨(List.replicate 64 (0 : UInt8)).toArray⟩ : ByteArray) = sz := ⟨_, rfl⟩
  have HX : Hid ((⟨(B.take 4 ++ A.drop 4 ++ List.replicate 64 0).toArray⟩ : ByteArray) = sb.extract 0 4 ++ sa.extract 4 64 ++ sz) := by
    unfold Hid
    rw [← hsz, ← ha, ← hb]
    apply ByteArray.ext
    simp only [ByteArray.data_append, ByteArray.data_extract]
    apply Array.ext'
    simp [List.extract_eq_take_drop, List.take_of_length_le (show (List.drop 4 A).length ≤ 60 by simp [hAl])]
  have hszz : sz.size = 64 := by rw [← hsz]; simp [ByteArray.size]
  have HZ := hide hsz
  rw [ha] at hf8
  rw [hb] at hf16
  clear ha hb hsz hAl hBl
  go_enter Try.func7, Try.ntmps7
  go_wp2_with fail
  refine (new_ok w 4 (by omega) (by omega)).mono ?_
  rintro e w1 ⟨rfl, hD1, hO1⟩
  obtain ⟨d, hd⟩ : ∃ d, w.heap.size + 2 = d := ⟨_, rfl⟩
  obtain ⟨m, hm⟩ : ∃ m, w.heap.size + 1 = m := ⟨_, rfl⟩
  obtain ⟨g, hg⟩ : ∃ g, w.heap.size = g := ⟨_, rfl⟩
  rw [hd, hm, hg] at hD1
  rw [hd]
  have hge : w.heap.size ≤ d ∧ w.heap.size ≤ g ∧ w.heap.size ≤ m := by omega
  have HS : Hid (∀ i, i < w.heap.size → own d g m i → False) := fun i hi ho => by unfold own at ho; omega
  have HD1 := hide hD1
  have HO1 := hide hO1
  clear hd hm hg hD1 hO1 hge
  go_wp2_with fail
  refine (hf8 _).mono ?_
  rintro e w2 ⟨rfl, hO2⟩
  have HD2 := hide (HD1.out.same hO2)
  have HO2 := hide (HO1.out.trans hO2 (fun _ _ h => h))
  clear hO2 HD1 HO1
  go_wp2_with fail
  refine (hf16 _).mono ?_
  rintro e w3 ⟨rfl, hO3⟩
  have HD3 := hide (HD2.out.same hO3)
  have HO3 := hide (HO2.out.trans hO3 (fun _ _ h => h))
  clear hO3 HD2 HO2 hf8 hf16
  go_wp2_with fail
  have hw := write_any w3 d g m _ HD3.out 1 sa (by omega) (by rw [hsA]; omega)
  rw [HA.out, S1.out, R1.out] at hw
  refine hw.mono ?_
  rintro e w4 ⟨rfl, hD4, hO4⟩
  have HD4 := hide hD4
  have HO4 := hide (HO3.out.trans hO4 HS.out)
  clear hO4 HD3 HO3 hw hD4
  go_wp2_with fail
  have hw := sync_any w4 d g m _ HD4.out
  rw [S2.out, R2.out] at hw
  refine hw.mono ?_
  rintro e w5 ⟨rfl, hD5, hO5⟩
  have HD5 := hide hD5
  have HO5 := hide (HO4.out.trans hO5 HS.out)
  clear hO5 HD4 HO4 hw hD5
  go_wp2_with fail
  have hw := write_any w5 d g m _ HD5.out 1 (sb ++ sb) (by omega) (by simp; omega)
  rw [hadB.out, S3.out, R3.out] at hw
  refine hw.mono ?_
  rintro e w6 ⟨rfl, hD6, hO6⟩
  have HD6 := hide hD6
  have HO6 := hide (HO5.out.trans hO6 HS.out)
  clear hO6 HD5 HO5 hw hD6
  go_wp2_with fail
  have hw := acts_any w6 d g m _ HD6.out
  rw [R4.out] at hw
  refine hw.mono ?_
  rintro e w7 ⟨rfl, hw7⟩
  obtain rfl := hw7.symm
  clear hw
  go_wp2_with fail
  have hlt := HD6.out
  have hlt2 := And.intro hlt.lt (And.intro hlt.old.lt hlt.map.lt)
  have hw := crash_any _ d g m _ (HD6.out.alloc (.cells #[.int .i64 14] 3)) w6.heap.size _ 1 [14] (ints_one w6 14 (by omega)) (fun _ ho => by unfold own at ho; omega)
  rw [S4.out] at hw
  refine hw.mono ?_
  rintro e w8 ⟨rfl, hD8, hO8⟩
  have HD8 := hide hD8
  have HO8 := hide ((HO6.out.trans (Only.alloc (fun _ => False) w6 _) (fun _ _ h => h)).trans hO8 HS.out)
  clear hO8 HD6 HO6 hw hD8 hlt hlt2
  go_wp2_with fail
  have hw := read_any w8 d g m _ HD8.out 1 2 (by omega)
  rw [R5.out, R6.out, HX.out] at hw
  refine hw.mono ?_
  rintro e w9 ⟨rfl, hO9⟩
  have HD9 := hide (HD8.out.same hO9)
  have HO9 := hide (HO8.out.trans hO9 (fun _ _ h => h))
  clear hO9 HD8 HO8 hw
  go_wp2_with fail
  have hw := write_any w9 d g m _ HD9.out 3 (sa ++ sa) (by omega) (by simp; omega)
  rw [hadA.out, R7.out] at hw
  refine hw.mono ?_
  rintro e w10 ⟨rfl, hD10, hO10⟩
  have HO10 := hide (HO9.out.trans hO10 HS.out)
  clear hO10 hD10 HD9 HO9 hw
  go_wp2_with fail
  obtain ⟨w11, hmk, hcv, hO11⟩ := zeros_made w10.drew
  have HO11 : Hid (Only (fun _ => False) w w11) := (HO10.out.trans (Only.drew (fun _ => False) w10) (fun _ _ h => h)).trans hO11 (fun _ _ h => h)
  clear hO11
  rw [HZ.out] at hcv
  have hdz : w10.drew.heap.size = w10.heap.size := rfl
  rw [hdz] at hmk hcv
  clear hdz
  clear hadA hadB HO10 HS HZ HX HA
  go_region
  go_wp2
  go_ret
  exact ⟨rfl, HO11.out⟩
end Go.Proofs.Ytachbonlakbjmaa
