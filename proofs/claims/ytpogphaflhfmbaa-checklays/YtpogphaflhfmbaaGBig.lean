/- A number as bytes and back, as the document says; noughts. -/
import Derived.Test.YtpogphaflhfmbaaGWalkA
import Derived.Test.YtpogphaflhfmbaaPShelf
import Derived.Lib.Repeat
namespace Go.Proofs.Ytpogphaflhfmbaa
open Go.RowKit

theorem cat_eqG (a : List UInt8) (s : ByteArray) : (⟨a.toArray⟩ : ByteArray) ++ s = ⟨(a ++ s.data.toList).toArray⟩ := by
  obtain ⟨⟨l⟩⟩ := s
  simp [ByteArray.ext_iff]
theorem str_catG (a b : List UInt8) : str a ++ str b = str (a ++ b) := cat_eqG a ⟨b.toArray⟩
theorem byte_runG (w : World) (u : UInt8) : (convert 53 9 (.slice (some ⟨w.heap.size, 0, none⟩) 1 1)).run Try.prog (w.alloc (.cells #[.int .u8 (u.toNat : Int)] 5)) = .ok (.string (str [u])) (w.alloc (.cells #[.int .u8 (u.toNat : Int)] 5)) := by
  refine run_convert_bytes_back _ 53 9 5 ⟨w.heap.size, 0, none⟩ 1 [u] Try.underlying53 Try.underlying5 Try.underlying9 ?_
  intro j hj
  match j, hj with
  | 0, _ => simp [Addr.add]
theorem pow256 {k n : Nat} (h : k ≤ n) : (256 : Int) ^ k ≤ 256 ^ n := by
  have h1 := Nat.pow_le_pow_right (n := 256) (by omega) h
  have e : ∀ m : Nat, ((256 ^ m : Nat) : Int) = 256 ^ m := fun m => by simp
  rw [← e k, ← e n]
  omega
theorem big_zero (k : Nat) : bigF k 0 = List.replicate k 0 := by
  induction k with
  | zero => rfl
  | succ k ih =>
    rw [bigF, List.replicate_succ', show 0 / 256 = 0 from rfl, ih]
    rfl
set_option maxRecDepth 100000 in
set_option maxHeartbeats 800000 in
theorem rbig_any (n k : Nat) (w : World) (hk : k ≤ 28) (hn : n < 9223372036854775808) :
    Calls Try.prog 23 #[.int .i64 n, .int .i64 k] w fun e w' => e = .returned (.string (str (bigF k n))) ∧ Only (fun _ => False) w w' := by
  go_enter Try.func23, Try.ntmps23
  go_wp2
  go_loopw [0, 5, 6] (fun x s i wr => ∃ (j q : Nat) (d : ByteArray), j ≤ k ∧ i = .int .i64 j ∧ x = .int .i64 q ∧ s = .string d ∧ q < 9223372036854775808 ∧ d.size ≤ j ∧ Hid (bigF (k - j) q ++ bl d = bigF k n) ∧ Hid (Only (fun _ => False) w wr))
    (fun _ _ i _ => k - (intOf i).toNat)
  case atStart => exact ⟨0, n, ⟨#[]⟩, by omega, rfl, rfl, rfl, hn, Nat.le_refl _, by unfold Hid; rw [Nat.sub_zero]; exact List.append_nil _, Only.refl _ _⟩
  case round =>
    obtain ⟨j, q, d, hj, rfl, rfl, rfl, hq, hd, HB, HO⟩ := hrel
    by_cases hlt : j < k
    · have hb : ((UInt8.ofNat (q % 256)).toNat : Int) = (q : Int) % 256 := by rw [byte_nat (by omega)]; omega
      have HBY : Hid (∀ W : World, (convert 53 9 (.slice (some ⟨W.heap.size, 0, none⟩) 1 1)).run Try.prog (W.alloc (.cells #[.int .u8 ((q : Int) % 256)] 5)) = .ok (.string (str [UInt8.ofNat (q % 256)])) (W.alloc (.cells #[.int .u8 ((q : Int) % 256)] 5))) := fun W => by
        rw [← hb]
        exact byte_runG W _
      have HE : Hid (bigF (k - (j + 1)) (q / 256) ++ bl (str [UInt8.ofNat (q % 256)] ++ d) = bigF k n) := by
        unfold Hid
        rw [← HB.out, show k - j = (k - (j + 1)) + 1 by omega, bigF, ← str_bl d, str_catG, bl_str, bl_str]
        simp
      have hy : (str [UInt8.ofNat (q % 256)]).size = 1 := rfl
      obtain ⟨Y, hY⟩ : ∃ Y, str [UInt8.ofNat (q % 256)] = Y := ⟨_, rfl⟩
      rw [hY] at HBY HE hy
      have hys : (Y ++ d).size ≤ j + 1 := by rw [ByteArray.size_append]; omega
      have hyx : ¬ (9223372036854775807 : Int) < (Y.size : Int) + (d.size : Int) := by omega
      have hc := HBY.out wr
      clear hb hY
      go_wp2
      go_roundw
      case rel => exact ⟨j + 1, q / 256, Y ++ d, by omega, by go_num, by go_num, rfl, by omega, hys, HE, o2 HO.out (onlyA _ _)⟩
      case measure => simp [intOf]; omega
    · have e0 : j = k := by omega
      have hx : d = str (bigF k n) := by
        have h := HB.out
        rw [e0, Nat.sub_self, bigF, List.nil_append] at h
        rw [← h, str_bl]
      subst hx
      clear e0 hd
      go_wp2
      go_ret
      exact ⟨rfl, HO.out⟩
set_option maxRecDepth 100000 in
set_option maxHeartbeats 800000 in
theorem rof_any (s : ByteArray) (w : World) (hs : s.size ≤ 7) :
    Calls Try.prog 27 #[.string s] w fun e w' => e = .returned (.int .i64 (ofTo (bl s))) ∧ w' = w := by
  have hbd : ∀ k, k < s.size → 0 ≤ ofTo ((bl s).take k) ∧ ofTo ((bl s).take k) < 281474976710656 := by
    intro k hk
    have hl : ((bl s).take k).length = k := by rw [List.length_take, bl_len]; omega
    have h := ofTo_small ((bl s).take k) (by omega)
    rw [hl] at h
    have h2 := pow256 (show k ≤ 6 by omega)
    omega
  have HBD := hide hbd
  clear hbd
  go_enter Try.func27, Try.ntmps27
  go_wp2
  go_loop [3, 4] (fun c i => ∃ (k : Nat) (q : Int), k ≤ s.size ∧ i = .int .i64 k ∧ c = .int .i64 q ∧ Hid (q = ofTo ((bl s).take k))) (fun _ i => s.size - (intOf i).toNat)
  case atStart => exact ⟨0, 0, Nat.zero_le _, rfl, rfl, rfl⟩
  case round =>
    obtain ⟨k, q, hk, rfl, rfl, HQ⟩ := hrel
    by_cases hlt : k < s.size
    · obtain ⟨q0, q1⟩ := HBD.out k hlt
      rw [← HQ.out] at q0 q1
      have hb := s[k].toNat_lt
      have HS : Hid (256 * q + (s[k].toNat : Int) = ofTo ((bl s).take (k + 1))) := by
        unfold Hid
        show _ = ofTo (s.data.toList.take (k + 1))
        rw [take_snoc s k hlt, ofTo_snoc]
        show _ = (ofTo ((bl s).take k) * 256 + _) % _
        rw [← HQ.out]
        omega
      go_wp2
      go_round
      case rel => exact ⟨k + 1, _, by omega, by go_num, rfl, HS⟩
      case measure => simp [intOf]; omega
    · have HT := take_all s k hlt
      have HO : Hid (q = ofTo (bl s)) := by unfold Hid; rw [HQ.out]; exact congrArg ofTo HT
      go_wp2
      go_ret
      exact ⟨ret_int HO.out, rfl⟩
theorem cof_any (s : ByteArray) (w : World) (hs : s.size ≤ 7) :
    Calls Try.prog 30 #[.string s] w fun e w' => e = .returned (.int .i64 (ofTo (bl s))) ∧ w' = w := by
  have h := of_any s w (by unfold maxLen; omega)
  have h2 := ofTo_small (bl s) (by rw [bl_len]; omega)
  rw [bl_len] at h2
  have h3 := pow256 hs
  have h4 : ofTo (bl s) < 9223372036854775808 := by omega
  rw [show ofTo s.data.toList % 9223372036854775808 = ofTo (bl s) from Int.emod_eq_of_lt h2.1 h4] at h
  exact h
theorem rep_zeroG (c : Nat) : Lib.repeatL (⟨#[0]⟩ : ByteArray).data.toList c = List.replicate c 0 := by
  induction c with
  | zero => rfl
  | succ c ih => rw [Lib.repeatL, ih, List.replicate_succ]; rfl
theorem nought_any (W : World) : Calls Try.prog 29 #[.string ⟨#[0]⟩, .int .i64 28] W fun e w' => e = .returned (.string (str (List.replicate 28 0))) ∧ Only (fun _ => False) W w' := by
  have e1 : (⟨#[0]⟩ : ByteArray).size = 1 := rfl
  have h1 := Try.strings_Repeat ⟨#[0]⟩ 28 W (by omega) (by rw [e1]; omega)
  refine Calls.mono h1 ?_
  rintro e w' ⟨rfl, hb⟩
  refine ⟨?_, only_below hb⟩
  rw [rep_zeroG]
  rfl
end Go.Proofs.Ytpogphaflhfmbaa
