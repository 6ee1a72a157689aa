/- What the leaf functions of package bits do: sumByte, Sum, Of. -/
import Derived.Test.YtignmpddlgdfdaaRows
import Derived.Test.YtignmpddlgdfdaaPure
import Derived.WalkKit
import Derived.WalkSpells
import Derived.WalkLawsBesides
namespace Go.Proofs.Ytignmpddlgdfdaa
open Go.RowKit

set_option maxHeartbeats 400000 in
theorem sumByte_any (c : Int) (w : World) (h0 : 0 ≤ c) (h1 : c < 4294967296) :
    Calls Try.prog 32 #[.int .u32 c] w fun e w' => e = .returned (.int .u32 (sby 8 c)) ∧ w' = w := by
  go_enter Try.func32, Try.ntmps32
  go_wp2
  go_loop [0, 3] (fun c' i => ∃ (k : Nat) (q : Int), k ≤ 8 ∧ i = .int .i64 k ∧ c' = .int .u32 q ∧ q = sby k c ∧ 0 ≤ q ∧ q < 4294967296) (fun _ i => 8 - (intOf i).toNat)
  case atStart => exact ⟨0, c, by omega, rfl, rfl, rfl, h0, h1⟩
  case round =>
    obtain ⟨k, q, hk, rfl, rfl, hq, q0, q1⟩ := hrel
    have HQ : Hid (q = sby k c) := hq
    clear hq
    by_cases hlt : k < 8
    · have hb := sbit_bd q q0 q1
      have HB : Hid (0 ≤ sbit q ∧ sbit q < 4294967296) := hb
      clear hb
      go_wp2
      · go_round
        case rel =>
          have hs := sbit_yes q ‹_›
          rw [hs]
          exact ⟨k + 1, sbit q, by omega, by go_num, rfl, by rw [HQ.out]; rfl, HB.out.1, HB.out.2⟩
        case measure => simp [intOf]; omega
      · go_round
        case rel =>
          have hs := sbit_no q ‹_›
          rw [hs]
          exact ⟨k + 1, sbit q, by omega, by go_num, rfl, by rw [HQ.out]; rfl, HB.out.1, HB.out.2⟩
        case measure => simp [intOf]; omega
    · have HK : Hid (k = 8) := by unfold Hid; omega
      go_wp2
      go_ret
      exact ⟨ret_int (by rw [HQ.out, HK.out]), rfl⟩

set_option maxHeartbeats 400000 in
theorem sum_any (s : ByteArray) (w : World) (hs : s.size ≤ maxLen) :
    Calls Try.prog 10 #[.string s] w fun e w' => e = .returned (.int .u32 (sum s.data.toList)) ∧ w' = w := by
  unfold maxLen at hs
  go_enter Try.func10, Try.ntmps10
  go_wp2
  go_loop [3, 4] (fun c i => ∃ (k : Nat) (q : Int), k ≤ s.size ∧ i = .int .i64 k ∧ c = .int .u32 q ∧ q = sumTo (s.data.toList.take k) ∧ 0 ≤ q ∧ q < 4294967296) (fun _ i => s.size - (intOf i).toNat)
  case atStart => exact ⟨0, 4294967295, Nat.zero_le _, rfl, rfl, rfl, by decide, by decide⟩
  case round =>
    obtain ⟨k, q, hk, rfl, rfl, hq, q0, q1⟩ := hrel
    have HQ : Hid (q = sumTo (s.data.toList.take k)) := hq
    clear hq
    by_cases hlt : k < s.size
    · have hxb := xor32_bd q ((s[k].toNat : Int) % 4294967296)
      have HS : Hid (sumTo (s.data.toList.take (k + 1)) = sby 8 (bits BinOp.xor IntKind.u32 q ((s[k].toNat : Int) % 4294967296))) := by
        unfold Hid; rw [take_snoc s k hlt, sumTo_snoc, ← HQ.out]
      have hbb := sby_bd 8 _ hxb.1 hxb.2
      have HBB : Hid (0 ≤ sby 8 (bits BinOp.xor IntKind.u32 q ((s[k].toNat : Int) % 4294967296)) ∧ sby 8 (bits BinOp.xor IntKind.u32 q ((s[k].toNat : Int) % 4294967296)) < 4294967296) := hbb
      clear hbb
      go_wp2_with (go_at_call 32; refine (sumByte_any _ _ (by omega) (by omega)).mono ?_; rintro e w' ⟨rfl, rfl⟩)
      go_round
      case rel => exact ⟨k + 1, _, by omega, by go_num, rfl, HS.out.symm, HBB.out.1, HBB.out.2⟩
      case measure => simp [intOf]; omega
    · have HT := take_all s k hlt
      go_wp2
      go_ret
      exact ⟨ret_int (by rw [HQ.out, HT]; rfl), rfl⟩

set_option maxHeartbeats 400000 in
theorem of_any (s : ByteArray) (w : World) (hs : s.size ≤ maxLen) :
    Calls Try.prog 14 #[.string s] w fun e w' => e = .returned (.int .i64 (ofTo s.data.toList % 9223372036854775808)) ∧ w' = w := by
  unfold maxLen at hs
  go_enter Try.func14, Try.ntmps14
  go_wp2
  go_loop [3, 4] (fun c i => ∃ (k : Nat) (q : Int), k ≤ s.size ∧ i = .int .i64 k ∧ c = .int .u64 q ∧ q = ofTo (s.data.toList.take k) ∧ 0 ≤ q ∧ q < 18446744073709551616) (fun _ i => s.size - (intOf i).toNat)
  case atStart => exact ⟨0, 0, Nat.zero_le _, rfl, rfl, rfl, by decide, by decide⟩
  case round =>
    obtain ⟨k, q, hk, rfl, rfl, hq, q0, q1⟩ := hrel
    have HQ : Hid (q = ofTo (s.data.toList.take k)) := hq
    clear hq
    by_cases hlt : k < s.size
    · have HS : Hid (ofTo (s.data.toList.take (k + 1)) = (q * 256 + (s[k].toNat : Int)) % 18446744073709551616) := by
        unfold Hid; rw [take_snoc s k hlt, ofTo_snoc, ← HQ.out]
      go_wp2
      go_round
      case rel => exact ⟨k + 1, ofTo (s.data.toList.take (k + 1)), by omega, by go_num, by rw [HS.out, of_step q s[k]], rfl, (ofTo_bd _).1, (ofTo_bd _).2⟩
      case measure => simp [intOf]; omega
    · have HT := take_all s k hlt
      have HO : Hid (q % 9223372036854775808 = ofTo s.data.toList % 9223372036854775808) := by unfold Hid; rw [HQ.out, HT]
      go_wp2
      go_ret
      exact ⟨ret_int (by rw [of_last q q0 q1]; exact HO.out), rfl⟩

theorem new_any (w : World) :
    Calls Try.prog 16 #[] w fun e w' => e = .returned (.pointer (some ⟨w.heap.size, 0, none⟩)) ∧ w' = w.alloc (.cells #[.slice none 0 0] 58) := by
  go_enter Try.func16, Try.ntmps16
  go_wp2
  go_ret
  exact ⟨rfl, rfl⟩

theorem read_any (s : ByteArray) (w : World) :
    Calls Try.prog 22 #[.string s] w fun e w' => e = .returned (.pointer (some ⟨w.heap.size, 0, none⟩)) ∧ w' = w.alloc (.cells #[.string s, .int .i64 0] 61) := by
  go_enter Try.func22, Try.ntmps22
  go_wp2
  go_ret
  exact ⟨rfl, rfl⟩

theorem rerr_nil (w : World) : Calls Try.prog 29 #[.pointer none] w fun e w' => e = .returned (.int .i64 2) ∧ w' = w := by
  go_enter Try.func29, Try.ntmps29
  go_wp2
  go_ret
  exact ⟨rfl, rfl⟩
theorem rerr_any (w : World) (r : Nat) (x : Int) (hc : w.cell? ⟨r, 1, none⟩ = some (.int .i64 x)) : Calls Try.prog 29 #[.pointer (some ⟨r, 0, none⟩)] w fun e w' => e = .returned (.int .i64 x) ∧ w' = w := by
  go_enter Try.func29, Try.ntmps29
  go_wp2
  go_ret
  exact ⟨rfl, rfl⟩
theorem rleft_nil (w : World) : Calls Try.prog 27 #[.pointer none] w fun e w' => e = .returned (.int .i64 0) ∧ w' = w := by
  go_enter Try.func27, Try.ntmps27
  go_wp2
  go_ret
  exact ⟨rfl, rfl⟩
theorem rleft_any (w : World) (r : Nat) (s : ByteArray) (hc : w.cell? ⟨r, 0, none⟩ = some (.string s)) : Calls Try.prog 27 #[.pointer (some ⟨r, 0, none⟩)] w fun e w' => e = .returned (.int .i64 s.size) ∧ w' = w := by
  go_enter Try.func27, Try.ntmps27
  go_wp2
  go_ret
  exact ⟨rfl, rfl⟩
theorem rend_nil (w : World) : Calls Try.prog 30 #[.pointer none] w fun e w' => e = .returned (.int .i64 2) ∧ w' = w := by
  go_enter Try.func30, Try.ntmps30
  go_wp2_with (go_at_call 29; refine (rerr_nil _).mono ?_; rintro e w' ⟨rfl, rfl⟩)
  go_ret
  exact ⟨rfl, rfl⟩
theorem rend_err (w : World) (r : Nat) (x : Int) (hc : w.cell? ⟨r, 1, none⟩ = some (.int .i64 x)) (hx : (x != 0) = true) : Calls Try.prog 30 #[.pointer (some ⟨r, 0, none⟩)] w fun e w' => e = .returned (.int .i64 x) ∧ w' = w := by
  go_enter Try.func30, Try.ntmps30
  go_wp2_with (go_at_call 29; refine (rerr_any _ r x hc).mono ?_; rintro e w' ⟨rfl, rfl⟩)
  go_ret
  exact ⟨rfl, rfl⟩
theorem rend_ok (w : World) (r : Nat) (s : ByteArray) (hc : w.cell? ⟨r, 1, none⟩ = some (.int .i64 0)) (hs : w.cell? ⟨r, 0, none⟩ = some (.string s)) : Calls Try.prog 30 #[.pointer (some ⟨r, 0, none⟩)] w fun e w' => e = .returned (.int .i64 (if s.size = 0 then 0 else 12)) ∧ w' = w := by
  by_cases hz : s.size = 0
  · rw [if_pos hz]
    have hz' : ¬ (0 : Int) < (s.size : Int) := by omega
    clear hz
    go_enter Try.func30, Try.ntmps30
    go_wp2_with (first | (go_at_call 29; refine (rerr_any _ r 0 hc).mono ?_; rintro e w' ⟨rfl, rfl⟩) | (go_at_call 27; refine (rleft_any _ r s hs).mono ?_; rintro e w' ⟨rfl, rfl⟩))
    go_ret
    exact ⟨rfl, rfl⟩
  · rw [if_neg hz]
    have hz' : (0 : Int) < (s.size : Int) := by omega
    clear hz
    go_enter Try.func30, Try.ntmps30
    go_wp2_with (first | (go_at_call 29; refine (rerr_any _ r 0 hc).mono ?_; rintro e w' ⟨rfl, rfl⟩) | (go_at_call 27; refine (rleft_any _ r s hs).mono ?_; rintro e w' ⟨rfl, rfl⟩))
    go_ret
    exact ⟨rfl, rfl⟩

theorem fail_any (w : World) (r : Nat) (s : ByteArray) (x y : Int) (h0 : w.cell? ⟨r, 0, none⟩ = some (.string s)) (h1 : w.cell? ⟨r, 1, none⟩ = some (.int .i64 y)) (f0 : w.frozen? ⟨r, 0, none⟩ = false) (f1 : w.frozen? ⟨r, 1, none⟩ = false) :
    Calls Try.prog 35 #[.pointer (some ⟨r, 0, none⟩), .int .i64 x] w fun e w' => e = .returned (.tuple #[]) ∧ w' = (w.setCell ⟨r, 0, none⟩ (.string ⟨#[]⟩)).setCell ⟨r, 1, none⟩ (.int .i64 x) := by
  go_enter Try.func35, Try.ntmps35
  go_wp2
  go_end0
  exact ⟨rfl, rfl⟩
end Go.Proofs.Ytignmpddlgdfdaa
