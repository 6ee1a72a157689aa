/- What sevens does. -/
import Derived.Test.YtignmpddlgdfdaaWalkA
namespace Go.Proofs.Ytignmpddlgdfdaa
open Go.RowKit

set_option maxRecDepth 100000 in
set_option maxHeartbeats 800000 in
theorem sevens_any (s : ByteArray) (w : World) :
    Calls Try.prog 34 #[.string s] w fun e w' => e = .returned (.tuple #[.int .i64 (rd 0 0 s.data.toList).1, .int .i64 (rd 0 0 s.data.toList).2.1, .int .i64 (rd 0 0 s.data.toList).2.2]) ∧ w' = w := by

  obtain ⟨R, hR⟩ : ∃ R, rd 0 0 s.data.toList = R := ⟨_, rfl⟩
  rw [hR]
  have HR : Hid (rd 0 0 s.data.toList = R) := hR
  clear hR
  go_enter Try.func34, Try.ntmps34
  go_wp2
  go_loop [2, 5] (fun n i => ∃ (k : Nat) (q : Int), k ≤ s.size ∧ k ≤ 8 ∧ i = .int .i64 k ∧ n = .int .i64 q ∧ Hid (rd k q (s.data.toList.drop k) = R) ∧ 0 ≤ q ∧ Hid (q < 128 ^ k)) (fun _ i => s.size - (intOf i).toNat)
  case atStart => exact ⟨0, 0, Nat.zero_le _, by omega, rfl, rfl, HR, by omega, (by unfold Hid; decide)⟩
  case round =>
    obtain ⟨k, q, hk, hk8, rfl, rfl, HQ, q0, q1⟩ := hrel
    by_cases hlt : k < s.size
    · have hb := s[k].toNat_lt
      have HD : Hid (rd k q (s[k] :: s.data.toList.drop (k + 1)) = R) := by unfold Hid; rw [← drop_cons s k hlt]; exact HQ.out
      clear HQ
      by_cases h1 : (s[k].toNat : Int) < 128
      · have HO : Hid (bits BinOp.or IntKind.i64 q (wrap64 ((s[k].toNat : Int) * 2 ^ (7 * k))) = q + (s[k].toNat : Int) * 128 ^ k) := (or_shift k q _ hk8 q0 q1.out (by omega) h1).1
        by_cases h2 : (s[k].toNat : Int) = 0
        · have h2' : ((s[k].toNat : Int) == 0) = true := by simpa using h2
          by_cases h3 : 0 < k
          · have HE : Hid (R = (0, 0, 11)) := rd_zero HD.out h1 h2 h3
            clear h2
            go_wp2
            go_ret3
            rw [HE.out]
            exact ⟨rfl, rfl⟩
          · have HE : Hid (R = (q + (s[k].toNat : Int) * 128 ^ k, (k : Int) + 1, 0)) := rd_last HD.out h1 (by omega)
            clear h2
            go_wp2
            go_ret3
            rw [HE.out, HO.out]
            exact ⟨rfl, rfl⟩
        · have h2' : ((s[k].toNat : Int) == 0) = false := by simpa using h2
          have HE : Hid (R = (q + (s[k].toNat : Int) * 128 ^ k, (k : Int) + 1, 0)) := rd_last HD.out h1 (by omega)
          clear h2
          go_wp2
          go_ret3
          rw [HE.out, HO.out]
          exact ⟨rfl, rfl⟩
      · by_cases h3 : k = 8
        · have h3' : ((k : Int) == 8) = true := by simp; omega
          have HE : Hid (R = (0, 0, 11)) := rd_nine HD.out h1 h3
          clear h3
          go_wp2
          go_ret3
          rw [HE.out]
          exact ⟨rfl, rfl⟩
        · have h3' : ((k : Int) == 8) = false := by simp; omega
          have HO := or_shift k q ((s[k].toNat : Int) - 128) hk8 q0 q1.out (by omega) (by omega)
          have HO' : Hid (bits BinOp.or IntKind.i64 q (wrap64 (((s[k].toNat : Int) - 128) * 2 ^ (7 * k))) = q + ((s[k].toNat : Int) - 128) * 128 ^ k ∧ 0 ≤ q + ((s[k].toNat : Int) - 128) * 128 ^ k ∧ q + ((s[k].toNat : Int) - 128) * 128 ^ k < 128 ^ (k + 1)) := HO
          clear HO
          go_wp2
          go_round
          case rel => exact ⟨k + 1, q + ((s[k].toNat : Int) - 128) * 128 ^ k, by omega, by omega, by go_num, by rw [HO'.out.1], rd_more HD.out h1 h3, HO'.out.2.1, HO'.out.2.2⟩
          case measure => simp [intOf]; omega
    · have HE : Hid (R = (0, 0, 10)) := by
        unfold Hid; have h := HQ.out; rw [drop_none s k hlt] at h; rw [← h]; rfl
      go_wp2
      go_ret3
      rw [HE.out]
      exact ⟨rfl, rfl⟩
end Go.Proofs.Ytignmpddlgdfdaa
