/- What Big does. -/
import Derived.Test.YtignmpddlgdfdaaWalkR
namespace Go.Proofs.Ytignmpddlgdfdaa
open Go.RowKit

theorem big_bad (n k : Int) (w : World) (h : k < 1 ∨ 8 < k ∨ n < 0) : Calls Try.prog 12 #[.int .i64 n, .int .i64 k] w fun e w' => e = .returned (.string ⟨#[]⟩) ∧ w' = w := by
  by_cases h1 : k < 1
  · go_enter Try.func12, Try.ntmps12
    go_wp2
    go_ret
    exact ⟨rfl, rfl⟩
  · by_cases h2 : 8 < k
    · go_enter Try.func12, Try.ntmps12
      go_wp2
      go_ret
      exact ⟨rfl, rfl⟩
    · have h3 : n < 0 := by omega
      clear h
      go_enter Try.func12, Try.ntmps12
      go_wp2
      go_ret
      exact ⟨rfl, rfl⟩

set_option maxRecDepth 100000 in
set_option maxHeartbeats 800000 in
theorem big_any (n k : Nat) (w : World) (hk : 1 ≤ k) (hk8 : k ≤ 8) (hn : n < 9223372036854775808) :
    Calls Try.prog 12 #[.int .i64 n, .int .i64 k] w fun e w' => e = .returned (.string ⟨(bigF k n).toArray⟩) ∧ Only (fun _ => False) w w' := by
  obtain ⟨i0, hi, hz0, hz1, hz2⟩ := info_parts Try.infoByte
  obtain ⟨w1, hmk, hown, hgr⟩ := run_make_full (P := Try.prog) w w.heap.size 54 5 i0 (.int .u8 0) 1 Try.underlying54 hi hz0 hz1 .i64 .i64 k (by rw [hz2]; omega) (by unfold maxLen; omega) (Nat.le_refl _)
  have hrow : Row w1 w.heap.size (.slice (some ⟨w.heap.size, 0, none⟩) k k) (some w.heap.size) (List.replicate k 0) := by
    refine ⟨?_, rfl⟩
    have e : (madeCells (Value.int .u8 0).cells (k * 1)).toList = cells (List.replicate k 0) := by
      have : (Value.int IntKind.u8 0).cells = #[.int .u8 0] := rfl
      rw [this, toList_madeCells_one]; simp [cells]
    rw [e] at hown
    simpa using hown
  have hon : Only (fun _ => False) w w1 := Only.grown hgr (fun k hk => by cases hk)
  have HROW := hide hrow
  have HON := hide hon
  clear hrow hon hgr hown
  go_enter Try.func12, Try.ntmps12
  go_wp2
  go_loopw [0, 6] (fun x i wr => ∃ (j q : Nat) (d : List UInt8), j ≤ k ∧ i = .int .i64 ((j : Int) - 1) ∧ x = .int .i64 q ∧ q < 9223372036854775808 ∧ Hid (bigF j q ++ d = bigF k n) ∧ Hid (Row wr w.heap.size (.slice (some ⟨w.heap.size, 0, none⟩) k k) (some w.heap.size) (List.replicate j 0 ++ d)) ∧ Hid (Only (fun _ => False) w wr))
    (fun _ i _ => (intOf i + 1).toNat)
  case atStart => exact ⟨k, n, [], by omega, rfl, rfl, hn, by unfold Hid; simp, by rw [List.append_nil]; exact HROW, HON⟩
  case round =>
    obtain ⟨j, q, d, hj, rfl, rfl, hq, HB, HR, HO⟩ := hrel
    by_cases hlt : 1 ≤ j
    · obtain ⟨j', rfl⟩ : ∃ j', j = j' + 1 := ⟨j - 1, by omega⟩
      obtain ⟨⟨v0, hc0⟩, hf0⟩ := HR.out.at0 (j := j') (by omega)
      go_wp2
      have hd : ((UInt8.ofNat (q % 256)).toNat : Int) = (q : Int) % 256 := by rw [byte_nat (by omega)]; omega
      have hst := HR.out.store j' (UInt8.ofNat (q % 256))
      rw [hd, set_rep] at hst
      have hB2 : bigF j' (q / 256) ++ UInt8.ofNat (q % 256) :: d = bigF k n := by rw [← HB.out, bigF]; simp
      go_roundw
      case rel => exact ⟨j', q / 256, UInt8.ofNat (q % 256) :: d, by omega, by go_num, by go_num, by omega, hB2, hst.1, HO.out.trans hst.2 (fun i h1 h2 => by omega)⟩
      case measure => simp [intOf]
    · have e0 : j = 0 := by omega
      have hB2 : d = bigF k n := by have h := HB.out; rw [e0] at h; simpa [bigF] using h
      have hR2 := HR.out
      rw [e0, hB2] at hR2
      have hR3 : Row wr w.heap.size (.slice (some ⟨w.heap.size, 0, none⟩) k k) (some w.heap.size) (bigF k n) := by simpa using hR2
      have hcv := bytes_back wr _ _ _ _ hR3
      clear hR2 hB2
      have HR3 := hide hR3
      clear hR3
      go_wp2
      go_ret
      exact ⟨rfl, HO.out⟩
end Go.Proofs.Ytignmpddlgdfdaa
