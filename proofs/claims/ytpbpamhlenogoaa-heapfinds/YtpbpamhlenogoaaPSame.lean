/- What inRange, hasItem and the two Sames do. -/
import Derived.Test.YtpbpamhlenogoaaPMem
import Derived.Test.YtpbpamhlenogoaaPShelf
import Derived.Deep.Draws
namespace Go.Proofs.Ytpbpamhlenogoaa
open Go.RowKit

theorem onlyN (w : World) (n : Nat) : Only (fun _ => False) w (w.drewN n) := ⟨rfl, rfl, rfl, Nat.le_refl _, fun _ _ _ => rfl⟩
theorem getD_of {l : List ByteArray} {j : Nat} (h : j < l.length) : l.getD j ByteArray.empty = l[j] := by simp [List.getD_eq_getElem?_getD, h]
theorem ba_toList {s t : ByteArray} (h : s.toList = t.toList) : s = t := by
  rw [ByteArray.toList_eq, ByteArray.toList_eq] at h
  obtain ⟨⟨l⟩⟩ := s
  obtain ⟨⟨m⟩⟩ := t
  simp at h
  rw [h]
set_option maxRecDepth 100000 in
set_option maxHeartbeats 800000 in
theorem inRange_any (w : World) (a k v r : Int) (h : ByteArray) (cp n : Nat) (ao : Option Addr) :
    Calls Try.prog 20 #[.agg #[.int .i64 a, .int .i64 k, .int .i64 v, .int .i64 r, .string h, .slice ao n cp]] w fun e w' => e = .returned (.bool (decide (0 ≤ a ∧ 1 ≤ k ∧ k ≤ 3 ∧ 0 ≤ v ∧ v ≤ 255 ∧ 0 ≤ r ∧ r ≤ 4294967295))) ∧ Only (fun _ => False) w w' := by
  have HO := hide (onlyA w (.cells #[.int .i64 a, .int .i64 k, .int .i64 v, .int .i64 r, .string h, .slice ao n cp] 24))
  go_enter Try.func20, Try.ntmps20
  go_wp2_with fail
  all_goals go_ret
  all_goals exact ⟨ret_bool (by rw [Bool.eq_iff_iff]; first | (simp; done) | (simp; omega)), HO.out⟩
end Go.Proofs.Ytpbpamhlenogoaa
