/- What the Reader's methods do. -/
import Derived.Test.YtbfafijfhaejmaaGreatDoorRWr
namespace Go.Proofs.YtbfafijfhaejmaaGreatDoor
open Go.RowKit

theorem ba_eq (s : ByteArray) (l : List UInt8) (h : s.data.toList = l) : s = ⟨l.toArray⟩ := by
  obtain ⟨⟨m⟩⟩ := s
  simp at h
  rw [h]
theorem rdN_bad {z x : Int} {l : List UInt8} (h : rd 0 0 l = (0, 0, x)) (hx : x ≠ 0) : rdN z l = (0, [], x) := by unfold rdN; rw [h]; simp [hx]
theorem rdN_big {z n : Int} {k : Nat} {l : List UInt8} (h : rd 0 0 l = (n, (k : Int), 0)) (hx : max z 0 < n) : rdN z l = (0, [], 11) := by unfold rdN; rw [h, if_pos rfl, if_pos hx]
theorem rdN_ok {z n : Int} {k : Nat} {l : List UInt8} (h : rd 0 0 l = (n, (k : Int), 0)) (hx : ¬ max z 0 < n) : rdN z l = (n, l.drop k, 0) := by unfold rdN; rw [h, if_pos rfl, if_neg hx]; simp
theorem fail_rd {w : World} {r : Nat} {s : ByteArray} {x : Int} (h : Rd w r s x) (y : Int) : Rd ((w.setCell ⟨r, 0, none⟩ (.string ⟨#[]⟩)).setCell ⟨r, 1, none⟩ (.int .i64 y)) r ⟨#[]⟩ y ∧ Only (fun k => k = r) w ((w.setCell ⟨r, 0, none⟩ (.string ⟨#[]⟩)).setCell ⟨r, 1, none⟩ (.int .i64 y)) :=
  ⟨(h.set0 _).set1 y, (Only.setCell (S := fun k => k = r) w ⟨r, 0, none⟩ _ rfl).trans (Only.setCell (S := fun k => k = r) _ ⟨r, 1, none⟩ _ rfl) (fun _ _ h => h)⟩
theorem rdN_facts (z : Int) (l : List UInt8) : 0 ≤ (rdN z l).1 ∧ (rdN z l).1 < 9223372036854775808 ∧ (rdN z l).2.1.length ≤ l.length := by
  rcases rd_cases l 0 0 (by omega) (by omega) (by decide) with h | h | ⟨n, k, h, h2, h3, h4, h5, h6⟩
  · rw [rdN_bad h (by decide)]; simp
  · rw [rdN_bad h (by decide)]; simp
  · by_cases hm : max z 0 < n
    · rw [rdN_big h hm]; simp
    · rw [rdN_ok h hm]; simp; omega
theorem rdT_err {z : Int} {l : List UInt8} (h : (rdN z l).2.2 ≠ 0) : rdT z l = ([], [], (rdN z l).2.2) := by unfold rdT; rw [if_neg h]
theorem rdT_short {z : Int} {l : List UInt8} (h : (rdN z l).2.2 = 0) (h1 : ((rdN z l).2.1.length : Int) < (rdN z l).1) : rdT z l = ([], [], 10) := by unfold rdT; rw [if_pos h, if_pos h1]
theorem rdT_ok {z : Int} {l : List UInt8} (h : (rdN z l).2.2 = 0) (h1 : ¬ ((rdN z l).2.1.length : Int) < (rdN z l).1) : rdT z l = ((rdN z l).2.1.take (rdN z l).1.toNat, (rdN z l).2.1.drop (rdN z l).1.toNat, 0) := by unfold rdT; rw [if_pos h, if_neg h1]
theorem rdN_errs (z : Int) (l : List UInt8) (h : (rdN z l).2.2 ≠ 0) : (rdN z l).2.1 = [] := by
  rcases rd_cases l 0 0 (by omega) (by omega) (by decide) with h' | h' | ⟨n, k, h', h2, h3, h4, h5, h6⟩
  · rw [rdN_bad h' (by decide)]
  · rw [rdN_bad h' (by decide)]
  · by_cases hm : max z 0 < n
    · rw [rdN_big h' hm]
    · rw [rdN_ok h' hm] at h; simp at h
end Go.Proofs.YtbfafijfhaejmaaGreatDoor
