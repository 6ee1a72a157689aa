/- Bytes of a page of which one is another one are no page's. -/
import Derived.Test.YtiefdndhfeleiabDoorPDecX
namespace Go.Proofs.YtiefdndhfeleiabDoor
open Go.RowKit

theorem ofTo_inj {l m : List UInt8} (h : l.length ≤ 8) (h2 : m.length = l.length) (e : ofTo l = ofTo m) : l = m := by
  have h1 := big_ofTo l h
  have h3 := big_ofTo m (by omega)
  rw [h2, ← e, h1] at h3
  exact h3
theorem dec_torn (l : List UInt8) (i : Nat) (u : UInt8) (hl : l.length = 512) (hi : i < l.length) (hu : u ≠ l[i]) (hs : ofTo (l.take 4) = sum (l.drop 4)) : dec (l.set i u) = (.none, 30) := by
  refine dec_sum (by rw [List.length_set]; exact hl) ?_
  by_cases h4 : i < 4
  · have e1 : (l.set i u).take 4 = (l.take 4).set i u := List.take_set
    have e2 : (l.set i u).drop 4 = l.drop 4 := List.drop_set_of_lt h4
    rw [e1, e2, ← hs]
    intro e
    have h5 := ofTo_inj (by simp; omega) (by simp) e
    have h6 : ((l.take 4).set i u)[i]? = (l.take 4)[i]? := by rw [h5]
    rw [List.getElem?_set_self (by simp; omega), List.getElem?_take, if_pos h4, List.getElem?_eq_getElem hi] at h6
    injection h6 with h6
    exact hu h6
  · have e1 : (l.set i u).take 4 = l.take 4 := by rw [List.take_set, List.set_eq_of_length_le (by simp; omega)]
    have e2 : (l.set i u).drop 4 = (l.drop 4).set (i - 4) u := by rw [List.drop_set, if_neg h4]
    rw [e1, e2, hs]
    have h7 := sum_ne (l.drop 4) ((l.drop 4).set (i - 4) u) (i - 4) u (by simp; omega) (by
      rw [List.getElem_drop]
      have e3 : 4 + (i - 4) = i := by omega
      simp only [e3]
      exact hu) rfl
    intro e
    rw [← e] at h7
    simp at h7
end Go.Proofs.YtiefdndhfeleiabDoor
