/- Parts. -/
import Derived.Test.YtpnbhddmdfcjdaaK02
set_option maxRecDepth 100000
namespace Go.Proofs.Ytpnbhddmdfcjdaa
open Go.RowKit
/-- A modulus. -/
def Md (m : Int) : Prop := 16 ≤ m ∧ m ≤ 1024 ∧ m % 2 = 0
instance (m : Int) : Decidable (Md m) := by unfold Md; infer_instance
/-- An id of the modulus m. -/
def Idd (m x : Int) : Prop := Md m ∧ 1 ≤ x ∧ x ≤ m
instance (m x : Int) : Decidable (Idd m x) := by unfold Idd; infer_instance
def xadd (m x n : Int) : Int := if Idd m x then (x - 1 + n) % m + 1 else 0
def xgap (m a b : Int) : Int := if Idd m a ∧ Idd m b then (b - a) % m else 0
def xbef (m a b : Int) : Bool := decide (1 ≤ xgap m a b ∧ xgap m a b ≤ m / 2 - 1)
/-- A number that an int may be. -/
def I64 (n : Int) : Prop := -9223372036854775808 ≤ n ∧ n < 9223372036854775808
theorem tmod2 {m : Int} (h : 0 ≤ m) : m.tmod 2 = m % 2 := Int.tmod_eq_emod_of_nonneg h
theorem emod_bd {m n : Int} (h : 16 ≤ m) : 0 ≤ n % m ∧ n % m < m := ⟨Int.emod_nonneg n (by omega), Int.emod_lt_of_pos n (by omega)⟩
theorem tmod_two {m n : Int} (h : 16 ≤ m) : n.tmod m = n % m ∨ (n.tmod m = n % m - m ∧ 0 < n % m) := by
  have h1 : n.tmod m = n % m - ↑(if 0 ≤ n ∨ m ∣ n then 0 else m.natAbs) := Int.tmod_eq_emod
  by_cases hc : 0 ≤ n ∨ m ∣ n
  · rw [if_pos hc] at h1
    exact .inl (by omega)
  · rw [if_neg hc] at h1
    have h2 := emod_bd (n := n) h
    have h3 : ¬ n % m = 0 := fun e => hc (.inr (Int.dvd_of_emod_eq_zero e))
    exact .inr ⟨by omega, by omega⟩
theorem tmod_bd {m n : Int} (h : 16 ≤ m) : -m < n.tmod m ∧ n.tmod m < m := by
  have h2 := emod_bd (n := n) h
  rcases tmod_two (n := n) h with e | ⟨e, _⟩ <;> rw [e] <;> omega
theorem around_is {m n : Int} (h : 16 ≤ m) : (n.tmod m + m).tmod m = n % m := by
  have h2 := emod_bd (n := n) h
  have h4 := tmod_bd (n := n) h
  rw [Int.tmod_eq_emod_of_nonneg (show 0 ≤ n.tmod m + m by omega)]
  rcases tmod_two (n := n) h with e | ⟨e, _⟩ <;> rw [e]
  · rw [Int.add_emod_right]; exact Int.emod_eq_of_lt h2.1 h2.2
  · rw [Int.sub_add_cancel]; exact Int.emod_eq_of_lt h2.1 h2.2
theorem plus_mod (y n m : Int) : (y + n % m) % m = (y + n) % m := by
  rw [Int.add_emod, Int.emod_emod_of_dvd _ (Int.dvd_refl m), ← Int.add_emod]
theorem add_is {m y n : Int} (h : 16 ≤ m) : (y + n.tmod m) % m = (y + n) % m := by
  rcases tmod_two (n := n) h with e | ⟨e, _⟩ <;> rw [e]
  · exact plus_mod y n m
  · rw [show y + (n % m - m) = y + n % m - m from by omega, Int.sub_emod_right]; exact plus_mod y n m
theorem xgap_bd {m a b : Int} : 0 ≤ xgap m a b ∧ xgap m a b < 1024 := by
  unfold xgap
  split
  · rename_i h
    have := emod_bd (m := m) (n := b - a) h.1.1.1
    have := h.1.1.2.1
    omega
  · omega
theorem xadd_id {m x n : Int} (h : Idd m x) : Idd m (xadd m x n) := by
  unfold xadd
  rw [if_pos h]
  have := emod_bd (m := m) (n := x - 1 + n) h.1.1
  exact ⟨h.1, by omega, by omega⟩
theorem xadd_bd {m x n : Int} : 0 ≤ xadd m x n ∧ xadd m x n ≤ 1024 := by
  by_cases h : Idd m x
  · have h1 := xadd_id (n := n) h
    have := h1.1.2.1
    have := h1.2
    omega
  · unfold xadd; rw [if_neg h]; omega
theorem mod_back {m y : Int} (h0 : -m ≤ y) (h1 : y < m) : y % m = if 0 ≤ y then y else y + m := by
  split
  · exact Int.emod_eq_of_lt (by omega) (by omega)
  · have e : y = (y + m) - m := by omega
    rw [e, Int.sub_emod_right, Int.emod_eq_of_lt (by omega) (by omega)]
    omega
theorem ring_gap {m a b : Int} (h : Idd m a) (h' : Idd m b) : xgap m a b = if a ≤ b then b - a else b - a + m := by
  have hm := h.1.1
  have h2 := h.2
  have h3 := h'.2
  unfold xgap
  rw [if_pos ⟨h, h'⟩, mod_back (by omega) (by omega)]
  split <;> split <;> omega
end Go.Proofs.Ytpnbhddmdfcjdaa
