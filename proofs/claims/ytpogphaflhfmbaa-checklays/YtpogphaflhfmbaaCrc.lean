/- Texts that are unlike in one byte have unlike sums. -/
import Derived.Test.YtpogphaflhfmbaaPure
namespace Go.Proofs.Ytpogphaflhfmbaa
open Go.RowKit

theorem and1_u32 (q : Int) (h0 : 0 ≤ q) (h1 : q < 4294967296) : bits BinOp.and IntKind.u32 q 1 = q % 2 := by
  rw [u32_and q 1 h0 h1 (by omega) (by omega)]
  have e : (1 : Int).toNat = 1 := rfl
  rw [e, Nat.and_one_is_mod]
  omega
theorem sbit_odd (q : Int) (h0 : 0 ≤ q) (h1 : q < 4294967296) (h : q % 2 = 1) : sbit q = (((q / 2).toNat ^^^ 3988292384 : Nat) : Int) := by
  unfold sbit
  rw [and1_u32 q h0 h1, if_pos (by simpa using h), u32_xor _ _ (by omega) (by omega) (by omega) (by omega)]
  rfl
theorem sbit_even (q : Int) (h0 : 0 ≤ q) (h1 : q < 4294967296) (h : q % 2 = 0) : sbit q = q / 2 := by
  unfold sbit
  rw [and1_u32 q h0 h1, if_neg (by simp [h])]
theorem poly_top (n : Nat) (h : n < 2 ^ 31) : 2 ^ 31 ≤ n ^^^ 3988292384 := by
  apply Nat.ge_two_pow_of_testBit
  rw [Nat.testBit_xor, Nat.testBit_lt_two_pow h]
  decide
theorem sbit_inj (q r : Int) (h0 : 0 ≤ q) (h1 : q < 4294967296) (g0 : 0 ≤ r) (g1 : r < 4294967296) (h : sbit q = sbit r) : q = r := by
  rcases Int.emod_two_eq q with hq | hq <;> rcases Int.emod_two_eq r with hr | hr
  · rw [sbit_even q h0 h1 hq, sbit_even r g0 g1 hr] at h; omega
  · rw [sbit_even q h0 h1 hq, sbit_odd r g0 g1 hr] at h
    have := poly_top (r / 2).toNat (by omega)
    omega
  · rw [sbit_odd q h0 h1 hq, sbit_even r g0 g1 hr] at h
    have := poly_top (q / 2).toNat (by omega)
    omega
  · rw [sbit_odd q h0 h1 hq, sbit_odd r g0 g1 hr] at h
    have h2 : (q / 2).toNat ^^^ 3988292384 = (r / 2).toNat ^^^ 3988292384 := by omega
    have h3 : ((q / 2).toNat ^^^ 3988292384) ^^^ 3988292384 = ((r / 2).toNat ^^^ 3988292384) ^^^ 3988292384 := by rw [h2]
    rw [Nat.xor_assoc, Nat.xor_assoc, Nat.xor_self, Nat.xor_zero, Nat.xor_zero] at h3
    omega
theorem sby_inj (k : Nat) (q r : Int) (h0 : 0 ≤ q) (h1 : q < 4294967296) (g0 : 0 ≤ r) (g1 : r < 4294967296) (h : sby k q = sby k r) : q = r := by
  induction k with
  | zero => exact h
  | succ k ih => exact ih (sbit_inj _ _ (sby_bd k q h0 h1).1 (sby_bd k q h0 h1).2 (sby_bd k r g0 g1).1 (sby_bd k r g0 g1).2 h)
theorem xor_left (a b c : Int) (a0 : 0 ≤ a) (a1 : a < 4294967296) (b0 : 0 ≤ b) (b1 : b < 4294967296) (c0 : 0 ≤ c) (c1 : c < 4294967296) (h : bits BinOp.xor IntKind.u32 a c = bits BinOp.xor IntKind.u32 b c) : a = b := by
  rw [u32_xor a c a0 a1 c0 c1, u32_xor b c b0 b1 c0 c1] at h
  have h2 : a.toNat ^^^ c.toNat = b.toNat ^^^ c.toNat := by omega
  have h3 : (a.toNat ^^^ c.toNat) ^^^ c.toNat = (b.toNat ^^^ c.toNat) ^^^ c.toNat := by rw [h2]
  rw [Nat.xor_assoc, Nat.xor_assoc, Nat.xor_self, Nat.xor_zero, Nat.xor_zero] at h3
  omega
theorem xor_right (a b c : Int) (a0 : 0 ≤ a) (a1 : a < 4294967296) (b0 : 0 ≤ b) (b1 : b < 4294967296) (c0 : 0 ≤ c) (c1 : c < 4294967296) (h : bits BinOp.xor IntKind.u32 c a = bits BinOp.xor IntKind.u32 c b) : a = b := by
  rw [u32_xor c a c0 c1 a0 a1, u32_xor c b c0 c1 b0 b1] at h
  have h2 : c.toNat ^^^ a.toNat = c.toNat ^^^ b.toNat := by omega
  have h3 : c.toNat ^^^ (c.toNat ^^^ a.toNat) = c.toNat ^^^ (c.toNat ^^^ b.toNat) := by rw [h2]
  rw [← Nat.xor_assoc, ← Nat.xor_assoc, Nat.xor_self, Nat.zero_xor, Nat.zero_xor] at h3
  omega
theorem fold_ne (l : List UInt8) (c d : Int) (c0 : 0 ≤ c) (c1 : c < 4294967296) (d0 : 0 ≤ d) (d1 : d < 4294967296) (h : c ≠ d) :
    l.foldl (fun c b => sby 8 (bits BinOp.xor IntKind.u32 c ((b.toNat : Int) % 4294967296))) c ≠ l.foldl (fun c b => sby 8 (bits BinOp.xor IntKind.u32 c ((b.toNat : Int) % 4294967296))) d := by
  induction l generalizing c d with
  | nil => exact h
  | cons b t ih =>
    have hx := xor32_bd c ((b.toNat : Int) % 4294967296)
    have hy := xor32_bd d ((b.toNat : Int) % 4294967296)
    have h1 := sby_bd 8 _ hx.1 hx.2
    have h2 := sby_bd 8 _ hy.1 hy.2
    refine ih _ _ h1.1 h1.2 h2.1 h2.2 ?_
    intro e
    exact h (xor_left c d ((b.toNat : Int) % 4294967296) c0 c1 d0 d1 (by omega) (by omega) (sby_inj 8 _ _ hx.1 hx.2 hy.1 hy.2 e))
theorem sumTo_ne (m n : List UInt8) (a b : UInt8) (h : a ≠ b) : sumTo (m ++ a :: n) ≠ sumTo (m ++ b :: n) := by
  have hm := sumTo_bd m
  unfold sumTo at hm ⊢
  rw [List.foldl_append, List.foldl_append, List.foldl_cons, List.foldl_cons]
  have ha := a.toNat_lt
  have hb := b.toNat_lt
  generalize List.foldl (fun c b => sby 8 (bits BinOp.xor IntKind.u32 c ((b.toNat : Int) % 4294967296))) 4294967295 m = c at *
  have hx := xor32_bd c ((a.toNat : Int) % 4294967296)
  have hy := xor32_bd c ((b.toNat : Int) % 4294967296)
  have h1 := sby_bd 8 _ hx.1 hx.2
  have h2 := sby_bd 8 _ hy.1 hy.2
  refine fold_ne n _ _ h1.1 h1.2 h2.1 h2.2 ?_
  intro e
  have e2 := xor_right ((a.toNat : Int) % 4294967296) ((b.toNat : Int) % 4294967296) c (by omega) (by omega) (by omega) (by omega) hm.1 hm.2 (sby_inj 8 _ _ hx.1 hx.2 hy.1 hy.2 e)
  exact h (UInt8.toNat_inj.1 (by omega))
theorem sum_ne (l l' : List UInt8) (i : Nat) (u : UInt8) (hi : i < l.length) (hu : u ≠ l[i]) (h : l' = l.set i u) : (sum l' != sum l) = true := by
  have e1 : l' = l.take i ++ u :: l.drop (i + 1) := by rw [h, List.set_eq_take_append_cons_drop, if_pos hi]
  have e2 : l = l.take i ++ l[i] :: l.drop (i + 1) := by
    rw [← List.drop_eq_getElem_cons hi, List.take_append_drop]
  have hne := sumTo_ne (l.take i) (l.drop (i + 1)) u l[i] hu
  rw [← e1, ← e2] at hne
  rw [bne_iff_ne]
  intro e
  have h1 := sumTo_bd l'
  have h2 := sumTo_bd l
  exact hne (xor_left _ _ 4294967295 h1.1 h1.2 h2.1 h2.2 (by omega) (by omega) e)
end Go.Proofs.Ytpogphaflhfmbaa
