/- A control block as plain data: which may be, its bytes, what is read of bytes. -/
import Derived.Test.YtpogphaflhfmbaaPPure
import Derived.Handy
import Derived.Laws.ResultCell
namespace Go.Proofs.Ytpogphaflhfmbaa
open Go.RowKit

theorem onlyA (w : World) (o : Obj) : Only (fun _ => False) w (w.alloc o) := Only.alloc _ _ _
theorem o2 {a b c : World} (h : Only (fun _ => False) a b) (k : Only (fun _ => False) b c) : Only (fun _ => False) a c := h.trans k (fun _ _ h => h)
theorem ret_bool {a b : Bool} (h : a = b) : Ending.returned (.bool a) = .returned (.bool b) := by rw [h]
theorem only_below {w w' : World} (hb : Below w.heap.size w w') : Only (fun _ => False) w w' := ⟨hb.os, hb.tape, hb.output, hb.size, fun k hk _ => hb.block k hk⟩
theorem tmod2 {m : Int} (h : 0 ≤ m) : m.tmod 2 = m % 2 := Int.tmod_eq_emod_of_nonneg h

/-- A number of 64 bits. -/
def I64 (x : Int) : Prop := -9223372036854775808 ≤ x ∧ x < 9223372036854775808
/-- From a to b. -/
def Wi (n a b : Int) : Prop := a ≤ n ∧ n ≤ b
instance (n a b : Int) : Decidable (Wi n a b) := inferInstanceAs (Decidable (_ ∧ _))
/-- A configuration that may be. -/
def Snd (f m l p : Int) : Prop := Wi f 4 64 ∧ Wi m 16 1024 ∧ m % 2 = 0 ∧ Wi l 160 4096 ∧ Wi p 4 4096
instance (f m l p : Int) : Decidable (Snd f m l p) := inferInstanceAs (Decidable (_ ∧ _ ∧ _ ∧ _ ∧ _))
/-- A control block. -/
structure Ct where
  f : Int
  m : Int
  l : Int
  p : Int
  n : Int
  s : Int
  k : Int
deriving DecidableEq
structure Ct.in64 (c : Ct) : Prop where
  f : I64 c.f
  m : I64 c.m
  l : I64 c.l
  p : I64 c.p
  n : I64 c.n
  s : I64 c.s
  k : I64 c.k
def Ct.ok (c : Ct) : Prop := Snd c.f c.m c.l c.p ∧ Wi c.n 1 4294967295 ∧ Wi c.s 1 281474976710655 ∧ Wi c.k 0 281474976710655
instance (c : Ct) : Decidable c.ok := inferInstanceAs (Decidable (_ ∧ _ ∧ _ ∧ _))
def Ct.cells (c : Ct) : Array Value := #[.int .i64 c.f, .int .i64 c.m, .int .i64 c.l, .int .i64 c.p, .int .i64 c.n, .int .i64 c.s, .int .i64 c.k]
def Ct.agg (c : Ct) : Value := .agg #[.int .i64 c.f, .int .i64 c.m, .int .i64 c.l, .int .i64 c.p, .int .i64 c.n, .int .i64 c.s, .int .i64 c.k]
def noC : Ct := ⟨0, 0, 0, 0, 0, 0, 0⟩
/-- Its bytes. -/
def Ct.lay (c : Ct) : List UInt8 :=
  bigF 4 c.n.toNat ++ bigF 4 c.f.toNat ++ bigF 4 c.m.toNat ++ bigF 4 c.l.toNat ++ bigF 4 c.p.toNat ++ bigF 6 c.s.toNat ++ bigF 6 c.k.toNat ++ List.replicate 28 0 ++ bigF 4 c.n.toNat
theorem Ct.lay_len (c : Ct) : c.lay.length = 64 := by simp [Ct.lay, bigF_len]
/-- What bytes say. -/
def rdC (b : List UInt8) : Ct :=
  ⟨ofTo ((b.drop 4).take 4), ofTo ((b.drop 8).take 4), ofTo ((b.drop 12).take 4), ofTo ((b.drop 16).take 4), ofTo ((b.drop 0).take 4), ofTo ((b.drop 20).take 6), ofTo ((b.drop 26).take 6)⟩
theorem rd_part (x y z : List UInt8) (i j : Nat) (h : x.length = i) (hy : y.length = j) : ((x ++ y ++ z).drop i).take j = y := by
  subst h hy
  rw [List.append_assoc, List.drop_left, List.take_left]
theorem of_nat (k : Nat) (x : Int) (h0 : 0 ≤ x) (hk : k ≤ 8) (h1 : x < 256 ^ k) : ofTo (bigF k x.toNat) = x := by
  obtain ⟨n, rfl⟩ := Int.eq_ofNat_of_zero_le h0
  rw [Int.toNat_natCast]
  refine ofTo_big k n hk ?_
  have e : ((256 ^ k : Nat) : Int) = 256 ^ k := by simp
  omega
theorem rd_lay (c : Ct) (h : c.ok) : rdC c.lay = c := by
  obtain ⟨f, m, l, p, n, s, k⟩ := c
  obtain ⟨⟨⟨f0, f1⟩, ⟨m0, m1⟩, _, ⟨l0, l1⟩, p0, p1⟩, ⟨n0, n1⟩, ⟨s0, s1⟩, k0, k1⟩ := h
  simp only at f0 f1 m0 m1 l0 l1 p0 p1 n0 n1 s0 s1 k0 k1
  have ef := of_nat 4 f (by omega) (by omega) (by omega)
  have em := of_nat 4 m (by omega) (by omega) (by omega)
  have el := of_nat 4 l (by omega) (by omega) (by omega)
  have ep := of_nat 4 p (by omega) (by omega) (by omega)
  have en := of_nat 4 n (by omega) (by omega) (by omega)
  have es := of_nat 6 s (by omega) (by omega) (by omega)
  have ek := of_nat 6 k (by omega) (by omega) (by omega)
  have hl : ∀ j x, (bigF j x).length = j := bigF_len
  have e1 : Ct.lay ⟨f, m, l, p, n, s, k⟩ = (([] : List UInt8) ++ bigF 4 n.toNat) ++ (bigF 4 f.toNat ++ bigF 4 m.toNat ++ bigF 4 l.toNat ++ bigF 4 p.toNat ++ bigF 6 s.toNat ++ bigF 6 k.toNat ++ List.replicate 28 0 ++ bigF 4 n.toNat) := by
    simp [Ct.lay, List.append_assoc]
  have q0 : ((Ct.lay ⟨f, m, l, p, n, s, k⟩).drop 0).take 4 = bigF 4 n.toNat := by rw [e1]; exact rd_part _ _ _ 0 4 rfl (hl _ _)
  have e2 : Ct.lay ⟨f, m, l, p, n, s, k⟩ = (bigF 4 n.toNat ++ bigF 4 f.toNat) ++ (bigF 4 m.toNat ++ bigF 4 l.toNat ++ bigF 4 p.toNat ++ bigF 6 s.toNat ++ bigF 6 k.toNat ++ List.replicate 28 0 ++ bigF 4 n.toNat) := by
    simp [Ct.lay, List.append_assoc]
  have q1 : ((Ct.lay ⟨f, m, l, p, n, s, k⟩).drop 4).take 4 = bigF 4 f.toNat := by rw [e2]; exact rd_part _ _ _ 4 4 (by simp [hl]) (hl _ _)
  have e3 : Ct.lay ⟨f, m, l, p, n, s, k⟩ = ((bigF 4 n.toNat ++ bigF 4 f.toNat) ++ bigF 4 m.toNat) ++ (bigF 4 l.toNat ++ bigF 4 p.toNat ++ bigF 6 s.toNat ++ bigF 6 k.toNat ++ List.replicate 28 0 ++ bigF 4 n.toNat) := by
    simp [Ct.lay, List.append_assoc]
  have q2 : ((Ct.lay ⟨f, m, l, p, n, s, k⟩).drop 8).take 4 = bigF 4 m.toNat := by rw [e3]; exact rd_part _ _ _ 8 4 (by simp [hl]) (hl _ _)
  have e4 : Ct.lay ⟨f, m, l, p, n, s, k⟩ = ((bigF 4 n.toNat ++ bigF 4 f.toNat ++ bigF 4 m.toNat) ++ bigF 4 l.toNat) ++ (bigF 4 p.toNat ++ bigF 6 s.toNat ++ bigF 6 k.toNat ++ List.replicate 28 0 ++ bigF 4 n.toNat) := by
    simp [Ct.lay, List.append_assoc]
  have q3 : ((Ct.lay ⟨f, m, l, p, n, s, k⟩).drop 12).take 4 = bigF 4 l.toNat := by rw [e4]; exact rd_part _ _ _ 12 4 (by simp [hl]) (hl _ _)
  have e5 : Ct.lay ⟨f, m, l, p, n, s, k⟩ = ((bigF 4 n.toNat ++ bigF 4 f.toNat ++ bigF 4 m.toNat ++ bigF 4 l.toNat) ++ bigF 4 p.toNat) ++ (bigF 6 s.toNat ++ bigF 6 k.toNat ++ List.replicate 28 0 ++ bigF 4 n.toNat) := by
    simp [Ct.lay, List.append_assoc]
  have q4 : ((Ct.lay ⟨f, m, l, p, n, s, k⟩).drop 16).take 4 = bigF 4 p.toNat := by rw [e5]; exact rd_part _ _ _ 16 4 (by simp [hl]) (hl _ _)
  have e6 : Ct.lay ⟨f, m, l, p, n, s, k⟩ = ((bigF 4 n.toNat ++ bigF 4 f.toNat ++ bigF 4 m.toNat ++ bigF 4 l.toNat ++ bigF 4 p.toNat) ++ bigF 6 s.toNat) ++ (bigF 6 k.toNat ++ List.replicate 28 0 ++ bigF 4 n.toNat) := by
    simp [Ct.lay, List.append_assoc]
  have q5 : ((Ct.lay ⟨f, m, l, p, n, s, k⟩).drop 20).take 6 = bigF 6 s.toNat := by rw [e6]; exact rd_part _ _ _ 20 6 (by simp [hl]) (hl _ _)
  have e7 : Ct.lay ⟨f, m, l, p, n, s, k⟩ = ((bigF 4 n.toNat ++ bigF 4 f.toNat ++ bigF 4 m.toNat ++ bigF 4 l.toNat ++ bigF 4 p.toNat ++ bigF 6 s.toNat) ++ bigF 6 k.toNat) ++ (List.replicate 28 0 ++ bigF 4 n.toNat) := by
    simp [Ct.lay, List.append_assoc]
  have q6 : ((Ct.lay ⟨f, m, l, p, n, s, k⟩).drop 26).take 6 = bigF 6 k.toNat := by rw [e7]; exact rd_part _ _ _ 26 6 (by simp [hl]) (hl _ _)
  unfold rdC
  rw [q0, q1, q2, q3, q4, q5, q6, ef, em, el, ep, en, es, ek]
theorem rdC_bd (b : List UInt8) (h : b.length = 64) : (0 ≤ (rdC b).f ∧ (rdC b).f < 4294967296) ∧ (0 ≤ (rdC b).m ∧ (rdC b).m < 4294967296) ∧ (0 ≤ (rdC b).l ∧ (rdC b).l < 4294967296) ∧ (0 ≤ (rdC b).p ∧ (rdC b).p < 4294967296) ∧ (0 ≤ (rdC b).n ∧ (rdC b).n < 4294967296) ∧ (0 ≤ (rdC b).s ∧ (rdC b).s < 281474976710656) ∧ (0 ≤ (rdC b).k ∧ (rdC b).k < 281474976710656) := by
  have g : ∀ i j, i + j ≤ 64 → j ≤ 8 → 0 ≤ ofTo ((b.drop i).take j) ∧ ofTo ((b.drop i).take j) < 256 ^ j := by
    intro i j h1 h2
    have l1 : ((b.drop i).take j).length = j := by simp; omega
    have h3 := ofTo_small ((b.drop i).take j) (by omega)
    rw [l1] at h3
    exact h3
  exact ⟨g 4 4 (by omega) (by omega), g 8 4 (by omega) (by omega), g 12 4 (by omega) (by omega), g 16 4 (by omega) (by omega), g 0 4 (by omega) (by omega), g 20 6 (by omega) (by omega), g 26 6 (by omega) (by omega)⟩
/-- Which control block bytes are, in a place. -/
def Dc (b : List UInt8) (z : Int) : Prop := b.length = 64 ∧ (rdC b).ok ∧ (rdC b).lay = b ∧ (rdC b).n % 2 = z
instance (b : List UInt8) (z : Int) : Decidable (Dc b z) := inferInstanceAs (Decidable (_ ∧ _ ∧ _ ∧ _))
def decC (b : List UInt8) (z : Int) : Option Ct := if Dc b z then some (rdC b) else none
/-- What is answered of it. -/
def outC (o : Option Ct) : Value := .tuple #[(o.getD noC).agg, .int .i64 (if o.isSome then 0 else 223)]
/-- The newer one. -/
def newC (a b : List UInt8) : Option Ct :=
  match decC a 0, decC b 1 with
  | none, y => y
  | some x, none => some x
  | some x, some y => if x.n < y.n then some y else some x
theorem dec_lay (c : Ct) (h : c.ok) (z : Int) : decC c.lay z = if c.n % 2 = z then some c else none := by
  have e := rd_lay c h
  unfold decC
  by_cases hz : c.n % 2 = z
  · rw [if_pos hz, if_pos ⟨c.lay_len, by rw [e]; exact h, by rw [e], by rw [e]; exact hz⟩, e]
  · rw [if_neg hz, if_neg (fun x => hz (by have := x.2.2.2; rw [e] at this; exact this))]
end Go.Proofs.Ytpogphaflhfmbaa
