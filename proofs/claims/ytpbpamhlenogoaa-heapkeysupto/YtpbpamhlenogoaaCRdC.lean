/- The document's Num over the records' base. -/
import Derived.Test.YtpbpamhlenogoaaCRdB
namespace Go.Proofs.Ytpbpamhlenogoaa
open Go.RowKit

/-- What Num of the document's Reader leaves: 'N' is what is taken of the bytes from place p on. -/
def XPost (w w' : World) (x : Nat) (s : ByteArray) (l : List UInt8) (y : Int) : Prop :=
  ∃ p' : Nat, XR w' x s p' y ∧ (y = 0 → p' ≤ s.size ∧ s.data.toList.drop p' = l) ∧ Only (fun k => k = x) w w'

theorem drop_at (s : ByteArray) (p j : Nat) (h : p + j < s.size) : (s.data.toList.drop p).drop j = s[p + j] :: (s.data.toList.drop p).drop (j + 1) := by
  rw [List.drop_drop, List.drop_drop, drop_cons s (p + j) h]
  rfl
theorem drop_over (s : ByteArray) (p j : Nat) (h : ¬ p + j < s.size) : (s.data.toList.drop p).drop j = [] := by
  rw [List.drop_drop, drop_none s (p + j) h]

theorem xp_wrong {w wr W : World} {x : Nat} {s : ByteArray} {p : Nat} {y : Int} (h : XR wr x s p 0) (ho : Only (fun k => k = x) w wr) (hy : y ≠ 0) (hW : Only (fun _ => False) (wr.setCell ⟨x, 2, none⟩ (.int .i64 y)) W) : XPost w W x s [] y :=
  ⟨p, (h.set2 y).kept hW (fun h => h), fun e => absurd e hy, (ho.trans (Only.setCell (S := fun k => k = x) wr ⟨x, 2, none⟩ _ rfl) (fun _ _ h => h)).trans hW (fun _ _ h => h.elim)⟩
theorem xp_last {w wr W : World} {x : Nat} {s : ByteArray} {p q : Nat} {v : Int} {l : List UInt8} (h : XR wr x s p 0) (ho : Only (fun k => k = x) w wr) (hv : (q : Int) = v) (hW : Only (fun _ => False) (wr.setCell ⟨x, 1, none⟩ (.int .i64 v)) W) (hq : q ≤ s.size) (hl : s.data.toList.drop q = l) : XPost w W x s l 0 ∧ XR W x s q 0 ∧ Only (fun k => k = x) w W := by
  subst hv
  have h1 := (h.set1 q).kept hW (fun h => h)
  have h2 := (ho.trans (Only.setCell (S := fun k => k = x) wr ⟨x, 1, none⟩ (.int .i64 (q : Int)) rfl) (fun _ _ h => h)).trans hW (fun _ _ h => h.elim)
  exact ⟨⟨q, h1, fun _ => ⟨hq, hl⟩, h2⟩, h1, h2⟩
theorem x_step (k : Nat) (q d : Int) (hk : k ≤ 8) (q0 : 0 ≤ q) (q1 : q < 128 ^ k) (d0 : 0 ≤ d) (d1 : d < 128) : wrap64 (q + wrap64 (d % 128 * 128 ^ k)) = q + d * 128 ^ k := by
  have h := (or_shift k q d hk q0 q1 d0 d1).2
  have h9 := pow_le9 k hk
  have e : d % 128 = d := by omega
  have hp : (0 : Int) ≤ 128 ^ k := Int.pow_nonneg (by decide)
  have hd : 0 ≤ d * 128 ^ k := Int.mul_nonneg d0 hp
  rw [e, w64_id (d * 128 ^ k) (by omega), w64_id _ (by omega)]
theorem x_unit (k : Nat) (hk : k ≤ 7) : wrap64 (128 * 128 ^ k) = 128 ^ (k + 1) := by
  have hc : k = 0 ∨ k = 1 ∨ k = 2 ∨ k = 3 ∨ k = 4 ∨ k = 5 ∨ k = 6 ∨ k = 7 := by omega
  rcases hc with rfl | rfl | rfl | rfl | rfl | rfl | rfl | rfl <;> (rw [w64_id _ (by decide)]; decide)
theorem drews (w : World) : Only (fun _ => False) w w.drew.drew := (Only.drew _ w).trans (Only.drew _ _) (fun _ _ h => h) (T := fun _ => False)

end Go.Proofs.Ytpbpamhlenogoaa
