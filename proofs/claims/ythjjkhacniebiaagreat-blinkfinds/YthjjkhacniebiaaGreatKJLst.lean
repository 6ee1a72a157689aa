/- Lists of bools and of numbers in memory. -/
import Derived.Test.YthjjkhacniebiaaGreatK14
namespace Go.Proofs.YthjjkhacniebiaaGreat
open Go.RowKit

/-- Bools in memory. -/
structure Bls (w : World) (B : Nat) (ao : Option Addr) (l : List Bool) : Prop where
  at_ : 0 < l.length → ∃ o, ao = some ⟨B, o, none⟩ ∧ ∀ j (h : j < l.length), w.cell? ⟨B, o + j, none⟩ = some (.bool l[j])
  lt : 0 < l.length → B < w.heap.size
theorem Bls.kept {S : Nat → Prop} {w w' : World} {B : Nat} {ao : Option Addr} {l : List Bool} (h : Bls w B ao l) (ho : Only S w w') (hS : 0 < l.length → ¬ S B) : Bls w' B ao l := by
  refine ⟨fun h0 => ?_, fun h0 => Nat.lt_of_lt_of_le (h.lt h0) ho.size⟩
  obtain ⟨o, h1, h2⟩ := h.at_ h0
  exact ⟨o, h1, fun j hj => (ho.cell (p := ⟨B, o + j, none⟩) (h.lt h0) (hS h0)).trans (h2 j hj)⟩
theorem ld_bool {w : World} {p : Addr} {v : Value} (h : w.cell? p = some v) : (loadVar 4 p).run Tryz.prog w = .ok v w := by simp [loadVar, go_sem, h]
/-- Numbers in memory. -/
structure Its (w : World) (B : Nat) (ao : Option Addr) (l : List Int) : Prop where
  at_ : 0 < l.length → ∃ o, ao = some ⟨B, o, none⟩ ∧ ∀ j (h : j < l.length), w.cell? ⟨B, o + j, none⟩ = some (.int .i64 l[j])
  lt : 0 < l.length → B < w.heap.size
theorem Its.kept {S : Nat → Prop} {w w' : World} {B : Nat} {ao : Option Addr} {l : List Int} (h : Its w B ao l) (ho : Only S w w') (hS : 0 < l.length → ¬ S B) : Its w' B ao l := by
  refine ⟨fun h0 => ?_, fun h0 => Nat.lt_of_lt_of_le (h.lt h0) ho.size⟩
  obtain ⟨o, h1, h2⟩ := h.at_ h0
  exact ⟨o, h1, fun j hj => (ho.cell (p := ⟨B, o + j, none⟩) (h.lt h0) (hS h0)).trans (h2 j hj)⟩
theorem Ets.len {w : World} {base : Nat} {v : Value} {es : List En} (h : Ets w base v es) : es.length ≤ 9223372036854775807 := by
  rcases h.2 with ⟨_, h0⟩ | ⟨g, cap, cur, _, _, _, h1, h2, _⟩
  · omega
  · unfold maxLen at h2
    omega
theorem Ets.cap {w : World} {base : Nat} {A : Option Addr} {n C : Nat} {es : List En} (h : Ets w base (.slice A n C) es) : n ≤ C := by
  rcases h.2 with ⟨e, h0⟩ | ⟨g, cap, cur, e, _, _, h1, h2, _⟩
  · injection e with e1 e2 e3
    omega
  · injection e with e1 e2 e3
    omega
end Go.Proofs.YthjjkhacniebiaaGreat
