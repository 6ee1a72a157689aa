/- Rows of numbers. -/
import Derived.Test.YtahmmhmahglonaaEFind
import Derived.Maps.AppendAt
namespace Go.Proofs.Ytahmmhmahglonaa
open Go.RowKit Go.Maps

/-- Numbers in a row of one's own. -/
def IRow (w : World) (base : Nat) (v : Value) (L : List Int) : Prop := w.ownsRow base 3 1 v L.length (L.map iv)
theorem ints_sorted {L : List Int} (hn : L.Nodup) : (L.mergeSort fun x y => decide (x ≤ y)).length = L.length ∧ (∀ k, k ∈ (L.mergeSort fun x y => decide (x ≤ y)) ↔ k ∈ L) ∧ (L.mergeSort fun x y => decide (x ≤ y)).Pairwise (· < ·) := by
  have hp := List.mergeSort_perm L (fun x y => decide (x ≤ y))
  have tr : ∀ a b c : Int, decide (a ≤ b) = true → decide (b ≤ c) = true → decide (a ≤ c) = true := fun a b c h1 h2 => by simp at *; omega
  have tot : ∀ a b : Int, (decide (a ≤ b) || decide (b ≤ a)) = true := fun a b => by simp; omega
  refine ⟨hp.length_eq, fun k => hp.mem_iff, ?_⟩
  refine ((List.pairwise_mergeSort tr tot L).and (hp.nodup_iff.2 hn)).imp ?_
  rintro a b ⟨h1, h2⟩
  simp at h1
  omega
theorem IRow.kept {S : Nat → Prop} {w w' : World} {base : Nat} {v : Value} {L : List Int} (h : IRow w base v L) (ho : Only S w w') (hS : ∀ k, v.ownBlock = some k → ¬ S k) : IRow w' base v L := by
  obtain ⟨h1, h2⟩ := h
  refine ⟨h1, ?_⟩
  rcases h2 with h2 | ⟨g, cap, cur, hv, hg, hh, r⟩
  · exact .inl h2
  · subst hv
    exact .inr ⟨g, cap, cur, rfl, hg, by rw [ho.block g (Array.getElem?_eq_some_iff.1 hh).1 (hS g rfl)]; exact hh, r⟩
theorem IRow.form {w : World} {base : Nat} {v : Value} {L : List Int} (h : IRow w base v L) : ∃ ao cp, v = .slice ao L.length cp := by
  rcases h.2 with ⟨rfl, h0⟩ | ⟨g, cap, cur, rfl, _⟩
  · exact ⟨none, 0, by rw [h0]⟩
  · exact ⟨_, _, rfl⟩
theorem IRow.at_ {w : World} {base n cp : Nat} {ao : Option Addr} {L : List Int} (h : IRow w base (.slice ao n cp) L) {j : Nat} (hj : j < L.length) : ∃ g, ao = some ⟨g, 0, none⟩ ∧ base ≤ g ∧ g < w.heap.size ∧ w.cell? ⟨g, j, none⟩ = some (.int .i64 L[j]) := by
  have h' := h
  rcases h.2 with ⟨_, h0⟩ | ⟨g, cap, cur, e, hb, hh, _⟩
  · omega
  · injection e with e1 e2 e3
    subst e1
    subst e2
    have hc := World.ownsRow.cellAt h' j (by omega)
    refine ⟨g, rfl, hb, (Array.getElem?_eq_some_iff.1 hh).1, ?_⟩
    rw [hc]
    simp [iv, hj]
theorem IRow.low {w : World} {base : Nat} {v : Value} {L : List Int} (h : IRow w base v L) : ∀ k, v.ownBlock = some k → base ≤ k ∧ k < w.heap.size := fun k hk => World.ownsRow.lt h k hk
theorem IRow.base {w : World} {b b' : Nat} {v : Value} {L : List Int} (h : IRow w b v L) (hb : b' ≤ b) : IRow w b' v L := by
  obtain ⟨h1, h2⟩ := h
  refine ⟨h1, ?_⟩
  rcases h2 with h2 | ⟨g, cap, cur, hv, hg, r⟩
  · exact .inl h2
  · exact .inr ⟨g, cap, cur, hv, Nat.le_trans hb hg, r⟩
theorem IRow.nil (w : World) (base : Nat) : IRow w base (.slice none 0 0) [] := ⟨by simp, .inl ⟨rfl, rfl⟩⟩
theorem Try.infoInt : (Try.prog.info? 3).map (fun i => (i.zero, i.size, i.bytes)) = some (some (.int .i64 0), 1, 8) := by kernel_rfl
theorem ints_one {L M : List Int} (h : L.Pairwise (· < ·)) (k : M.Pairwise (· < ·)) (hm : ∀ a, a ∈ L ↔ a ∈ M) : L = M := by
  refine List.Perm.eq_of_pairwise (le := fun a b : Int => a < b) (fun a b _ _ h1 h2 => by omega) h k ?_
  exact (List.perm_ext_iff_of_nodup (h.imp (fun hab e => by omega)) (k.imp (fun hab e => by omega))).2 hm
/-- The known pages, rising. -/
structure PgIs (f : Kn) (L : List Int) : Prop where
  up : L.Pairwise (· < ·)
  mem : ∀ a, a ∈ L ↔ ∃ b, f a = some b
theorem PgIs.one {f : Kn} {L M : List Int} (h : PgIs f L) (k : PgIs f M) : L = M := ints_one h.up k.up (fun a => (h.mem a).trans (k.mem a).symm)
end Go.Proofs.Ytahmmhmahglonaa
