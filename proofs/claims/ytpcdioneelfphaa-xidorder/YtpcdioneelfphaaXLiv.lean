/- A list of numbers that is appended to and cut at its head; which ids are ahead of which. -/
import Derived.Test.YtpcdioneelfphaaXOpen
import Derived.ArgAppend
import Derived.Laws.OwnMore
import Derived.Maps.AppendAt
import Derived.Lib.AppendZeros
namespace Go.Proofs.Ytpcdioneelfphaa
open Go.RowKit

/-- Numbers that a slice leads to, in a block from base on; all cells up to the capacity are there. -/
structure Liv (w : World) (base : Nat) (ao : Option Addr) (L cap : Nat) (g : Nat → Int) : Prop where
  nil : ao = none → L = 0 ∧ cap = 0
  at_ : ∀ a, ao = some a → ∃ b o, a = ⟨b, o, none⟩ ∧ base ≤ b ∧ b < w.heap.size ∧ (∀ j, j < L → w.cell? ⟨b, o + j, none⟩ = some (.int .i64 (g j))) ∧ ∀ j, j < cap → (w.cell? ⟨b, o + j, none⟩).isSome = true ∧ w.frozen? ⟨b, o + j, none⟩ = false
  le : L ≤ cap
  big : cap ≤ maxLen
theorem Liv.bare (w : World) (base : Nat) (g : Nat → Int) : Liv w base none 0 0 g := ⟨fun _ => ⟨rfl, rfl⟩, fun _ h => by (cases h), Nat.le_refl _, Nat.zero_le _⟩
theorem Liv.kept {S : Nat → Prop} {w w' : World} {base : Nat} {ao : Option Addr} {L cap : Nat} {g : Nat → Int} (h : Liv w base ao L cap g) (ho : Only S w w') (hS : ∀ k, base ≤ k → ¬ S k) : Liv w' base ao L cap g := by
  refine ⟨h.nil, fun a e => ?_, h.le, h.big⟩
  obtain ⟨b, o, e1, h1, h2, h3, h4⟩ := h.at_ a e
  refine ⟨b, o, e1, h1, Nat.lt_of_lt_of_le h2 ho.size, fun j hj => (ho.cell (p := ⟨b, o + j, none⟩) h2 (hS b h1)).trans (h3 j hj), fun j hj => ?_⟩
  rw [ho.cell (p := ⟨b, o + j, none⟩) h2 (hS b h1), ho.frozen (p := ⟨b, o + j, none⟩) h2 (hS b h1)]
  exact h4 j hj
theorem Liv.as {w : World} {base : Nat} {ao : Option Addr} {L cap : Nat} {g g' : Nat → Int} (h : Liv w base ao L cap g) (hg : ∀ j, j < L → g j = g' j) : Liv w base ao L cap g' := by
  refine ⟨h.nil, fun a e => ?_, h.le, h.big⟩
  obtain ⟨b, o, e1, h1, h2, h3, h4⟩ := h.at_ a e
  exact ⟨b, o, e1, h1, h2, fun j hj => by rw [← hg j hj]; exact h3 j hj, h4⟩
/-- Its head is cut off. -/
theorem Liv.cut {w : World} {base : Nat} {b o : Nat} {L cap : Nat} {g : Nat → Int} (h : Liv w base (some ⟨b, o, none⟩) L cap g) {n : Nat} (hn : n ≤ L) : Liv w base (if cap = n then some ⟨b, o, none⟩ else some ⟨b, o + n, none⟩) (L - n) (cap - n) (fun k => g (n + k)) := by
  have hle := h.le
  have hb := h.big
  obtain ⟨b', o', e1, h1, h2, h3, h4⟩ := h.at_ _ rfl
  injection e1 with e1 e2 _
  subst e1
  subst e2
  by_cases hc : cap = n
  · rw [if_pos hc]
    refine ⟨fun h => by (cases h), fun a e => ?_, by omega, by omega⟩
    injection e with e
    subst e
    exact ⟨b, o, rfl, h1, h2, fun j hj => by omega, fun j hj => by omega⟩
  · rw [if_neg hc]
    refine ⟨fun h => by (cases h), fun a e => ?_, by omega, by omega⟩
    injection e with e
    subst e
    refine ⟨b, o + n, rfl, h1, h2, fun j hj => ?_, fun j hj => ?_⟩
    · rw [Nat.add_assoc]; exact h3 (n + j) (by omega)
    · rw [Nat.add_assoc]; exact h4 (n + j) (by omega)
theorem Try.infoInt : (Try.prog.info? 3).map (fun i => (i.zero, i.size, i.bytes)) = some (some (.int .i64 0), 1, 8) := by kernel_rfl
def upd (g : Nat → Int) (L : Nat) (x : Int) : Nat → Int := fun k => if k = L then x else g k
theorem Liv.of_own {w w' : World} {base : Nat} {v : Value} {L : Nat} {g : Nat → Int} {x : Int} {B : Nat} (hB : base ≤ B) (h : w'.ownsRow B 3 1 v (L + 1) ((List.range L).map (fun k => Value.int .i64 (g k)) ++ [.int .i64 x])) (hg : w.grownBy w' none) :
    ∃ ao' cap', v = .slice ao' (L + 1) cap' ∧ Liv w' base ao' (L + 1) cap' (upd g L x) ∧ Only (fun k => base ≤ k) w w' := by
  have ho : Only (fun k => base ≤ k) w w' := Only.grown hg (fun k hk => by cases hk)
  rcases h.2 with ⟨_, h0⟩ | ⟨q, cap, cur, rfl, hb, hq, hn, hm, hcs, _⟩
  · omega
  · refine ⟨some ⟨q, 0, none⟩, cap, rfl, ⟨fun h => by (cases h), fun a e => ?_, hn, hm⟩, ho⟩
    injection e with e
    subst e
    refine ⟨q, 0, rfl, Nat.le_trans hB hb, (Array.getElem?_eq_some_iff.1 hq).1, fun j hj => ?_, fun j hj => ?_⟩
    · rw [Nat.zero_add, World.ownsRow.cellAt h j (by omega)]
      unfold upd
      by_cases e : j = L
      · subst e; rw [if_pos rfl, List.getElem?_append_right (by simp)]; simp
      · rw [if_neg e, List.getElem?_append_left (by simp; omega)]
        simp [show j < L by omega]
    · rw [Nat.zero_add]
      refine ⟨?_, World.ownsRow.frozenAt h j⟩
      unfold World.cell?
      simp only [hq]
      rw [Nat.mul_one] at hcs
      simp [hcs, hj]
theorem append_liv (w W : World) (ty : TypeId) (base : Nat) (ao : Option Addr) (L cap : Nat) (g : Nat → Int) (h : Liv w base ao L cap g) (x : Int) (hL : L ≤ 5000) (hbase : base ≤ w.heap.size) (hW : Only (fun _ => False) w W) (q : Nat) (hq : W.cell? ⟨q, 0, none⟩ = some (.int .i64 x)) :
    ∃ ao' cap' W', (Builtin.append_ #[44, 44] ty #[.slice ao L cap, .slice (some ⟨q, 0, none⟩) 1 1]).run Try.prog W = .ok (.slice ao' (L + 1) cap') W' ∧ Liv W' base ao' (L + 1) cap' (upd g L x) ∧ Only (fun k => base ≤ k) w W' := by
  obtain ⟨i0, hi, hz0, hz1, hz2⟩ := info_parts Try.infoInt
  have h' := h.kept hW (fun _ _ h => h)
  have hnews : ∀ j u, [Value.int .i64 x][j]? = some u → W.cell? ((⟨q, 0, none⟩ : Addr).add j) = some u := by
    intro j u hj
    match j, hj with
    | 0, hj =>
      simp at hj; subst hj
      rw [add_at]; exact hq
  have hb2 : base ≤ W.heap.size := Nat.le_trans hbase hW.size
  have hup : ∀ W', Only (fun k => base ≤ k) W W' → Only (fun k => base ≤ k) w W' := fun W' hh => (hW.mono (fun _ _ h => h.elim)).trans hh (fun _ _ h => h)
  cases ao with
  | none =>
    obtain ⟨rfl, rfl⟩ := h.nil rfl
    obtain ⟨v', W', hr, h2, h3, _, _⟩ := run_append_own_at (P := Try.prog) W W.heap.size 44 ty 3 i0 (.int .i64 0) 1 8 Try.underlying44 hi hz0 hz1 hz2 rfl (by decide) (.slice none 0 0) 0 [] (World.ownsRow_nil _ _ _ _) ⟨q, 0, none⟩ 1 1 [.int .i64 x] rfl hnews (by intro u hu; simp at hu; subst hu; rfl) (by unfold maxLen; omega) (by omega) (Nat.le_refl _)
    obtain ⟨ao', cap', rfl, h5, h6⟩ := Liv.of_own (w := W) (L := 0) (g := g) (x := x) hb2 (by simpa using h2) h3
    exact ⟨ao', cap', W', hr, h5, hup _ h6⟩
  | some a =>
    obtain ⟨b, o, rfl, h1, h2, h3, h4⟩ := h'.at_ a rfl
    by_cases hroom : L + 1 ≤ cap
    · have h4' := h4 L (by omega)
      have hr := run_append_room_cells (P := Try.prog) W 44 ty 3 i0 Try.underlying44 hi b o L cap ⟨q, 0, none⟩ 1 1 [.int .i64 x] (by rw [hz1]; rfl) hnews (by intro u hu; simp at hu; subst hu; rfl) hroom
        (fun j hj => by simp at hj; subst hj; rw [hz1, Nat.mul_one]; exact h4'.1) (fun j hj => by simp at hj; subst hj; rw [hz1, Nat.mul_one]; exact h4'.2)
      rw [hz1, Nat.mul_one] at hr
      have hs : W.setCells b (o + L) [.int .i64 x] = W.setCell ⟨b, o + L, none⟩ (.int .i64 x) := rfl
      rw [hs] at hr
      have ho : Only (fun k => base ≤ k) W (W.setCell ⟨b, o + L, none⟩ (.int .i64 x)) := Only.setCell (S := fun k => base ≤ k) W ⟨b, o + L, none⟩ _ h1
      refine ⟨some ⟨b, o, none⟩, cap, _, hr, ⟨fun h => by (cases h), fun a e => ?_, hroom, h.big⟩, hup _ ho⟩
      injection e with e
      subst e
      refine ⟨b, o, rfl, h1, Nat.lt_of_lt_of_le h2 ho.size, fun j hj => ?_, fun j hj => ?_⟩
      · unfold upd
        by_cases e : j = L
        · subst e
          rw [if_pos rfl]
          obtain ⟨y, hy⟩ := Option.isSome_iff_exists.1 h4'.1
          exact World.cell?_setCell_same _ _ _ hy
        · rw [if_neg e, World.cell?_setCell_other _ _ _ _ (by simp)]
          exact h3 j (by omega)
      · rw [World.frozen?_setCell]
        refine ⟨?_, (h4 j hj).2⟩
        by_cases e : j = L
        · subst e
          obtain ⟨y, hy⟩ := Option.isSome_iff_exists.1 h4'.1
          rw [World.cell?_setCell_same _ _ _ hy]; rfl
        · rw [World.cell?_setCell_other _ _ _ _ (by simp)]
          exact (h4 j hj).1
    · obtain ⟨v', W', hr, h5, h6⟩ := run_append_arg_grows (P := Try.prog) W 44 ty 3 i0 (.int .i64 0) 1 8 Try.underlying44 hi hz0 hz1 hz2 rfl (by decide) ⟨b, o, none⟩ L cap ((List.range L).map (fun k => Value.int .i64 (g k))) (by simp)
        (fun j u hj => by
          have hjl : j < L := by have := (List.getElem?_eq_some_iff.1 hj).1; simpa using this
          rw [add_at, h3 j hjl, ← hj]
          simp [hjl]) ⟨q, 0, none⟩ 1 1 [.int .i64 x] rfl hnews (by omega) (by unfold maxLen; omega) (by omega)
      obtain ⟨ao', cap', rfl, h7, h8⟩ := Liv.of_own (w := W) (L := L) (g := g) (x := x) hb2 h5 h6
      exact ⟨ao', cap', W', hr, h7, hup _ h8⟩
/- The ring. -/
theorem xadd_add {m f n k : Int} (h : Idd m f) : xadd m (xadd m f n) k = xadd m f (n + k) := by
  have hi := xadd_id (n := n) h
  unfold xadd at hi ⊢
  rw [if_pos h] at hi ⊢
  rw [if_pos hi, if_pos h]
  rw [show (f - 1 + n) % m + 1 - 1 + k = k + (f - 1 + n) % m from by omega, plus_mod, show k + (f - 1 + n) = f - 1 + (n + k) from by omega]
theorem gap_on {m f n : Int} (h : Idd m f) (h0 : 0 ≤ n) (h1 : n < m) : xgap m f (xadd m f n) = n := by
  have hi := xadd_id (n := n) h
  have := h.2
  have := hi.2
  have h2 := ring_on h h0 h1
  rw [ring_gap h hi]
  split at h2 <;> split <;> omega
theorem xadd_zero {m f : Int} (h : Idd m f) : xadd m f 0 = f := by
  have := h.1.1
  have := h.2
  rw [ring_on h (by omega) (by omega)]
  split <;> omega
theorem ahead {m f k n : Int} (h : Idd m f) (h0 : 0 ≤ k) (h1 : k < n) (h2 : n ≤ m / 2 - 2) : ¬ xadd m f k = xadd m f n ∧ xbef m (xadd m f k) (xadd m f n) = true ∧ xbef m (xadd m f n) (xadd m f k) = false := by
  have h16 := h.1.1
  have hk := xadd_id (n := k) h
  have e : xadd m f n = xadd m (xadd m f k) (n - k) := by rw [xadd_add h]; congr 1; omega
  rw [e]
  generalize xadd m f k = a at *
  have hi := xadd_id (n := n - k) hk
  have h3 := ring_on (n := n - k) hk (by omega) (by omega)
  have g1 := gap_on (n := n - k) hk (by omega) (by omega)
  have g2 := ring_gap hi hk
  have := hk.2
  have := hi.2
  refine ⟨?_, ?_, ?_⟩
  · split at h3 <;> omega
  · unfold xbef; rw [g1]; simp; omega
  · unfold xbef
    rw [g2]
    simp only [decide_eq_false_iff_not]
    split at h3 <;> split <;> omega
end Go.Proofs.Ytpcdioneelfphaa
