/- A list of items that came in, opened. -/
import Derived.Test.YtignmpddlgdfdaaAwake
import Derived.Deep.Draws
import Derived.ProofKit
import Derived.OpenShut
import Derived.ShutString
import Derived.SizedLaws
import Derived.Deep.Strs
namespace Go.Proofs.Ytignmpddlgdfdaa
open Go.ChangeShapes Go.WideShapes Go.ChangeAt Go.RowKit Go.Deep

/-- A list of items in memory: its kinds, numbers and texts. -/
def Its (w : World) (a : Option Addr) (len : Nat) (K N : Nat → Int) (S : Nat → ByteArray) : Prop :=
  ∀ i, i < len → ∃ b off, a = some ⟨b, off, none⟩ ∧ b < w.heap.size ∧ w.cell? ⟨b, off + i * 3, none⟩ = some (.int .u8 (K i)) ∧ w.cell? ⟨b, off + i * 3 + 1, none⟩ = some (.int .i64 (N i)) ∧ w.cell? ⟨b, off + i * 3 + 2, none⟩ = some (.string (S i)) ∧
    0 ≤ K i ∧ K i < 256 ∧ -9223372036854775808 ≤ N i ∧ N i < 9223372036854775808 ∧ (S i).size ≤ maxLen

theorem onlyN (w : World) (n : Nat) : Only (fun _ => False) w (w.drewN n) := ⟨rfl, rfl, rfl, Nat.le_refl _, fun _ _ _ => rfl⟩
theorem Try.laidOut : laidOutB Try.prog = true := by kernel_rfl
theorem Try.cellsItem : Try.prog.cellsOf 34 = 3 := by kernel_rfl
theorem Try.cellsU8 : Try.prog.cellsOf 5 = 1 := by kernel_rfl
theorem Try.cellsInt : Try.prog.cellsOf 3 = 1 := by kernel_rfl
theorem Try.cellsStr : Try.prog.cellsOf 9 = 1 := by kernel_rfl

theorem cell_spot {w : World} {a : Addr} {v : Value} (h : w.cell? a = some v) : a = ⟨a.block, a.off, none⟩ := by
  obtain ⟨b, o, s⟩ := a
  cases s with
  | none => rfl
  | some q =>
    unfold World.cell? at h
    split at h
    · simp at h
    · simp at h
theorem add_at (b o n : Nat) : (⟨b, o, none⟩ : Addr).add n = ⟨b, o + n, none⟩ := by
  unfold Addr.add
  split
  · rename_i h; rw [h]; rfl
  · rfl

theorem one_item {H : Type} {enc : TypeId × Value → H} {w : World} {sp : Nat → Bool} {a : Addr} {i n : Nat} {D : DataW H} {Pl : List MemPlace}
    (h : ∃ cs', w.cells? 0 (a.add (i * Try.prog.cellsOf 34)) (Try.prog.cellsOf 34) = some cs' ∧ DataW.trod enc Try.prog w 0 sp true n 34 cs' = some (D, Pl)) :
    ∃ q : Int × Int × ByteArray, w.cell? (a.add (i * 3)) = some (.int .u8 q.1) ∧ w.cell? (a.add (i * 3 + 1)) = some (.int .i64 q.2.1) ∧ w.cell? (a.add (i * 3 + 2)) = some (.string q.2.2) ∧
      0 ≤ q.1 ∧ q.1 < 256 ∧ -9223372036854775808 ≤ q.2.1 ∧ q.2.1 < 9223372036854775808 ∧ q.2.2.size ≤ maxLen ∧ D = .agg [.lit (.int .u8 q.1), .lit (.int .i64 q.2.1), .lit (.string q.2.2.data.toList)] := by
  obtain ⟨cs', h1, h2⟩ := h
  rw [Try.cellsItem] at h1
  obtain ⟨_, hlen, hcell⟩ := World.cells?_some h1
  obtain ⟨y0, y1, y2, m, hxy, _, g0, g1, g2⟩ := trod_struct3 Try.underlying34 h2
  match cs', hlen with
  | [v0, v1, v2], _ =>
    simp [Try.cellsU8, Try.cellsInt, Try.cellsStr] at g0 g1 g2
    obtain ⟨k, e0, f0, wk⟩ := DataW.trod_int Try.underlying5 g0
    obtain ⟨z, e1, f1, wz⟩ := DataW.trod_int Try.underlying3 g1
    obtain ⟨s, e2, f2, ws⟩ := DataW.trod_string Try.underlying9 g2
    simp at e0 e1 e2
    subst e0; subst e1; subst e2
    have c0 := hcell 0 (by omega)
    have c1 := hcell 1 (by omega)
    have c2 := hcell 2 (by omega)
    rw [add_add] at c0 c1 c2
    have b0 := bounds_u8 wk
    have b1 := bounds_i64 wz
    simp only [Prod.mk.injEq] at hxy
    rw [f0, f1, f2] at hxy
    exact ⟨(k, z, s), by simpa using c0, by simpa using c1, by simpa using c2, b0.1, (by show k < 256; omega), b1.1, (by show z < 9223372036854775808; omega), ws, hxy.1⟩

theorem open_items {H : Type} {enc : TypeId × Value → H} {W : World} {base : Nat} {v : Value} {d : DataW H} {ps : List MemPlace} (hok : Value.okWide Try.prog W .any base 29 v) (h : DataW.Trod enc Try.prog W 0 (fun _ => true) true 29 v d ps) :
    ∃ (a : Option Addr) (len cap : Nat) (K N : Nat → Int) (S : Nat → ByteArray) (sp : List (DataW H)), v = .slice a len cap ∧ len ≤ maxLen ∧ Its W a len K N S ∧
      ((d = .nil ∧ len = 0) ∨ d = .slice ((List.range len).map fun i => .agg [.lit (.int .u8 (K i)), .lit (.int .i64 (N i)), .lit (.string (S i).data.toList)]) sp) := by
  obtain ⟨a, len, cap, rfl⟩ := okWide_slice Try.underlying29 hok
  obtain ⟨fuel, hf⟩ := h
  rcases open_slice Try.underlying29 (by simpa [Value.cells] using hf) with ⟨hcs, hx⟩ | ⟨a', len', cap', m, n, D, Pl, hcs, hb, hl, hm, hmm, hx, hit⟩
  · simp at hcs
    obtain ⟨rfl, rfl, rfl⟩ := hcs
    simp only [Prod.mk.injEq] at hx
    exact ⟨none, 0, 0, fun _ => 0, fun _ => 0, fun _ => ByteArray.empty, [], rfl, Nat.zero_le _, fun i hi => absurd hi (Nat.not_lt_zero _), .inl ⟨hx.1, rfl⟩⟩
  · simp at hcs
    obtain ⟨rfl, rfl, rfl⟩ := hcs
    simp at hmm
    subst hmm
    obtain ⟨q, hq⟩ := choose_lt (n := m) (fun i hi => one_item (hit i hi))
    simp only [Prod.mk.injEq] at hx
    refine ⟨some a', len, m, fun i => (q i).1, fun i => (q i).2.1, fun i => (q i).2.2, (List.range (m - len)).map (fun j => D (len + j)), rfl, Nat.le_trans hl hm, ?_, .inr (hx.1.trans ?_)⟩
    · intro i hi
      obtain ⟨c0, c1, c2, b0, b1, b2, b3, b4, _⟩ := hq i (by omega)
      obtain ⟨z0, _⟩ := hq 0 (by omega)
      have e : a' = ⟨a'.block, a'.off, none⟩ := by
        have h0 : a'.add (0 * 3) = a' := by simp [Addr.add]
        rw [h0] at z0
        exact cell_spot z0
      obtain ⟨bb, oo, ss⟩ := a'
      simp at e
      subst e
      rw [add_at] at c0 c1 c2
      exact ⟨bb, oo, rfl, World.block_lt_of_cell? W _ c0, c0, c1, c2, b0, b1, b2, b3, b4⟩
    · rw [List.map_congr_left (fun i hi => (hq i (by have := List.mem_range.1 hi; omega)).2.2.2.2.2.2.2.2)]
end Go.Proofs.Ytignmpddlgdfdaa
