/- Lists of calls that came in, opened. -/
import Derived.Test.YtpcdioneelfphaaXLawC
import Derived.Deep.Draws
import Derived.ProofKit
import Derived.OpenShut
import Derived.SizedLaws
import Derived.Deep.Strs
import Derived.Deep.SlicePairs
namespace Go.Proofs.Ytpcdioneelfphaa
open Go.ChangeShapes Go.WideShapes Go.ChangeAt Go.RowKit Go.Deep

/-- Calls that a slice leads to, in block B: what is asked, and a number. -/
structure Cls (w : World) (B : Nat) (ao : Option Addr) (n : Nat) (A F : Nat → Int) : Prop where
  at_ : 0 < n → ∃ o, ao = some ⟨B, o, none⟩ ∧ ∀ j, j < n → w.cell? ⟨B, o + j * 2, none⟩ = some (.int .i64 (A j)) ∧ w.cell? ⟨B, o + j * 2 + 1, none⟩ = some (.int .i64 (F j))
  wf : ∀ j, j < n → I64 (A j) ∧ I64 (F j)
  lt : 0 < n → B < w.heap.size
  len : n < 9223372036854775808
theorem Cls.kept {S : Nat → Prop} {w w' : World} {B : Nat} {ao : Option Addr} {n : Nat} {A F : Nat → Int} (h : Cls w B ao n A F) (ho : Only S w w') (hS : 0 < n → ¬ S B) : Cls w' B ao n A F := by
  refine ⟨fun hl => ?_, h.wf, fun hl => Nat.lt_of_lt_of_le (h.lt hl) ho.size, h.len⟩
  obtain ⟨o, e, hc⟩ := h.at_ hl
  exact ⟨o, e, fun j hj => ⟨(ho.cell (p := ⟨B, o + j * 2, none⟩) (h.lt hl) (hS hl)).trans (hc j hj).1, (ho.cell (p := ⟨B, o + j * 2 + 1, none⟩) (h.lt hl) (hS hl)).trans (hc j hj).2⟩⟩
theorem Try.laidOut : laidOutB Try.prog = true := by kernel_rfl
theorem Try.cellsInt : Try.prog.cellsOf 3 = 1 := by kernel_rfl
theorem Try.cellsOp : Try.prog.cellsOf 36 = 2 := by kernel_rfl
theorem Try.cellsOps : Try.prog.cellsOf 25 = 1 := by kernel_rfl
theorem Try.cellsRow : Try.prog.cellsOf 27 = 2 := by kernel_rfl
theorem cell_spot {w : World} {a : Addr} {v : Value} (h : w.cell? a = some v) : a = ⟨a.block, a.off, none⟩ := by
  obtain ⟨b, o, s⟩ := a
  cases s with
  | none => rfl
  | some q =>
    unfold World.cell? at h
    split at h
    · simp at h
    · simp at h
theorem add_at (b o n : Nat) : (⟨b, o, none⟩ : Addr).add n = ⟨b, o + n, none⟩ := by
  unfold Addr.add
  split
  · rename_i h; rw [h]; rfl
  · rfl
theorem add_nought (a : Addr) : a.add 0 = a := by simp [Addr.add]
theorem ops_of_trod {H : Type} {enc : TypeId × Value → H} {W : World} {c : Value} {x : DataW H × List MemPlace} {sp : Nat → Bool} {hd : Bool} {n : Nat} (h : DataW.trod enc Try.prog W 0 sp hd n 25 [c] = some x) :
    ∃ (B : Nat) (ao : Option Addr) (n cap : Nat) (A F : Nat → Int), c = .slice ao n cap ∧ Cls W B ao n A F := by
  rcases open_slice_pairs Try.underlying25 Try.underlying36 Try.cellsOp rfl rfl Try.cellsInt Try.cellsInt h with ⟨hcs, _⟩ | ⟨a', len, cap, mm, n, V0, V1, D0, D1, P0, P1, hcs, hb, hl, hm, hmm, _, hx⟩
  · simp at hcs
    subst hcs
    exact ⟨0, none, 0, 0, fun _ => 0, fun _ => 0, rfl, ⟨fun h => by omega, fun j h => by omega, fun h => by omega, by omega⟩⟩
  · simp at hcs
    subst hcs
    have hlm : len ≤ mm := by rw [hmm]; split <;> omega
    have each : ∀ i, i < len → ∃ q : Int × Int, W.cell? (a'.add (i * 2)) = some (.int .i64 q.1) ∧ W.cell? (a'.add (i * 2 + 1)) = some (.int .i64 q.2) ∧ I64 q.1 ∧ I64 q.2 := by
      intro i hi
      obtain ⟨h0, h1, t0, t1⟩ := hx i (by omega)
      obtain ⟨z0, e0, _, w0⟩ := DataW.trod_int Try.underlying3 t0
      obtain ⟨z1, e1, _, w1⟩ := DataW.trod_int Try.underlying3 t1
      simp at e0 e1
      rw [e0] at h0
      rw [e1] at h1
      have b0 := bounds_i64 w0
      have b1 := bounds_i64 w1
      exact ⟨(z0, z1), h0, h1, I64.of (by show -9223372036854775808 ≤ z0; omega) (by show z0 < 9223372036854775808; omega), I64.of (by show -9223372036854775808 ≤ z1; omega) (by show z1 < 9223372036854775808; omega)⟩
    obtain ⟨Q, hQ⟩ := choose_lt (α := Int × Int) each
    refine ⟨a'.block, some a', len, cap, fun i => (Q i).1, fun i => (Q i).2, rfl, ⟨fun h => ?_, fun j hj => (hQ j hj).2.2, fun h => ?_, by unfold maxLen at hm; omega⟩⟩
    · have h0 := (hQ 0 h).1
      rw [Nat.zero_mul, add_nought] at h0
      have ha := cell_spot h0
      refine ⟨a'.off, by rw [← ha], fun j hj => ?_⟩
      have h1 := hQ j hj
      rw [ha, add_at, add_at] at h1
      exact ⟨h1.1, by have := h1.2.1; rwa [← Nat.add_assoc] at this⟩
    · have h0 := (hQ 0 h).1
      rw [Nat.zero_mul, add_nought] at h0
      exact World.block_lt_of_cell? W _ h0
theorem open_xops {H : Type} {enc : TypeId × Value → H} {W : World} {base : Nat} {v : Value} {d : DataW H} {ps : List MemPlace} (hok : Value.okWide Try.prog W .any base 25 v) (h : DataW.Trod enc Try.prog W 0 (fun _ => true) true 25 v d ps) :
    ∃ (B : Nat) (ao : Option Addr) (n cap : Nat) (A F : Nat → Int), v = .slice ao n cap ∧ Cls W B ao n A F := by
  obtain ⟨a, len, cap, rfl⟩ := okWide_slice Try.underlying25 hok
  obtain ⟨fuel, hf⟩ := h
  exact ops_of_trod (by simpa [Value.cells] using hf)
theorem open_xrow {H : Type} {enc : TypeId × Value → H} {W : World} {base : Nat} {v : Value} {d : DataW H} {ps : List MemPlace} (hok : Value.okWide Try.prog W .any base 27 v) (h : DataW.Trod enc Try.prog W 0 (fun _ => true) true 27 v d ps) :
    ∃ (z : Int) (B : Nat) (ao : Option Addr) (n cap : Nat) (A F : Nat → Int), v = .agg #[.int .i64 z, .slice ao n cap] ∧ I64 z ∧ Cls W B ao n A F := by
  obtain ⟨cs, rfl, hs⟩ := okWide_struct Try.underlying27 hok
  obtain ⟨fuel, hf⟩ := h
  rw [Try.cellsRow] at hs
  obtain ⟨y0, y1, n, _, _, g0, g1⟩ := trod_struct2 Try.underlying27 hf
  obtain ⟨c0, c1, rfl⟩ : ∃ c0 c1, cs = #[c0, c1] := by
    obtain ⟨l⟩ := cs
    match l, hs with
    | [a, b], _ => exact ⟨a, b, rfl⟩
  simp [Value.cells, Try.cellsInt, Try.cellsOps] at g0 g1
  obtain ⟨z, e1, _, wz⟩ := DataW.trod_int Try.underlying3 g0
  simp at e1
  subst e1
  obtain ⟨B, ao, n, cap, A, F, rfl, hI⟩ := ops_of_trod g1
  have b1 := bounds_i64 wz
  exact ⟨z, B, ao, n, cap, A, F, rfl, I64.of (by omega) (by omega), hI⟩
end Go.Proofs.Ytpcdioneelfphaa
