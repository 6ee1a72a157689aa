/- Lists of spots, and a ruin, that came in, opened. -/
import Derived.Test.YtedanlbbpfaleaaDLastsW
import Derived.Test.YtedanlbbpfaleaaDOpen
import Derived.Deep.SlicePairs
namespace Go.Proofs.Ytedanlbbpfaleaa
open Go.ChangeShapes Go.WideShapes Go.ChangeAt Go.RowKit Go.Deep

theorem Try.cellsSpot : Try.prog.cellsOf 48 = 2 := by kernel_rfl
theorem Try.cellsRuin : Try.prog.cellsOf 43 = 2 := by kernel_rfl
theorem Try.cellsInts : Try.prog.cellsOf 34 = 1 := by kernel_rfl
theorem ints_of_trod {H : Type} {enc : TypeId × Value → H} {W : World} {c : Value} {x : DataW H × List MemPlace} {sp : Nat → Bool} {hd : Bool} {n : Nat} (h : DataW.trod enc Try.prog W 0 sp hd n 34 [c] = some x) :
    ∃ (B : Nat) (ao : Option Addr) (cap : Nat) (l : List Int), c = .slice ao l.length cap ∧ Ints W B ao l := by
  rcases open_ints Try.underlying34 Try.underlying3 Try.cellsInt h with ⟨hcs, _⟩ | ⟨a', len, cap, zs, hcs, hb, hl, hm, hlz, _, hc, hw⟩
  · simp at hcs
    subst hcs
    exact ⟨0, none, 0, [], rfl, ⟨fun h => absurd h (by simp), fun j h => absurd h (by simp), fun h => absurd h (by simp), by simp⟩⟩
  · simp at hcs
    subst hcs
    have hlz' : len ≤ zs.length := by rw [hlz]; split <;> omega
    have hlt : (zs.take len).length = len := by simp; omega
    refine ⟨a'.block, some a', cap, zs.take len, by rw [hlt], ⟨fun h => ?_, fun j hj => ?_, fun h => ?_, by rw [hlt]; unfold maxLen at hm; omega⟩⟩
    · rw [hlt] at h
      have h0 := hc 0 (by omega)
      rw [add_nought] at h0
      have ha := cell_spot h0
      refine ⟨a'.off, by rw [← ha], fun j hj => ?_⟩
      rw [hlt] at hj
      have hcj := hc j (by omega)
      rw [ha, Addr.add_mid] at hcj
      rw [hcj]
      simp [List.getD_eq_getElem?_getD, hj]
    · rw [hlt] at hj
      have hm' : zs.getD j 0 ∈ zs := by
        rw [List.getD_eq_getElem?_getD, List.getElem?_eq_getElem (by omega)]
        exact List.getElem_mem _
      have := bounds_i64 (hw _ hm')
      have e : (zs.take len).getD j 0 = zs.getD j 0 := by simp [List.getD_eq_getElem?_getD, hj]
      rw [e]
      omega
    · rw [hlt] at h
      have h0 := hc 0 (by omega)
      rw [add_nought] at h0
      exact World.block_lt_of_cell? W _ h0
theorem open_ruin {H : Type} {enc : TypeId × Value → H} {W : World} {base : Nat} {v : Value} {d : DataW H} {ps : List MemPlace} (hok : Value.okWide Try.prog W .any base 43 v) (h : DataW.Trod enc Try.prog W 0 (fun _ => true) true 43 v d ps) :
    ∃ (act : Int) (B : Nat) (ao : Option Addr) (cap : Nat) (l : List Int), v = .agg #[.int .i64 act, .slice ao l.length cap] ∧ (-9223372036854775808 ≤ act ∧ act < 9223372036854775808) ∧ Ints W B ao l := by
  obtain ⟨cs, rfl, hs⟩ := okWide_struct Try.underlying43 hok
  obtain ⟨fuel, hf⟩ := h
  rw [Try.cellsRuin] at hs
  obtain ⟨y0, y1, n, _, _, g0, g1⟩ := trod_struct2 Try.underlying43 hf
  obtain ⟨c0, c1, rfl⟩ : ∃ c0 c1, cs = #[c0, c1] := by
    obtain ⟨l⟩ := cs
    match l, hs with
    | [a, b], _ => exact ⟨a, b, rfl⟩
  simp [Value.cells, Try.cellsInt, Try.cellsInts] at g0 g1
  obtain ⟨z, e1, _, wz⟩ := DataW.trod_int Try.underlying3 g0
  simp at e1
  subst e1
  obtain ⟨B, ao, cap, l, rfl, hI⟩ := ints_of_trod g1
  have b1 := bounds_i64 wz
  exact ⟨z, B, ao, cap, l, rfl, by omega, hI⟩
theorem open_spots {H : Type} {enc : TypeId × Value → H} {W : World} {base : Nat} {v : Value} {d : DataW H} {ps : List MemPlace} (hok : Value.okWide Try.prog W .any base 41 v) (h : DataW.Trod enc Try.prog W 0 (fun _ => true) true 41 v d ps) :
    ∃ (B : Nat) (ao : Option Addr) (n cap : Nat) (A F : Nat → Int), v = .slice ao n cap ∧ Spots W B ao n A F := by
  obtain ⟨a, len, cap, rfl⟩ := okWide_slice Try.underlying41 hok
  obtain ⟨fuel, hf⟩ := h
  rcases open_slice_pairs Try.underlying41 Try.underlying48 Try.cellsSpot rfl rfl Try.cellsInt Try.cellsInt (by simpa [Value.cells] using hf) with ⟨hcs, _⟩ | ⟨a', len', cap', mm, n, V0, V1, D0, D1, P0, P1, hcs, hb, hl, hm, hmm, _, hx⟩
  · simp at hcs
    obtain ⟨rfl, rfl, rfl⟩ := hcs
    exact ⟨0, none, 0, 0, fun _ => 0, fun _ => 0, rfl, ⟨fun h => by omega, fun j h => by omega, fun h => by omega, by omega⟩⟩
  · simp at hcs
    obtain ⟨rfl, rfl, rfl⟩ := hcs
    have hlm : len ≤ mm := by rw [hmm]; split <;> omega
    have each : ∀ i, i < len → ∃ q : Int × Int, W.cell? (a'.add (i * 2)) = some (.int .i64 q.1) ∧ W.cell? (a'.add (i * 2 + 1)) = some (.int .i64 q.2) ∧ -9223372036854775808 ≤ q.1 ∧ q.1 < 9223372036854775808 := by
      intro i hi
      obtain ⟨h0, h1, t0, t1⟩ := hx i (by omega)
      obtain ⟨z0, e0, _, w0⟩ := DataW.trod_int Try.underlying3 t0
      obtain ⟨z1, e1, _, _⟩ := DataW.trod_int Try.underlying3 t1
      simp at e0 e1
      rw [e0] at h0
      rw [e1] at h1
      have b1 := bounds_i64 w0
      exact ⟨(z0, z1), h0, h1, by show -9223372036854775808 ≤ z0; omega, by show z0 < 9223372036854775808; omega⟩
    obtain ⟨Q, hQ⟩ := choose_lt (α := Int × Int) each
    refine ⟨a'.block, some a', len, cap, fun i => (Q i).1, fun i => (Q i).2, rfl, ⟨fun h => ?_, fun j hj => (hQ j hj).2.2, fun h => ?_, by unfold maxLen at hm; omega⟩⟩
    · have h0 := (hQ 0 h).1
      rw [Nat.zero_mul, add_nought] at h0
      have ha := cell_spot h0
      refine ⟨a'.off, by rw [← ha], fun j hj => ?_⟩
      have h1 := hQ j hj
      rw [ha, Addr.add_mid, Addr.add_mid] at h1
      exact ⟨h1.1, by have := h1.2.1; rwa [← Nat.add_assoc] at this⟩
    · have h0 := (hQ 0 h).1
      rw [Nat.zero_mul, add_nought] at h0
      exact World.block_lt_of_cell? W _ h0
end Go.Proofs.Ytedanlbbpfaleaa
