/- Lists of bools and of numbers that came in, opened. -/
import Derived.Test.YthjjkhacniebiaaGreatKNOpen
import Derived.Test.YthjjkhacniebiaaGreatKJLst
import Derived.Deep.Grids
namespace Go.Proofs.YthjjkhacniebiaaGreat
open Go.ChangeShapes Go.WideShapes Go.ChangeAt Go.RowKit Go.Deep

theorem Tryz.cellsBool : Tryz.prog.cellsOf 4 = 1 := by kernel_rfl
theorem add_nought (a : Addr) : a.add 0 = a := by
  unfold Addr.add
  simp
set_option maxRecDepth 100000 in
theorem open_bls {H : Type} {enc : TypeId × Value → H} {W : World} {base : Nat} {v : Value} {d : DataW H} {ps : List MemPlace} (hok : Value.okWide Tryz.prog W .any base 48 v) (h : DataW.Trod enc Tryz.prog W 0 (fun _ => true) true 48 v d ps) :
    ∃ (B : Nat) (ao : Option Addr) (cap : Nat) (l : List Bool), v = .slice ao l.length cap ∧ l.length ≤ maxLen ∧ Bls W B ao l := by
  obtain ⟨a, len, cap, rfl⟩ := okWide_slice Tryz.underlying48 hok
  obtain ⟨fuel, hf⟩ := h
  rcases open_bools Tryz.underlying48 Tryz.underlying4 Tryz.cellsBool (by simpa [Value.cells] using hf) with ⟨hcs, _⟩ | ⟨a', len', cap', Bf, hcs, hb, hl, hm, _, hc⟩
  · simp at hcs
    obtain ⟨rfl, rfl, rfl⟩ := hcs
    exact ⟨0, none, 0, [], rfl, by simp, ⟨fun h => absurd h (by simp), fun h => absurd h (by simp)⟩⟩
  · simp at hcs
    obtain ⟨rfl, rfl, rfl⟩ := hcs
    refine ⟨a'.block, some a', cap, (List.range len).map Bf, by simp, by simp; unfold maxLen at hm ⊢; omega, ⟨fun h => ?_, fun h => ?_⟩⟩
    · have hlen : 0 < len := by simpa using h
      have h0 := hc 0 (by omega)
      rw [add_nought] at h0
      have ha := spotN h0
      refine ⟨a'.off, by rw [← ha], fun j hj => ?_⟩
      have hj' : j < len := by simpa using hj
      have hcj := hc j (by omega)
      rw [ha, Addr.add_mid] at hcj
      rw [hcj]
      simp
    · have hlen : 0 < len := by simpa using h
      have h0 := hc 0 (by omega)
      rw [add_nought] at h0
      exact World.block_lt_of_cell? W _ h0
set_option maxRecDepth 100000 in
theorem open_its {H : Type} {enc : TypeId × Value → H} {W : World} {base : Nat} {v : Value} {d : DataW H} {ps : List MemPlace} (hok : Value.okWide Tryz.prog W .any base 25 v) (h : DataW.Trod enc Tryz.prog W 0 (fun _ => true) true 25 v d ps) :
    ∃ (B : Nat) (ao : Option Addr) (cap : Nat) (l : List Int), v = .slice ao l.length cap ∧ l.length ≤ maxLen ∧ Its W B ao l := by
  obtain ⟨a, len, cap, rfl⟩ := okWide_slice Tryz.underlying25 hok
  obtain ⟨fuel, hf⟩ := h
  rcases open_ints Tryz.underlying25 Tryz.underlying3 Tryz.cellsInt (by simpa [Value.cells] using hf) with ⟨hcs, _⟩ | ⟨a', len', cap', zs, hcs, hb, hl, hm, hlz, _, hc, hw⟩
  · simp at hcs
    obtain ⟨rfl, rfl, rfl⟩ := hcs
    exact ⟨0, none, 0, [], rfl, by simp, ⟨fun h => absurd h (by simp), fun h => absurd h (by simp)⟩⟩
  · simp at hcs
    obtain ⟨rfl, rfl, rfl⟩ := hcs
    have hlz' : len ≤ zs.length := by rw [hlz]; split <;> omega
    have hlt : (zs.take len).length = len := by simp; omega
    refine ⟨a'.block, some a', cap, zs.take len, by rw [hlt], by rw [hlt]; unfold maxLen at hm ⊢; omega, ⟨fun h => ?_, fun h => ?_⟩⟩
    · rw [hlt] at h
      have h0 := hc 0 (by omega)
      rw [add_nought] at h0
      have ha := spotN h0
      refine ⟨a'.off, by rw [← ha], fun j hj => ?_⟩
      rw [hlt] at hj
      have hcj := hc j (by omega)
      rw [ha, Addr.add_mid] at hcj
      rw [hcj]
      simp [List.getD_eq_getElem?_getD, List.getElem?_eq_getElem (show j < zs.length by omega)]
    · rw [hlt] at h
      have h0 := hc 0 (by omega)
      rw [add_nought] at h0
      exact World.block_lt_of_cell? W _ h0
end Go.Proofs.YthjjkhacniebiaaGreat
