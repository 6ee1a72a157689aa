/- Lists that came in, opened. -/
import Derived.Test.YtachbonlakbjmaaDDies
import Derived.ProofKit
import Derived.OpenShut
import Derived.Deep.Grids
namespace Go.Proofs.Ytachbonlakbjmaa
open Go.ChangeShapes Go.WideShapes Go.ChangeAt Go.RowKit Go.Deep

theorem Try.laidOut : laidOutB Try.prog = true := by kernel_rfl
theorem Try.cellsBool : Try.prog.cellsOf 4 = 1 := by kernel_rfl
theorem Try.cellsInt : Try.prog.cellsOf 3 = 1 := by kernel_rfl
theorem cell_spot {w : World} {a : Addr} {v : Value} (h : w.cell? a = some v) : a = ⟨a.block, a.off, none⟩ := by
  obtain ⟨b, o, s⟩ := a
  cases s with
  | none => rfl
  | some q =>
    unfold World.cell? at h
    split at h
    · simp at h
    · simp at h
theorem add_nought (a : Addr) : a.add 0 = a := by
  unfold Addr.add
  simp
theorem open_boolsArg {H : Type} {enc : TypeId × Value → H} {W : World} {base : Nat} {v : Value} {d : DataW H} {ps : List MemPlace} (hok : Value.okWide Try.prog W .any base 50 v) (h : DataW.Trod enc Try.prog W 0 (fun _ => true) true 50 v d ps) :
    ∃ (B : Nat) (ao : Option Addr) (cap : Nat) (l : List Bool), v = .slice ao l.length cap ∧ Bools W B ao l := by
  obtain ⟨a, len, cap, rfl⟩ := okWide_slice Try.underlying50 hok
  obtain ⟨fuel, hf⟩ := h
  rcases open_bools Try.underlying50 Try.underlying4 Try.cellsBool (by simpa [Value.cells] using hf) with ⟨hcs, _⟩ | ⟨a', len', cap', Bf, hcs, hb, hl, hm, _, hc⟩
  · simp at hcs
    obtain ⟨rfl, rfl, rfl⟩ := hcs
    exact ⟨0, none, 0, [], rfl, ⟨fun h => absurd h (by simp), fun h => absurd h (by simp), by simp⟩⟩
  · simp at hcs
    obtain ⟨rfl, rfl, rfl⟩ := hcs
    refine ⟨a'.block, some a', cap, (List.range len).map Bf, by simp, ⟨fun h => ?_, fun h => ?_, by simp; unfold maxLen at hm; omega⟩⟩
    · have hlen : 0 < len := by simpa using h
      have h0 := hc 0 (by omega)
      rw [add_nought] at h0
      have ha := cell_spot h0
      refine ⟨a'.off, by rw [← ha], fun j hj => ?_⟩
      have hj' : j < len := by simpa using hj
      have hcj := hc j (by omega)
      rw [ha, Addr.add_mid] at hcj
      rw [hcj]
      simp [List.getD_eq_getElem?_getD, hj']
    · have hlen : 0 < len := by simpa using h
      have h0 := hc 0 (by omega)
      rw [add_nought] at h0
      exact World.block_lt_of_cell? W _ h0
theorem open_intsArg {H : Type} {enc : TypeId × Value → H} {W : World} {base : Nat} {v : Value} {d : DataW H} {ps : List MemPlace} {sp : Nat → Bool} {hd : Bool} (hok : Value.okWide Try.prog W .any base 34 v) (h : DataW.Trod enc Try.prog W 0 sp hd 34 v d ps) :
    ∃ (B : Nat) (ao : Option Addr) (cap : Nat) (l : List Int), v = .slice ao l.length cap ∧ Ints W B ao l := by
  obtain ⟨a, len, cap, rfl⟩ := okWide_slice Try.underlying34 hok
  obtain ⟨fuel, hf⟩ := h
  rcases open_ints Try.underlying34 Try.underlying3 Try.cellsInt (by simpa [Value.cells] using hf) with ⟨hcs, _⟩ | ⟨a', len', cap', zs, hcs, hb, hl, hm, hlz, _, hc, hw⟩
  · simp at hcs
    obtain ⟨rfl, rfl, rfl⟩ := hcs
    exact ⟨0, none, 0, [], rfl, ⟨fun h => absurd h (by simp), fun j h => absurd h (by simp), fun h => absurd h (by simp), by simp⟩⟩
  · simp at hcs
    obtain ⟨rfl, rfl, rfl⟩ := hcs
    have hlz' : len ≤ zs.length := by rw [hlz]; split <;> omega
    have hlt : (zs.take len).length = len := by simp; omega
    refine ⟨a'.block, some a', cap, zs.take len, by rw [hlt], ⟨fun h => ?_, fun j hj => ?_, fun h => ?_, by rw [hlt]; unfold maxLen at hm; omega⟩⟩
    · rw [hlt] at h
      have h0 := hc 0 (by omega)
      rw [add_nought] at h0
      have ha := cell_spot h0
      refine ⟨a'.off, by rw [← ha], fun j hj => ?_⟩
      rw [hlt] at hj
      have hcj := hc j (by omega)
      rw [ha, Addr.add_mid] at hcj
      rw [hcj]
      simp [List.getD_eq_getElem?_getD, hj]
    · rw [hlt] at hj
      have hm' : zs.getD j 0 ∈ zs := by
        rw [List.getD_eq_getElem?_getD, List.getElem?_eq_getElem (by omega)]
        exact List.getElem_mem _
      have := bounds_i64 (hw _ hm')
      have e : (zs.take len).getD j 0 = zs.getD j 0 := by simp [List.getD_eq_getElem?_getD, hj]
      rw [e]
      omega
    · rw [hlt] at h
      have h0 := hc 0 (by omega)
      rw [add_nought] at h0
      exact World.block_lt_of_cell? W _ h0
end Go.Proofs.Ytachbonlakbjmaa
