/- Parts. -/
import Derived.Test.YtpnbhddmdfcjdaaGreatK23
import Derived.Test.YtpnbhddmdfcjdaaGreatK22
import Derived.Test.YtpnbhddmdfcjdaaGreatK15
set_option maxRecDepth 100000
namespace Go.Proofs.YtpnbhddmdfcjdaaGreat
open Go.RowKit
theorem kts_made2 (n : Nat) (hn : n ≤ 8796093021952) : ∃ O : Obj, (∀ W : World, (Instr.makeSlice 25 (.int .i64 0) (.int .i64 (n : Int))).run Tryz.prog W = .ok (.slice (some ⟨W.heap.size, 0, none⟩) 0 n) (W.alloc O)) ∧
    (∀ (W : World) (base : Nat), base ≤ W.heap.size → Kts (W.alloc O) base (.slice (some ⟨W.heap.size, 0, none⟩) 0 n) []) := by
  obtain ⟨i0, hi, hz0, hz1, hz2⟩ := info_parts Tryz.infoIn
  refine ⟨.cells (madeCells (Value.int .i64 0).cells ((n : Int).toNat * i0.size)) 3, fun W => ?_, fun W base hb => ?_⟩
  · have h := run_make (P := Tryz.prog) W 25 3 i0 (.int .i64 0) Tryz.underlying25 hi hz0 .i64 .i64 0 (n : Int) (by omega) (by omega) (by rw [hz2]; omega) (by omega)
    simpa using h
  · obtain ⟨w', hmk, hown, hgr⟩ := run_make_own (P := Tryz.prog) W base 25 3 i0 (.int .i64 0) 1 Tryz.underlying25 hi hz0 hz1 .i64 .i64 n (by rw [hz2]; omega) (by unfold maxLen; omega) hb
    have h := run_make (P := Tryz.prog) W 25 3 i0 (.int .i64 0) Tryz.underlying25 hi hz0 .i64 .i64 0 (n : Int) (by omega) (by omega) (by rw [hz2]; omega) (by omega)
    rw [hmk] at h
    simp at h
    subst h
    exact hown
/-- A number more, where there is room. -/
theorem kts_room (w : World) (base g n C : Nat) (es : List Int) (h : Kts w base (.slice (some ⟨g, 0, none⟩) n C) es) (hn : es.length = n) (hr : n + 1 ≤ C) (k : Int) (B : Nat) (hf : w.cell? ⟨B, 0, none⟩ = some (.int .i64 k)) :
    ∃ w', (Builtin.append_ #[25, 25] 25 #[.slice (some ⟨g, 0, none⟩) n C, .slice (some ⟨B, 0, none⟩) 1 1]).run Tryz.prog w = .ok (.slice (some ⟨g, 0, none⟩) (n + 1) C) w' ∧ Kts w' base (.slice (some ⟨g, 0, none⟩) (n + 1) C) (es ++ [k]) ∧ Only (fun j => (Value.slice (some ⟨g, 0, none⟩) n C).ownBlock = some j) w w' := by
  obtain ⟨i0, hi, hz0, hz1, hz2⟩ := info_parts Tryz.infoIn
  subst hn
  obtain ⟨w', hr', h2, h3⟩ := run_append_own_spare (P := Tryz.prog) w base 25 25 3 i0 1 Tryz.underlying25 hi hz1 g es.length C (ncs es) h ⟨B, 0, none⟩ 1 1 (ncs [k]) rfl
    (fun j u hu => by
      have hj : j < 1 := by
        have := (List.getElem?_eq_some_iff.1 hu).1
        rwa [ncs_len] at this
      obtain rfl : j = 0 := by omega
      have e : u = .int .i64 k := by
        simp [ncs] at hu
        exact hu.symm
      rw [e, add_at]
      exact hf) (fun u hu => by
      simp [ncs] at hu
      subst hu
      rfl) hr
  refine ⟨w', hr', ?_, Only.grown h3 (fun j hj => hj)⟩
  unfold Kts
  rw [show ncs (es ++ [k]) = ncs es ++ ncs [k] by simp [ncs], List.length_append]
  exact h2
end Go.Proofs.YtpnbhddmdfcjdaaGreat
