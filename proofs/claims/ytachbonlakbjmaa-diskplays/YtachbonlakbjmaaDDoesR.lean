/- An act that reads. -/
import Derived.Test.YtachbonlakbjmaaDDoes
namespace Go.Proofs.Ytachbonlakbjmaa
open Go.RowKit

set_option maxRecDepth 100000 in
set_option maxHeartbeats 800000 in
theorem does_read (w : World) (d g m x a b c ka kb kc : Nat) (D : Dk) (h : Both w d g m x a b c ka kb kc D) (wh at_ many fill : Int) (odd : Bool) (how : Value) (hw : (wh % 6 == 2) = true) (h0 : 0 ≤ wh) (h1 : wh < 256) (ha : -9223372036854775808 ≤ at_ ∧ at_ < 9223372036854775808) :
    Calls Try.prog 8 #[.pointer (some ⟨d, 0, none⟩), .pointer (some ⟨x, 0, none⟩), .agg #[.int .u8 wh, .int .i64 at_, .int .i64 many, .int .i64 fill, .bool odd, how]] w fun e w' => e = .returned (.bool true) ∧ Both w' d g m x a b c ka kb kc D ∧ Only (bown d g m x a b c) w w' := by
  have hw0 : (wh % 6 == 0) = false := by simp at hw ⊢; omega
  have hw1 : (wh % 6 == 1) = false := by simp at hw ⊢; omega
  have H := hide h
  clear h
  obtain ⟨W0, hW0⟩ : ∃ W0, W0 = w.alloc (.cells #[.int .u8 wh, .int .i64 at_, .int .i64 many, .int .i64 fill, .bool odd, how] 36) := ⟨_, rfl⟩
  have HO0 : Hid (Only (fun _ => False) w W0) := by rw [hW0]; exact hide (Only.alloc _ _ _)
  have HB := hide (H.out.same HO0.out)
  have q1 : W0.cell? ⟨w.heap.size, 1, none⟩ = some (.int .i64 at_) := by rw [hW0]; simp
  have q2 : W0.cell? ⟨w.heap.size, 2, none⟩ = some (.int .i64 many) := by rw [hW0]; simp
  have Q1 := hide q1
  have Q2 := hide q2
  have HW0 := hide hW0
  clear hW0 q1 q2
  obtain ⟨rs, hrs⟩ : ∃ rs, (⟨(D.read at_ many).1.toArray⟩ : ByteArray) = rs := ⟨_, rfl⟩
  obtain ⟨re, hre⟩ : ∃ re, (D.read at_ many).2 = re := ⟨_, rfl⟩
  have R1 := read_any W0 d g m D HB.out.one at_ many ha
  have R2 := fun W HX => xread_any W x a b c ka kb kc D HX at_ many ha
  rw [hrs, hre] at R1
  simp only [hrs, hre] at R2
  clear hrs hre
  go_enter Try.func8, Try.ntmps8
  go_wp2_with fail
  rw [← HW0.out]
  refine R1.mono ?_
  rintro e w1 ⟨rfl, hO1⟩
  have HO1 := hide hO1
  have k1 := (hO1.cell (p := ⟨w.heap.size, 1, none⟩) (World.block_lt_of_cell? _ _ Q1.out) (fun h => h)).trans Q1.out
  have k2 := (hO1.cell (p := ⟨w.heap.size, 2, none⟩) (World.block_lt_of_cell? _ _ Q2.out) (fun h => h)).trans Q2.out
  clear hO1 R1
  go_wp2_with fail
  refine (R2 w1 (HB.out.two.same HO1.out)).mono ?_
  rintro e w2 ⟨rfl, hO2⟩
  have HO2 := hide (HO0.out.trans (HO1.out.trans hO2 (fun _ _ h => h)) (fun _ _ h => h))
  clear hO2 R2
  go_wp2_with fail
  go_ret
  exact ⟨by simp, H.out.same HO2.out, HO2.out.mono (fun _ _ h => h.elim)⟩
end Go.Proofs.Ytachbonlakbjmaa
