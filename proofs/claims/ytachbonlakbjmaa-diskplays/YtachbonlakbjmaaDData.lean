/- What an act writes: some text of at most twenty sectors. -/
import Derived.Test.YtachbonlakbjmaaDKept
import Derived.Test.YtachbonlakbjmaaDDies
namespace Go.Proofs.Ytachbonlakbjmaa
open Go.RowKit

set_option maxRecDepth 100000 in
set_option maxHeartbeats 800000 in
theorem data_any (w : World) (wh at_ many fill : Int) (odd : Bool) (how : Value) (hh : ∃ ao ln cp, how = .slice ao ln cp) :
    Calls Try.prog 17 #[.agg #[.int .u8 wh, .int .i64 at_, .int .i64 many, .int .i64 fill, .bool odd, how]] w fun e w' => ∃ s : ByteArray, e = .returned (.string s) ∧ s.size ≤ 1280 ∧ Only (fun _ => False) w w' := by
  obtain ⟨ao, ln, cp, rfl⟩ := hh
  obtain ⟨W0, hW0⟩ : ∃ W0, W0 = w.alloc (.cells #[.int .u8 wh, .int .i64 at_, .int .i64 many, .int .i64 fill, .bool odd, .slice ao ln cp] 36) := ⟨_, rfl⟩
  have q2 : W0.cell? ⟨w.heap.size, 2, none⟩ = some (.int .i64 many) := by rw [hW0]; simp
  have q3 : W0.cell? ⟨w.heap.size, 3, none⟩ = some (.int .i64 fill) := by rw [hW0]; simp
  have q4 : W0.cell? ⟨w.heap.size, 4, none⟩ = some (.bool odd) := by rw [hW0]; simp
  have Q2 := hide q2
  have Q3 := hide q3
  have Q4 := hide q4
  have HO0 : Hid (Only (fun _ => False) w W0) := by rw [hW0]; exact hide (Only.alloc _ _ _)
  have HW0 := hide hW0
  clear q2 q3 q4 hW0
  go_enter Try.func17, Try.ntmps17
  go_wp2_with fail
  rw [← HW0.out]
  go_loopw [3, 4] (fun v y wr => ∃ (s : ByteArray) (i : Nat), i ≤ 20 ∧ s.size = 64 * i ∧ v = .string s ∧ y = .int .i64 (i : Int) ∧ Hid (Only (fun _ => False) W0 wr)) (fun _ y _ => 20 - (intOf y).toNat)
  case atStart => exact ⟨⟨#[]⟩, 0, by omega, rfl, rfl, rfl, hide (Only.refl _ _)⟩
  case round =>
    obtain ⟨s, i, hi, hs, rfl, rfl, HO⟩ := hrel
    have k2 := (HO.out.cell (p := ⟨w.heap.size, 2, none⟩) (World.block_lt_of_cell? _ _ Q2.out) (fun h => h)).trans Q2.out
    have k3 := (HO.out.cell (p := ⟨w.heap.size, 3, none⟩) (World.block_lt_of_cell? _ _ Q3.out) (fun h => h)).trans Q3.out
    have k4 := (HO.out.cell (p := ⟨w.heap.size, 4, none⟩) (World.block_lt_of_cell? _ _ Q4.out) (fun h => h)).trans Q4.out
    by_cases hc : (i : Int) < many ∧ (i : Int) < 20
    · obtain ⟨hc1, hc2⟩ := hc
      have hf := fun w => fill_any w (wrap64 (fill + (i : Int)))
      have hz := fill_size (wrap64 (fill + (i : Int)))
      obtain ⟨sf, hsf⟩ : ∃ sf : ByteArray, (⟨(fillB (wrap64 (fill + (i : Int)))).toArray⟩ : ByteArray) = sf := ⟨_, rfl⟩
      rw [hsf] at hz
      simp only [hsf] at hf
      clear hsf
      go_wp2_with fail
      refine (hf _).mono ?_
      rintro e w1 ⟨rfl, hO1⟩
      have HO1 := hide (HO.out.trans hO1 (fun _ _ h => h))
      clear hO1 hf
      go_wp2_with fail
      go_roundw
      case rel => exact ⟨s ++ sf, i + 1, by omega, by simp; omega, rfl, by go_num, HO1⟩
      case measure => simp [intOf]; omega
    · rcases s with ⟨⟨l⟩⟩
      have hl : l.length = 64 * i := hs
      have hE := HO0.out.trans HO.out (fun _ _ h => h)
      have HE := hide hE
      clear hE
      have fin : l.length ≤ 1280 := by omega
      by_cases hc1 : (i : Int) < many
      · have hc2 : ¬ (i : Int) < 20 := fun h => hc ⟨hc1, h⟩
        cases odd
        · go_wp2_with fail
          go_ret
          exact ⟨_, rfl, fin, HE.out⟩
        · cases l with
          | nil =>
            go_wp2_with fail
            go_ret
            exact ⟨_, rfl, fin, HE.out⟩
          | cons b l =>
            have h1 : (1 : Int) ≤ 64 * (i : Int) := by simp at hl; omega
            go_wp2_with fail
            go_ret
            refine ⟨_, rfl, ?_, HE.out⟩
            rw [ByteArray.size_extract]
            omega
      · cases odd
        · go_wp2_with fail
          go_ret
          exact ⟨_, rfl, fin, HE.out⟩
        · cases l with
          | nil =>
            go_wp2_with fail
            go_ret
            exact ⟨_, rfl, fin, HE.out⟩
          | cons b l =>
            have h1 : (1 : Int) ≤ 64 * (i : Int) := by simp at hl; omega
            go_wp2_with fail
            go_ret
            refine ⟨_, rfl, ?_, HE.out⟩
            rw [ByteArray.size_extract]
            omega
end Go.Proofs.Ytachbonlakbjmaa
