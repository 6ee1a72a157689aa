/- An act that writes. -/
import Derived.Test.YtachbonlakbjmaaDDoesA
namespace Go.Proofs.Ytachbonlakbjmaa
open Go.RowKit

theorem b_write {w W : World} {d g m x a b c ka kb kc : Nat} {D : Dk} (h : Both w d g m x a b c ka kb kc D) (p : Int) (s : ByteArray) (hp : -9223372036854775808 ≤ p ∧ p < 9223372036854775808) (hs : s.size < 9223372036854775808) (ho : Only (fun _ => False) w W) :
    Calls Try.prog 13 #[.pointer (some ⟨d, 0, none⟩), .int .i64 p, .string s] W fun e w' => e = .returned (.int .i64 (D.write p s.data.toList).2) ∧ Hid (Half w w' d g m x a b c ka kb kc D (D.write p s.data.toList).1) ∧ Hid (Only (own d g m) W w') :=
  (write_any W d g m D (h.same ho).one p s hp hs).mono (by rintro e w' ⟨rfl, h2, h3⟩; exact ⟨rfl, hide (h.half ho h2 h3), hide h3⟩)
theorem b_xwrite {w W : World} {d g m x a b c ka kb kc : Nat} {D : Dk} (p : Int) (s : ByteArray) (hp : -9223372036854775808 ≤ p ∧ p < 9223372036854775808) (hs : s.size < 9223372036854775808) (h : Hid (Half w W d g m x a b c ka kb kc D (D.write p s.data.toList).1)) :
    Calls Try.prog 18 #[.pointer (some ⟨x, 0, none⟩), .int .i64 p, .string s] W fun e w' => e = .returned (.int .i64 (D.write p s.data.toList).2) ∧ Hid (Both w' d g m x a b c ka kb kc (D.write p s.data.toList).1 ∧ Only (bown d g m x a b c) w w') :=
  (xwrite_any W x a b c ka kb kc D h.out.two p s hp hs).mono (by rintro e w' ⟨rfl, h2, h3⟩; exact ⟨rfl, hide (h.out.both h2 h3)⟩)
set_option maxRecDepth 100000 in
set_option maxHeartbeats 1600000 in
theorem does_write (w : World) (d g m x a b c ka kb kc : Nat) (D : Dk) (h : Both w d g m x a b c ka kb kc D) (wh at_ many fill : Int) (odd : Bool) (how : Value) (hh : ∃ ao ln cp, how = .slice ao ln cp) (hw : (wh % 6 == 0) = true) (h0 : 0 ≤ wh) (h1 : wh < 256) (ha : -9223372036854775808 ≤ at_ ∧ at_ < 9223372036854775808) :
    Calls Try.prog 8 #[.pointer (some ⟨d, 0, none⟩), .pointer (some ⟨x, 0, none⟩), .agg #[.int .u8 wh, .int .i64 at_, .int .i64 many, .int .i64 fill, .bool odd, how]] w fun e w' => e = .returned (.bool true) ∧ (∃ l, Both w' d g m x a b c ka kb kc (D.write at_ l).1) ∧ Only (bown d g m x a b c) w w' := by
  have H := hide h
  obtain ⟨W0, hW0⟩ : ∃ W0, W0 = w.alloc (.cells #[.int .u8 wh, .int .i64 at_, .int .i64 many, .int .i64 fill, .bool odd, how] 36) := ⟨_, rfl⟩
  have HO0 : Hid (Only (fun _ => False) w W0) := by rw [hW0]; exact hide (Only.alloc _ _ _)
  have q1 : W0.cell? ⟨w.heap.size, 1, none⟩ = some (.int .i64 at_) := by rw [hW0]; simp
  have Q1 := hide q1
  have HN := hide h.one.fresh
  have HW0 := hide hW0
  have HD := hide (fun W => data_any W wh at_ many fill odd how hh)
  clear hW0 h q1
  go_enter Try.func8, Try.ntmps8
  go_wp2_with fail
  rw [← HW0.out]
  refine (HD.out W0).mono ?_
  rintro e w1 ⟨s, rfl, hs, hO1⟩
  have k0 := (hO1.cell (p := ⟨w.heap.size, 1, none⟩) (World.block_lt_of_cell? _ _ Q1.out) (fun h => h)).trans Q1.out
  have K0 := hide k0
  have HB := hide (H.out.same (HO0.out.trans hO1 (fun _ _ h => h)))
  have HO1 := hide (HO0.out.trans hO1 (fun _ _ h => h))
  clear hO1
  have hs' : s.size < 9223372036854775808 := by omega
  have B1 := fun W => b_write (W := W) HB.out at_ s ha hs'
  have B2 := fun W => b_xwrite (w := w1) (W := W) (d := d) (g := g) (m := m) (x := x) (a := a) (b := b) (c := c) (ka := ka) (kb := kb) (kc := kc) (D := D) at_ s ha hs'
  obtain ⟨re, hre⟩ : ∃ re, (D.write at_ s.data.toList).2 = re := ⟨_, rfl⟩
  obtain ⟨D', hD'⟩ : ∃ D', (D.write at_ s.data.toList).1 = D' := ⟨_, rfl⟩
  simp only [hre, hD'] at B1 B2
  have HD' := hide hD'
  clear hre hD'
  have HB1 := hide B1
  have HB2 := hide B2
  clear B1 B2 hs hs'
  go_upto_region 4 with fail
  go_region_with (first
    | (go_at_call 13; refine (HB1.out _ (Only.drew _ _)).mono ?_; rintro e W2 ⟨rfl, HH2, HO2⟩; have k1 := (HO2.out.cell (p := ⟨w.heap.size, 1, none⟩) (World.block_lt_of_cell? _ _ K0.out) HN.out).trans K0.out)
    | (go_at_call 18; refine (HB2.out _ HH2).mono ?_; rintro e W3 ⟨rfl, HH3⟩))
  all_goals (try go_wp2_with fail)
  all_goals go_ret
  all_goals exact ⟨rfl, ⟨_, by rw [HD'.out]; exact HH3.out.1⟩, (HO1.out.mono (fun _ _ h => h.elim)).trans HH3.out.2 (fun _ _ h => h)⟩
end Go.Proofs.Ytachbonlakbjmaa
