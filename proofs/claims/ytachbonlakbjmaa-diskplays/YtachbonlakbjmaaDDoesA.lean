/- An act that arms. -/
import Derived.Test.YtachbonlakbjmaaDDoesR
import Derived.Deep.DeepCutAuto
import Derived.Deep.RegionWith
namespace Go.Proofs.Ytachbonlakbjmaa
open Go.RowKit

/-- Where the program's disk has moved, and the document's has not yet. -/
structure Half (w W : World) (d g m x a b c ka kb kc : Nat) (D D' : Dk) : Prop where
  one : Dsk W d g m D'
  two : Xd W x a b c ka kb kc D
  off : ∀ k, own d g m k → ¬ xown x a b c k
  on : Only (bown d g m x a b c) w W
theorem Both.half {w W W' : World} {d g m x a b c ka kb kc : Nat} {D D' : Dk} (h : Both w d g m x a b c ka kb kc D) (h1 : Only (fun _ => False) w W) (h2 : Dsk W' d g m D') (h3 : Only (own d g m) W W') : Half w W' d g m x a b c ka kb kc D D' :=
  ⟨h2, (h.same h1).xkept h3, h.off, (h1.mono (fun _ _ h => h.elim)).trans (h3.mono (fun _ _ h => Or.inl h)) (fun _ _ h => h)⟩
theorem Half.both {w W W' : World} {d g m x a b c ka kb kc : Nat} {D D' : Dk} (h : Half w W d g m x a b c ka kb kc D D') (h2 : Xd W' x a b c ka kb kc D') (h3 : Only (xown x a b c) W W') : Both W' d g m x a b c ka kb kc D' ∧ Only (bown d g m x a b c) w W' :=
  ⟨⟨Both.dkept h.one h.off h3, h2, h.off⟩, h.on.trans (h3.mono (fun _ _ h => Or.inr h)) (fun _ _ h => h)⟩
theorem b_arm {w W : World} {d g m x a b c ka kb kc : Nat} {D : Dk} (h : Both w d g m x a b c ka kb kc D) (n : Int) (hn : n < 9223372036854775808) (ho : Only (fun _ => False) w W) :
    Calls Try.prog 21 #[.pointer (some ⟨d, 0, none⟩), .int .i64 n] W fun e w' => e = .returned (.int .i64 (D.arm n).2) ∧ Hid (Half w w' d g m x a b c ka kb kc D (D.arm n).1) ∧ Hid (Only (own d g m) W w') :=
  (arm_any W d g m D (h.same ho).one n hn).mono (by rintro e w' ⟨rfl, h2, h3⟩; exact ⟨rfl, hide (h.half ho h2 h3), hide h3⟩)
theorem b_xarm {w W : World} {d g m x a b c ka kb kc : Nat} {D : Dk} (n : Int) (hn : n < 9223372036854775808) (h : Hid (Half w W d g m x a b c ka kb kc D (D.arm n).1)) :
    Calls Try.prog 22 #[.pointer (some ⟨x, 0, none⟩), .int .i64 n] W fun e w' => e = .returned (.int .i64 (D.arm n).2) ∧ Hid (Both w' d g m x a b c ka kb kc (D.arm n).1 ∧ Only (bown d g m x a b c) w w') :=
  (xarm_any W x a b c ka kb kc D h.out.two n hn).mono (by rintro e w' ⟨rfl, h2, h3⟩; exact ⟨rfl, hide (h.out.both h2 h3)⟩)
theorem Dsk.fresh {w : World} {d g m : Nat} {D : Dk} (h : Dsk w d g m D) : ¬ own d g m w.heap.size := by
  have h1 := h.lt
  have h2 := h.old.lt
  have h3 := h.map.lt
  rintro (e | e | e)
  all_goals omega
set_option maxRecDepth 100000 in
set_option maxHeartbeats 800000 in
theorem does_arm (w : World) (d g m x a b c ka kb kc : Nat) (D : Dk) (h : Both w d g m x a b c ka kb kc D) (wh at_ many fill : Int) (odd : Bool) (how : Value) (hw : (wh % 6 == 3) = true) (h0 : 0 ≤ wh) (h1 : wh < 256) (ha : at_ < 9223372036854775808) :
    Calls Try.prog 8 #[.pointer (some ⟨d, 0, none⟩), .pointer (some ⟨x, 0, none⟩), .agg #[.int .u8 wh, .int .i64 at_, .int .i64 many, .int .i64 fill, .bool odd, how]] w fun e w' => e = .returned (.bool true) ∧ Both w' d g m x a b c ka kb kc (D.arm at_).1 ∧ Only (bown d g m x a b c) w w' := by
  have hw0 : (wh % 6 == 0) = false := by simp at hw ⊢; omega
  have hw1 : (wh % 6 == 1) = false := by simp at hw ⊢; omega
  have hw2 : (wh % 6 == 2) = false := by simp at hw ⊢; omega
  have H := hide h
  obtain ⟨W0, hW0⟩ : ∃ W0, W0 = w.alloc (.cells #[.int .u8 wh, .int .i64 at_, .int .i64 many, .int .i64 fill, .bool odd, how] 36) := ⟨_, rfl⟩
  have HO0 : Hid (Only (fun _ => False) w W0) := by rw [hW0]; exact hide (Only.alloc _ _ _)
  have HB := hide (H.out.same HO0.out)
  have q1 : W0.cell? ⟨w.heap.size, 1, none⟩ = some (.int .i64 at_) := by rw [hW0]; simp
  have hnew : ¬ own d g m w.heap.size := h.one.fresh
  have Q1 := hide q1
  have HN := hide hnew
  have HW0 := hide hW0
  clear hW0 hnew h
  have B1 := fun W => b_arm (W := W) HB.out at_ ha
  have B2 := fun W => b_xarm (w := W0) (W := W) (d := d) (g := g) (m := m) (x := x) (a := a) (b := b) (c := c) (ka := ka) (kb := kb) (kc := kc) (D := D) at_ ha
  obtain ⟨re, hre⟩ : ∃ re, (D.arm at_).2 = re := ⟨_, rfl⟩
  obtain ⟨D', hD'⟩ : ∃ D', (D.arm at_).1 = D' := ⟨_, rfl⟩
  simp only [hre, hD'] at B1 B2
  rw [hD']
  clear hre hD'
  have HB1 := hide B1
  have HB2 := hide B2
  clear B1 B2
  go_enter Try.func8, Try.ntmps8
  go_upto_region 12 with fail
  rw [← HW0.out]
  go_region_with (first
    | (go_at_call 21; refine (HB1.out _ (Only.drew _ _)).mono ?_; rintro e W2 ⟨rfl, HH2, HO2⟩; have k1 := (HO2.out.cell (p := ⟨w.heap.size, 1, none⟩) (World.block_lt_of_cell? _ _ Q1.out) HN.out).trans Q1.out)
    | (go_at_call 22; refine (HB2.out _ HH2).mono ?_; rintro e W3 ⟨rfl, HH3⟩))
  all_goals (try go_wp2_with fail)
  all_goals go_ret
  all_goals exact ⟨rfl, HH3.out.1, (HO0.out.mono (fun _ _ h => h.elim)).trans HH3.out.2 (fun _ _ h => h)⟩
end Go.Proofs.Ytachbonlakbjmaa
