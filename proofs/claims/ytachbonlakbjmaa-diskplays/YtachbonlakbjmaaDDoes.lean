/- Both disks over one plain disk; the acts that no order is drawn for. -/
import Derived.Test.YtachbonlakbjmaaDAlike
namespace Go.Proofs.Ytachbonlakbjmaa
open Go.RowKit

def bown (d g m x a b c : Nat) (k : Nat) : Prop := own d g m k ∨ xown x a b c k
/-- The program's disk and the document's, over one plain disk, apart from each other. -/
structure Both (w : World) (d g m x a b c ka kb kc : Nat) (D : Dk) : Prop where
  one : Dsk w d g m D
  two : Xd w x a b c ka kb kc D
  off : ∀ k, own d g m k → ¬ xown x a b c k
theorem Both.same {w w' : World} {d g m x a b c ka kb kc : Nat} {D : Dk} (h : Both w d g m x a b c ka kb kc D) (ho : Only (fun _ => False) w w') : Both w' d g m x a b c ka kb kc D := ⟨h.one.same ho, h.two.same ho, h.off⟩
theorem Both.xkept {w w' : World} {d g m x a b c ka kb kc : Nat} {D : Dk} (h : Both w d g m x a b c ka kb kc D) (ho : Only (own d g m) w w') : Xd w' x a b c ka kb kc D :=
  h.two.kept ho (fun e => h.off _ e (.inl rfl)) (fun e => h.off _ e (.inr (.inl rfl))) (fun e => h.off _ e (.inr (.inr (.inl rfl)))) (fun e => h.off _ e (.inr (.inr (.inr rfl))))
theorem Both.dkept {w w' : World} {d g m x a b c : Nat} {D : Dk} (h : Dsk w d g m D) (off : ∀ k, own d g m k → ¬ xown x a b c k) (ho : Only (xown x a b c) w w') : Dsk w' d g m D :=
  h.kept ho (off _ (.inl rfl)) (off _ (.inr (.inl rfl))) (off _ (.inr (.inr rfl)))
set_option maxRecDepth 100000 in
set_option maxHeartbeats 800000 in
theorem does_sync (w : World) (d g m x a b c ka kb kc : Nat) (D : Dk) (h : Both w d g m x a b c ka kb kc D) (wh at_ many fill : Int) (odd : Bool) (how : Value) (hw : (wh % 6 == 1) = true) (h0 : 0 ≤ wh) (h1 : wh < 256) :
    Calls Try.prog 8 #[.pointer (some ⟨d, 0, none⟩), .pointer (some ⟨x, 0, none⟩), .agg #[.int .u8 wh, .int .i64 at_, .int .i64 many, .int .i64 fill, .bool odd, how]] w fun e w' => e = .returned (.bool true) ∧ Both w' d g m x a b c ka kb kc D.sync.1 ∧ Only (bown d g m x a b c) w w' := by
  have hw0 : (wh % 6 == 0) = false := by simp at hw ⊢; omega
  have H := hide h
  clear h
  obtain ⟨W0, hW0⟩ : ∃ W0, W0 = w.alloc (.cells #[.int .u8 wh, .int .i64 at_, .int .i64 many, .int .i64 fill, .bool odd, how] 36) := ⟨_, rfl⟩
  have HO0 : Hid (Only (fun _ => False) w W0) := by rw [hW0]; exact hide (Only.alloc _ _ _)
  have HB := hide (H.out.same HO0.out)
  have q0 : W0.cell? ⟨w.heap.size, 0, none⟩ = some (.int .u8 wh) := by rw [hW0]; simp
  have HW0 := hide hW0
  clear hW0
  go_enter Try.func8, Try.ntmps8
  go_wp2_with fail
  rw [← HW0.out]
  refine (sync_any W0 d g m D HB.out.one).mono ?_
  rintro e w1 ⟨rfl, hd1, hO1⟩
  have HD1 := hide hd1
  have HX1 := hide (HB.out.xkept hO1)
  have HO1 := hide hO1
  clear hd1 hO1
  go_wp2_with fail
  refine (xsync_any w1 x a b c ka kb kc D HX1.out).mono ?_
  rintro e w2 ⟨rfl, hx2, hO2⟩
  have HX2 := hide hx2
  have HD2 := hide (Both.dkept HD1.out H.out.off hO2)
  have HO2 := hide hO2
  clear hx2 hO2
  go_wp2_with fail
  go_ret
  refine ⟨by simp, ⟨HD2.out, HX2.out, H.out.off⟩, ?_⟩
  exact ((HO0.out.mono (fun _ _ h => h.elim)).trans (HO1.out.mono (fun _ _ h => Or.inl h)) (fun _ _ h => h)).trans (HO2.out.mono (fun _ _ h => Or.inr h)) (fun _ _ h => h)
end Go.Proofs.Ytachbonlakbjmaa
