/- Walks of PageSizes and PageSames. -/
import Derived.Test.YtiefdndhfeleiaaDoorPAwake
import Derived.Test.YtiefdndhfeleiaaDoorPOpen
import Derived.Deep.RegionHeld3
namespace Go.Proofs.YtiefdndhfeleiaaDoor
open Go.RowKit

set_option maxRecDepth 100000 in
set_option maxHeartbeats 1600000 in
theorem sizes_law (w : World) (a k v r : Int) (h : ByteArray) (B cp : Nat) (ao : Option Addr) (l : List ByteArray) (hS : Strs w B ao l) (hh : h.size ≤ 140737488355328) :
    Calls Tryd.prog 3 #[.agg #[.int .i64 a, .int .i64 k, .int .i64 v, .int .i64 r, .string h, .slice ao l.length cp]] w fun e w' => e = .returned (.bool true) ∧ Only (fun _ => False) w w' := by
  obtain ⟨z, hz⟩ : ∃ z, wrap64 (20 + h.size + isz l) = z := ⟨_, rfl⟩
  obtain ⟨y, hy⟩ : ∃ y, roomZ l.length z = y := ⟨_, rfl⟩
  have HP := hide (Pag.new w (.int .i64 a) (.int .i64 k) (.int .i64 v) (.int .i64 r) (.string h) (.slice ao l.length cp))
  have HO0 := hide (onlyA w (.cells #[.int .i64 a, .int .i64 k, .int .i64 v, .int .i64 r, .string h, .slice ao l.length cp] 24))
  obtain ⟨W0, hW0⟩ : ∃ W0, w.alloc (.cells #[.int .i64 a, .int .i64 k, .int .i64 v, .int .i64 r, .string h, .slice ao l.length cp] 24) = W0 := ⟨_, rfl⟩
  rw [hW0] at HP HO0
  have HW0 := hide hW0
  clear hW0
  have HS0 := hide (hS.more HO0.out)
  have HA : Hid (∀ W, Hid (Only (fun _ => False) W0 W) → Calls Tryd.prog 9 #[] W fun e w' => e = .returned (.bool true) ∧ Hid (Only (fun _ => False) W0 w')) := fun W hW => (awake_any W).mono fun e w' hx => ⟨hx.1, o2 hW.out hx.2⟩
  have H1 : Hid (∀ W, Hid (Only (fun _ => False) W0 W) → Calls Tryd.prog 10 #[.agg #[.int .i64 a, .int .i64 k, .int .i64 v, .int .i64 r, .string h, .slice ao l.length cp]] W fun e w' => e = .returned (.int .i64 z) ∧ Hid (Only (fun _ => False) W0 w')) := fun W hW => by
    have h1 := psize_any W a k v r h B cp ao l (HS0.out.more hW.out) hh
    rw [hz] at h1
    exact h1.mono fun e w' hx => ⟨hx.1, o2 hW.out hx.2⟩
  have H2 : Hid (∀ W, Hid (Only (fun _ => False) W0 W) → Calls Tryd.prog 11 #[.agg #[.int .i64 a, .int .i64 k, .int .i64 v, .int .i64 r, .string h, .slice ao l.length cp]] W fun e w' => e = .returned (.int .i64 z) ∧ Hid (Only (fun _ => False) W0 w')) := fun W hW => by
    have h1 := ysize_any W a k v r h B cp ao l (HS0.out.more hW.out) hh
    rw [hz] at h1
    exact h1.mono fun e w' hx => ⟨hx.1, o2 hW.out hx.2⟩
  have H3 : Hid (∀ W, Hid (Only (fun _ => False) W0 W) → Calls Tryd.prog 12 #[.agg #[.int .i64 a, .int .i64 k, .int .i64 v, .int .i64 r, .string h, .slice ao l.length cp]] W fun e w' => e = .returned (.int .i64 y) ∧ Hid (Only (fun _ => False) W0 w')) := fun W hW => by
    have h1 := proom_any W a k v r h B cp ao l (HS0.out.more hW.out) hh
    rw [hz, hy] at h1
    exact h1.mono fun e w' hx => ⟨hx.1, o2 hW.out hx.2⟩
  have H4 : Hid (∀ W, Hid (Only (fun _ => False) W0 W) → Calls Tryd.prog 13 #[.agg #[.int .i64 a, .int .i64 k, .int .i64 v, .int .i64 r, .string h, .slice ao l.length cp]] W fun e w' => e = .returned (.int .i64 y) ∧ Hid (Only (fun _ => False) W0 w')) := fun W hW => by
    have h1 := yroom_any W a k v r h B cp ao l (HS0.out.more hW.out) hh
    rw [hz, hy] at h1
    exact h1.mono fun e w' hx => ⟨hx.1, o2 hW.out hx.2⟩
  have HC : Hid (∀ W, Hid (Only (fun _ => False) W0 W) → Pag W w.heap.size (.int .i64 a) (.int .i64 k) (.int .i64 v) (.int .i64 r) (.string h) (.slice ao l.length cp)) := fun W hW => HP.out.more hW.out
  obtain ⟨p0, p1, p2, p3, p4, p5, _⟩ := HP.out
  clear hz hy hS
  go_enter Tryd.func3, Tryd.ntmps3
  go_upto_region 1 with fail
  rw [HW0.out]
  go_region_held3 (fun W => (W.cell? ⟨w.heap.size, 0, none⟩ = some (.int .i64 a) ∧ W.cell? ⟨w.heap.size, 1, none⟩ = some (.int .i64 k) ∧ W.cell? ⟨w.heap.size, 2, none⟩ = some (.int .i64 v) ∧ W.cell? ⟨w.heap.size, 3, none⟩ = some (.int .i64 r) ∧ W.cell? ⟨w.heap.size, 4, none⟩ = some (.string h) ∧ W.cell? ⟨w.heap.size, 5, none⟩ = some (.slice ao l.length cp)))
    (go_keep)
    (first
      | (go_at_call 9; refine (HA.out _ (hide (Only.drew _ _))).mono ?_; rintro e w1 ⟨rfl, HX1⟩; obtain ⟨c0, c1, c2, c3, c4, c5, _⟩ := HC.out _ HX1)
      | (go_at_call 10; refine (H1.out _ HX1).mono ?_; rintro e w2 ⟨rfl, HX2⟩; obtain ⟨d0, d1, d2, d3, d4, d5, _⟩ := HC.out _ HX2)
      | (go_at_call 11; refine (H2.out _ HX2).mono ?_; rintro e w3 ⟨rfl, HX3⟩; obtain ⟨e0, e1, e2, e3, e4, e5, _⟩ := HC.out _ HX3)
      | (go_at_call 12; refine (H3.out _ HX3).mono ?_; rintro e w4 ⟨rfl, HX4⟩; obtain ⟨f0, f1, f2, f3, f4, f5, _⟩ := HC.out _ HX4)
      | (go_at_call 13; refine (H4.out _ HX4).mono ?_; rintro e w5 ⟨rfl, HX5⟩; obtain ⟨g0, g1, g2, g3, g4, g5, _⟩ := HC.out _ HX5))
  all_goals go_wp2_with fail
  all_goals go_ret
  all_goals exact ⟨ret_bool (by simp), o2 HO0.out HX5.out⟩
end Go.Proofs.YtiefdndhfeleiaaDoor
