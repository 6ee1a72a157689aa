/- Walk of PageSames. -/
import Derived.Test.YtiefdndhfeleiaaDoorPAwake
import Derived.Test.YtiefdndhfeleiaaDoorPOpen
import Derived.Deep.RegionHeld3
namespace Go.Proofs.YtiefdndhfeleiaaDoor
open Go.RowKit

set_option maxRecDepth 100000 in
set_option maxHeartbeats 1600000 in
theorem sames_law (w : World) (a k v r a' k' v' r' : Int) (h h' : ByteArray) (B B' cp cp' : Nat) (ao ao' : Option Addr) (l l' : List ByteArray) (hS : Strs w B ao l) (hS' : Strs w B' ao' l') :
    Calls Tryd.prog 7 #[.agg #[.int .i64 a, .int .i64 k, .int .i64 v, .int .i64 r, .string h, .slice ao l.length cp], .agg #[.int .i64 a', .int .i64 k', .int .i64 v', .int .i64 r', .string h', .slice ao' l'.length cp']] w fun e w' => e = .returned (.bool true) ∧ Only (fun _ => False) w w' := by
  obtain ⟨z, hz⟩ : ∃ z, decide (a = a' ∧ k = k' ∧ v = v' ∧ r = r' ∧ h = h' ∧ l = l') = z := ⟨_, rfl⟩
  have hz2 : decide (a' = a ∧ k' = k ∧ v' = v ∧ r' = r ∧ h' = h ∧ l' = l) = z := by rw [← hz]; apply decide_eq_decide.2; constructor <;> (rintro ⟨rfl, rfl, rfl, rfl, rfl, rfl⟩; exact ⟨rfl, rfl, rfl, rfl, rfl, rfl⟩)
  have hz3 : decide (a = a ∧ k = k ∧ v = v ∧ r = r ∧ h = h ∧ l = l) = true := by simp
  have HO0 := hide (o2 (onlyA w (.cells #[.int .i64 a, .int .i64 k, .int .i64 v, .int .i64 r, .string h, .slice ao l.length cp] 24)) (onlyA _ (.cells #[.int .i64 a', .int .i64 k', .int .i64 v', .int .i64 r', .string h', .slice ao' l'.length cp'] 24)))
  have HP := hide ((Pag.new w (.int .i64 a) (.int .i64 k) (.int .i64 v) (.int .i64 r) (.string h) (.slice ao l.length cp)).more (onlyA _ (.cells #[.int .i64 a', .int .i64 k', .int .i64 v', .int .i64 r', .string h', .slice ao' l'.length cp'] 24)))
  have HQ := hide (Pag.new (w.alloc (.cells #[.int .i64 a, .int .i64 k, .int .i64 v, .int .i64 r, .string h, .slice ao l.length cp] 24)) (.int .i64 a') (.int .i64 k') (.int .i64 v') (.int .i64 r') (.string h') (.slice ao' l'.length cp'))
  rw [show (w.alloc (.cells #[.int .i64 a, .int .i64 k, .int .i64 v, .int .i64 r, .string h, .slice ao l.length cp] 24)).heap.size = w.heap.size + 1 by simp] at HQ
  obtain ⟨W0, hW0⟩ : ∃ W0, (w.alloc (.cells #[.int .i64 a, .int .i64 k, .int .i64 v, .int .i64 r, .string h, .slice ao l.length cp] 24)).alloc (.cells #[.int .i64 a', .int .i64 k', .int .i64 v', .int .i64 r', .string h', .slice ao' l'.length cp'] 24) = W0 := ⟨_, rfl⟩
  rw [hW0] at HP HQ HO0
  have HW0 := hide hW0
  clear hW0
  have HS0 := hide (hS.more HO0.out)
  have HS1 := hide (hS'.more HO0.out)
  have HA : Hid (∀ W, Hid (Only (fun _ => False) W0 W) → Calls Tryd.prog 9 #[] W fun e w' => e = .returned (.bool true) ∧ Hid (Only (fun _ => False) W0 w')) := fun W hW => (awake_any W).mono fun e w' hx => ⟨hx.1, o2 hW.out hx.2⟩
  have H1 : Hid (∀ W, Hid (Only (fun _ => False) W0 W) → Calls Tryd.prog 28 #[.agg #[.int .i64 a, .int .i64 k, .int .i64 v, .int .i64 r, .string h, .slice ao l.length cp], .agg #[.int .i64 a', .int .i64 k', .int .i64 v', .int .i64 r', .string h', .slice ao' l'.length cp']] W fun e w' => e = .returned (.bool z) ∧ Hid (Only (fun _ => False) W0 w')) := fun W hW => by
    have h1 := psame_any W a k v r a' k' v' r' h h' B B' cp cp' ao ao' l l' (HS0.out.more hW.out) (HS1.out.more hW.out)
    rw [hz] at h1
    exact h1.mono fun e w' hx => ⟨hx.1, o2 hW.out hx.2⟩
  have H2 : Hid (∀ W, Hid (Only (fun _ => False) W0 W) → Calls Tryd.prog 21 #[.agg #[.int .i64 a, .int .i64 k, .int .i64 v, .int .i64 r, .string h, .slice ao l.length cp], .agg #[.int .i64 a', .int .i64 k', .int .i64 v', .int .i64 r', .string h', .slice ao' l'.length cp']] W fun e w' => e = .returned (.bool z) ∧ Hid (Only (fun _ => False) W0 w')) := fun W hW => by
    have h1 := ysame_any W a k v r a' k' v' r' h h' B B' cp cp' ao ao' l l' (HS0.out.more hW.out) (HS1.out.more hW.out)
    rw [hz] at h1
    exact h1.mono fun e w' hx => ⟨hx.1, o2 hW.out hx.2⟩
  have H3 : Hid (∀ W, Hid (Only (fun _ => False) W0 W) → Calls Tryd.prog 28 #[.agg #[.int .i64 a, .int .i64 k, .int .i64 v, .int .i64 r, .string h, .slice ao l.length cp], .agg #[.int .i64 a, .int .i64 k, .int .i64 v, .int .i64 r, .string h, .slice ao l.length cp]] W fun e w' => e = .returned (.bool true) ∧ Hid (Only (fun _ => False) W0 w')) := fun W hW => by
    have h1 := psame_any W a k v r a k v r h h B B cp cp ao ao l l (HS0.out.more hW.out) (HS0.out.more hW.out)
    rw [hz3] at h1
    exact h1.mono fun e w' hx => ⟨hx.1, o2 hW.out hx.2⟩
  have H4 : Hid (∀ W, Hid (Only (fun _ => False) W0 W) → Calls Tryd.prog 28 #[.agg #[.int .i64 a', .int .i64 k', .int .i64 v', .int .i64 r', .string h', .slice ao' l'.length cp'], .agg #[.int .i64 a, .int .i64 k, .int .i64 v, .int .i64 r, .string h, .slice ao l.length cp]] W fun e w' => e = .returned (.bool z) ∧ Hid (Only (fun _ => False) W0 w')) := fun W hW => by
    have h1 := psame_any W a' k' v' r' a k v r h' h B' B cp' cp ao' ao l' l (HS1.out.more hW.out) (HS0.out.more hW.out)
    rw [hz2] at h1
    exact h1.mono fun e w' hx => ⟨hx.1, o2 hW.out hx.2⟩
  have HC : Hid (∀ W, Hid (Only (fun _ => False) W0 W) → Pag W w.heap.size (.int .i64 a) (.int .i64 k) (.int .i64 v) (.int .i64 r) (.string h) (.slice ao l.length cp)) := fun W hW => HP.out.more hW.out
  have HD : Hid (∀ W, Hid (Only (fun _ => False) W0 W) → Pag W (w.heap.size + 1) (.int .i64 a') (.int .i64 k') (.int .i64 v') (.int .i64 r') (.string h') (.slice ao' l'.length cp')) := fun W hW => HQ.out.more hW.out
  obtain ⟨p0, p1, p2, p3, p4, p5, _⟩ := HP.out
  obtain ⟨q0, q1, q2, q3, q4, q5, _⟩ := HQ.out
  clear hz hz2 hz3 hS hS'
  go_enter Tryd.func7, Tryd.ntmps7
  go_upto_region 1 with fail
  rw [HW0.out]
  go_region_held3 (fun W => (W.cell? ⟨w.heap.size, 0, none⟩ = some (.int .i64 a) ∧ W.cell? ⟨w.heap.size, 1, none⟩ = some (.int .i64 k) ∧ W.cell? ⟨w.heap.size, 2, none⟩ = some (.int .i64 v) ∧ W.cell? ⟨w.heap.size, 3, none⟩ = some (.int .i64 r) ∧ W.cell? ⟨w.heap.size, 4, none⟩ = some (.string h) ∧ W.cell? ⟨w.heap.size, 5, none⟩ = some (.slice ao l.length cp) ∧ W.cell? ⟨w.heap.size + 1, 0, none⟩ = some (.int .i64 a') ∧ W.cell? ⟨w.heap.size + 1, 1, none⟩ = some (.int .i64 k') ∧ W.cell? ⟨w.heap.size + 1, 2, none⟩ = some (.int .i64 v') ∧ W.cell? ⟨w.heap.size + 1, 3, none⟩ = some (.int .i64 r') ∧ W.cell? ⟨w.heap.size + 1, 4, none⟩ = some (.string h') ∧ W.cell? ⟨w.heap.size + 1, 5, none⟩ = some (.slice ao' l'.length cp')))
    (go_keep)
    (first
      | (go_at_call 9; refine (HA.out _ (hide (Only.drew _ _))).mono ?_; rintro e w1 ⟨rfl, HX1⟩; obtain ⟨c0, c1, c2, c3, c4, c5, _⟩ := HC.out _ HX1; obtain ⟨c6, c7, c8, c9, c10, c11, _⟩ := HD.out _ HX1)
      | (go_at_call 21; refine (H2.out _ HX2).mono ?_; rintro e w3 ⟨rfl, HX3⟩; obtain ⟨e0, e1, e2, e3, e4, e5, _⟩ := HC.out _ HX3; obtain ⟨e6, e7, e8, e9, e10, e11, _⟩ := HD.out _ HX3)
      | (go_at_call 28; refine (H4.out _ HX5).mono ?_; rintro e w6 ⟨rfl, HX6⟩; obtain ⟨i0, i1, i2, i3, i4, i5, _⟩ := HC.out _ HX6; obtain ⟨i6, i7, i8, i9, i10, i11, _⟩ := HD.out _ HX6)
      | (go_at_call 28; refine (H1.out _ HX4).mono ?_; rintro e w5 ⟨rfl, HX5⟩; obtain ⟨g0, g1, g2, g3, g4, g5, _⟩ := HC.out _ HX5; obtain ⟨g6, g7, g8, g9, g10, g11, _⟩ := HD.out _ HX5)
      | (go_at_call 28; refine (H3.out _ HX3).mono ?_; rintro e w4 ⟨rfl, HX4⟩; obtain ⟨f0, f1, f2, f3, f4, f5, _⟩ := HC.out _ HX4; obtain ⟨f6, f7, f8, f9, f10, f11, _⟩ := HD.out _ HX4)
      | (go_at_call 28; refine (H1.out _ HX1).mono ?_; rintro e w2 ⟨rfl, HX2⟩; obtain ⟨d0, d1, d2, d3, d4, d5, _⟩ := HC.out _ HX2; obtain ⟨d6, d7, d8, d9, d10, d11, _⟩ := HD.out _ HX2))
  all_goals go_wp2_with fail
  all_goals go_ret
  all_goals exact ⟨ret_bool (by simp), o2 HO0.out HX6.out⟩
end Go.Proofs.YtiefdndhfeleiaaDoor
