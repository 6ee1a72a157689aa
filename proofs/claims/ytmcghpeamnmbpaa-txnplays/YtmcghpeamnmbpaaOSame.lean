/- The helpers that compare, at equals. -/
import Derived.Test.YtmcghpeamnmbpaaOFind
namespace Go.Proofs.Ytmcghpeamnmbpaa
open Go.RowKit Go.Maps

set_option maxRecDepth 100000 in
set_option maxHeartbeats 800000 in
theorem sameInts_eq (w : World) (Q1 Q2 : Nat → Prop) (a1 a2 : Option Addr) (c1 c2 k : Nat) (L : List Int) (hk : L.length = k) (h1 : Nm w Q1 a1 L) (h2 : Nm w Q2 a2 L) :
    Calls Try.prog 28 #[.slice a1 k c1, .slice a2 k c2] w fun e w' => e = .returned (.bool true) ∧ Only (fun _ => False) w w' := by
  have hlen := h1.len
  rw [hk] at hlen
  have HK := hide hk
  have H1 := hide h1
  have H2 := hide h2
  clear h1 h2 hk
  go_enter Try.func28, Try.ntmps28
  go_wp2_with fail
  go_loopw [5] (fun y wr => ∃ (j : Nat), j ≤ k ∧ y = .int .i64 (j : Int) ∧ Hid (Only (fun _ => False) w wr)) (fun y _ => k - (intOf y).toNat)
  case atStart => exact ⟨0, by omega, rfl, hide (Only.refl _ _)⟩
  case round =>
    obtain ⟨j, hj, rfl, HO⟩ := hrel
    by_cases hlt : j < k
    · have hjl : j < L.length := by have := HK.out; omega
      obtain ⟨b1, o1, e1, _, _, q1⟩ := (H1.out.more HO.out).at_ (by omega)
      obtain ⟨b2, o2, e2, _, _, q2⟩ := (H2.out.more HO.out).at_ (by omega)
      have k1 := q1 j hjl
      have k2 := q2 j hjl
      obtain ⟨z, hz⟩ : ∃ z, L[j] = z := ⟨_, rfl⟩
      rw [hz] at k1 k2
      have hj0 : (0 : Int) ≤ (j : Int) := by omega
      have hj1 : (j : Int) < (k : Int) := by omega
      clear q1 q2 hz hjl
      subst e1
      subst e2
      go_wp2_with fail
      go_region
      go_wp2_with fail
      go_roundw
      case rel => exact ⟨j + 1, by omega, by go_num, hide (HO.out.trans (Only.drew _ _) (fun _ _ h => h))⟩
      case measure => simp [intOf]; omega
    · go_wp2_with fail
      go_ret
      exact ⟨rfl, HO.out⟩
theorem neqB_run (x y : Int) (W : World) : (binOp .neq 59 (.agg #[.int .i64 x, .int .i64 y]) (.agg #[.int .i64 x, .int .i64 y])).run Try.prog W = .ok (.bool false) W := by
  simp [go_sem]
set_option maxRecDepth 100000 in
set_option maxHeartbeats 800000 in
theorem lbegun_eq (w : World) (b1 b2 : Nat) (a1 a2 : Option Addr) (c1 c2 : Nat) (L : List (Int × Int)) (h1 : BRow w b1 (.slice a1 L.length c1) L) (h2 : BRow w b2 (.slice a2 L.length c2) L) (hlen : L.length ≤ 5864062014700) :
    Calls Try.prog 30 #[.slice a1 L.length c1, .slice a2 L.length c2] w fun e w' => e = .returned (.bool true) ∧ Only (fun _ => False) w w' := by
  have H1 := hide h1
  have H2 := hide h2
  clear h1 h2
  go_enter Try.func30, Try.ntmps30
  go_wp2_with fail
  go_loopw [5] (fun y wr => ∃ (j : Nat), j ≤ L.length ∧ y = .int .i64 (j : Int) ∧ Hid (Only (fun _ => False) w wr)) (fun y _ => L.length - (intOf y).toNat)
  case atStart => exact ⟨0, by omega, rfl, hide (Only.refl _ _)⟩
  case round =>
    obtain ⟨j, hj, rfl, HO⟩ := hrel
    by_cases hlt : j < L.length
    · obtain ⟨g1, e1, _, _, _, q1⟩ := (H1.out.more HO.out).at_ hlt
      obtain ⟨g2, e2, _, _, _, q2⟩ := (H2.out.more HO.out).at_ hlt
      have k1 : wr.cell? ⟨g1, j * 2 + 0, none⟩ = some (.int .i64 L[j].1) := q1 0 (iv L[j].1) (by decide) rfl
      have k2 : wr.cell? ⟨g1, j * 2 + 1, none⟩ = some (.int .i64 L[j].2) := q1 1 (iv L[j].2) (by decide) rfl
      have k3 : wr.cell? ⟨g2, j * 2 + 0, none⟩ = some (.int .i64 L[j].1) := q2 0 (iv L[j].1) (by decide) rfl
      have k4 : wr.cell? ⟨g2, j * 2 + 1, none⟩ = some (.int .i64 L[j].2) := q2 1 (iv L[j].2) (by decide) rfl
      rw [Nat.add_zero] at k1 k3
      obtain ⟨x, hx⟩ : ∃ z, L[j].1 = z := ⟨_, rfl⟩
      obtain ⟨y, hy⟩ : ∃ z, L[j].2 = z := ⟨_, rfl⟩
      rw [hx] at k1 k3
      rw [hy] at k2 k4
      have hq := fun W => neqB_run x y W
      have hj0 : (0 : Int) ≤ (j : Int) := by omega
      have hj1 : (j : Int) < (L.length : Int) := by omega
      clear q1 q2 hx hy
      subst e1
      subst e2
      go_wp2_with fail
      go_region
      go_wp2_with fail
      go_roundw
      case rel => exact ⟨j + 1, by omega, by go_num, hide (HO.out.trans (Only.drew _ _) (fun _ _ h => h))⟩
      case measure => simp [intOf]; omega
    · go_wp2_with fail
      go_ret
      exact ⟨rfl, HO.out⟩
set_option maxRecDepth 100000 in
set_option maxHeartbeats 1600000 in
theorem sameSnap_eq (w : World) (Q1 Q2 : Nat → Prop) (nx : Int) (a1 a2 : Option Addr) (c1 c2 : Nat) (L : List Int) (h1 : Nm w Q1 a1 L) (h2 : Nm w Q2 a2 L) :
    Calls Try.prog 38 #[.agg #[.int .i64 nx, .slice a1 L.length c1], .agg #[.int .i64 nx, .slice a2 L.length c2]] w fun e w' => e = .returned (.bool true) ∧ Only (fun _ => False) w w' := by
  have hlen := h1.len
  obtain ⟨W2, hW2⟩ : ∃ x, (w.alloc (.cells #[.int .i64 nx, .slice a1 L.length c1] 29)).alloc (.cells #[.int .i64 nx, .slice a2 L.length c2] 29) = x := ⟨_, rfl⟩
  have HB1 : Hid (Cb W2 w.heap.size [.int .i64 nx, .slice a1 L.length c1]) := by unfold Hid; rw [← hW2]; exact (Cb.new w _ _).more (onlyA _ _ _)
  have HB2 : Hid (Cb W2 (w.heap.size + 1) [.int .i64 nx, .slice a2 L.length c2]) := by unfold Hid; rw [← hW2]; exact Cb.at _ _ (by simp) _ _
  have HO2 : Hid (Only (fun _ => False) w W2) := by unfold Hid; rw [← hW2]; exact o2 (onlyA _ _ _) (onlyA _ _ _)
  have H1 := hide (h1.more HO2.out)
  have H2 := hide (h2.more HO2.out)
  have HW2 := hide hW2
  obtain ⟨sz, hsz⟩ : ∃ z, w.heap.size = z := ⟨_, rfl⟩
  rw [hsz] at HB1 HB2
  have HSZ := hide hsz
  clear h1 h2 hW2 hsz
  go_enter Try.func38, Try.ntmps38
  go_upto_region 1 with fail
  rw [HW2.out, HSZ.out]
  have b0 := HB1.out.c 0 _ rfl
  have b1 := HB1.out.c 1 _ rfl
  have b2 := HB2.out.c 0 _ rfl
  have b3 := HB2.out.c 1 _ rfl
  go_wp2_with fail
  go_loopw [5] (fun y wr => ∃ (j : Nat), j ≤ L.length ∧ y = .int .i64 (j : Int) ∧ Hid (Only (fun _ => False) W2 wr)) (fun y _ => L.length - (intOf y).toNat)
  case atStart => exact ⟨0, by omega, rfl, hide (Only.refl _ _)⟩
  case round =>
    obtain ⟨j, hj, rfl, HO⟩ := hrel
    have b1 := (HB1.out.more HO.out).c 1 _ rfl
    have b3 := (HB2.out.more HO.out).c 1 _ rfl
    by_cases hlt : j < L.length
    · obtain ⟨d1, o1, e1, _, _, q1⟩ := (H1.out.more HO.out).at_ (by omega)
      obtain ⟨d2, o2', e2, _, _, q2⟩ := (H2.out.more HO.out).at_ (by omega)
      have k1 := q1 j hlt
      have k2 := q2 j hlt
      obtain ⟨z, hz⟩ : ∃ z, L[j] = z := ⟨_, rfl⟩
      rw [hz] at k1 k2
      have hj0 : (0 : Int) ≤ (j : Int) := by omega
      have hj1 : (j : Int) < (L.length : Int) := by omega
      clear q1 q2 hz
      subst e1
      subst e2
      go_wp2_with fail
      go_region
      go_wp2_with fail
      go_roundw
      case rel => exact ⟨j + 1, by omega, by go_num, hide (HO.out.trans (Only.drew _ _) (fun _ _ h => h))⟩
      case measure => simp [intOf]; omega
    · go_wp2_with fail
      go_ret
      exact ⟨rfl, o2 HO2.out HO.out⟩
end Go.Proofs.Ytmcghpeamnmbpaa
