/- What the small functions of package disk do: usable, has, diesAtThisAct, Size, Acts, Dead, Arm. -/
import Derived.Test.YtfkcbdiffmacgaaGreatDoorDMem
namespace Go.Proofs.YtfkcbdiffmacgaaGreatDoor
open Go.RowKit

theorem usable_any (w : World) (d g m : Nat) (D : Dk) (h : Dsk w d g m D) :
    Calls Tryz.prog 37 #[.pointer (some ⟨d, 0, none⟩)] w fun e w' => e = .returned (.int .i64 (if D.dead then 5 else 0)) ∧ w' = w := by
  have h4 := h.c4
  cases hd : D.dead <;> rw [hd] at h4
  all_goals
    go_enter Tryz.func37, Tryz.ntmps37
    go_wp2
    go_ret
    exact ⟨rfl, rfl⟩
theorem usable_nil (w : World) : Calls Tryz.prog 37 #[.pointer none] w fun e w' => e = .returned (.int .i64 2) ∧ w' = w := by
  go_enter Tryz.func37, Tryz.ntmps37
  go_wp2
  go_ret
  exact ⟨rfl, rfl⟩
theorem has_any (w : World) (d g m : Nat) (D : Dk) (h : Dsk w d g m D) (a n : Int) (ha : -9223372036854775808 ≤ a ∧ a < 9223372036854775808) :
    Calls Tryz.prog 38 #[.pointer (some ⟨d, 0, none⟩), .int .i64 a, .int .i64 n] w fun e w' => e = .returned (.bool (hasB D.old.length a n)) ∧ w' = w := by
  have h0 := h.c0
  have hl := h.ok.hi
  obtain ⟨N, hN⟩ : ∃ N, D.old.length = N := ⟨_, rfl⟩
  rw [hN] at h0 hl ⊢
  have HX : Hid (hasB N a n = (decide (0 ≤ a) && (decide (0 ≤ n) && decide (n ≤ (N : Int) - a)))) := rfl
  by_cases h1 : 0 ≤ a
  · by_cases h2 : 0 ≤ n
    · by_cases h3 : n ≤ (N : Int) - a
      · go_enter Tryz.func38, Tryz.ntmps38
        go_wp2
        go_ret
        refine ⟨?_, rfl⟩
        rw [HX.out]
        simp [h1, h2, h3]
      · go_enter Tryz.func38, Tryz.ntmps38
        go_wp2
        go_ret
        refine ⟨?_, rfl⟩
        rw [HX.out]
        simp [h1, h2, h3]
    · go_enter Tryz.func38, Tryz.ntmps38
      go_wp2
      go_ret
      refine ⟨?_, rfl⟩
      rw [HX.out]
      simp [h1]
      intro h9
      omega
  · go_enter Tryz.func38, Tryz.ntmps38
    go_wp2
    go_ret
    refine ⟨?_, rfl⟩
    rw [HX.out]
    simp
    intro h9
    omega
theorem size_any (w : World) (d g m : Nat) (D : Dk) (h : Dsk w d g m D) :
    Calls Tryz.prog 36 #[.pointer (some ⟨d, 0, none⟩)] w fun e w' => e = .returned (.int .i64 (D.old.length : Int)) ∧ w' = w := by
  have h0 := h.c0
  go_enter Tryz.func36, Tryz.ntmps36
  go_wp2
  go_ret
  exact ⟨rfl, rfl⟩
theorem size_nil (w : World) : Calls Tryz.prog 36 #[.pointer none] w fun e w' => e = .returned (.int .i64 0) ∧ w' = w := by
  go_enter Tryz.func36, Tryz.ntmps36
  go_wp2
  go_ret
  exact ⟨rfl, rfl⟩
/-- A cell of the struct is written. -/
theorem Dsk.setc {w : World} {d g m : Nat} {D : Dk} (h : Dsk w d g m D) (j : Nat) (u : Value) {D' : Dk}
    (e0 : (if j = 0 then some u else w.cell? ⟨d, 0, none⟩) = some (.slice (some ⟨g, 0, none⟩) D'.old.length D'.old.length))
    (e1 : (if j = 1 then some u else w.cell? ⟨d, 1, none⟩) = some (.map (some m)))
    (e2 : (if j = 2 then some u else w.cell? ⟨d, 2, none⟩) = some (.int .i64 D'.acts))
    (e3 : (if j = 3 then some u else w.cell? ⟨d, 3, none⟩) = some (.int .i64 D'.armed))
    (e4 : (if j = 4 then some u else w.cell? ⟨d, 4, none⟩) = some (.bool D'.dead))
    (ho : D'.old = D.old) (hf : D'.fresh = D.fresh) (ok : D'.Ok) : Dsk (w.setCell ⟨d, j, none⟩ u) d g m D' ∧ Only (own d g m) w (w.setCell ⟨d, j, none⟩ u) := by
  have hset : ∀ i v, w.cell? ⟨d, i, none⟩ = some v → (w.setCell ⟨d, j, none⟩ u).cell? ⟨d, i, none⟩ = if j = i then some u else w.cell? ⟨d, i, none⟩ := by
    intro i v hv
    by_cases e : j = i
    · subst e
      rw [if_pos rfl, World.cell?_setCell_same _ _ _ hv]
    · rw [if_neg e, World.cell?_setCell_other _ _ _ _ (by intro e2; cases e2; exact e rfl)]
  have hO : Only (fun k => k = d) w (w.setCell ⟨d, j, none⟩ u) := Only.setCell w ⟨d, j, none⟩ u rfl
  refine ⟨⟨(hset 0 _ h.c0).trans e0, (hset 1 _ h.c1).trans e1, (hset 2 _ h.c2).trans e2, (hset 3 _ h.c3).trans e3, (hset 4 _ h.c4).trans e4, fun i => by simpa using h.fz i, by simpa using h.lt, ?_, ?_, ok, h.ne1, h.ne2, h.ne3⟩, hO.mono (fun k _ e => .inl e)⟩
  · rw [ho]; exact h.old.kept hO (fun e => h.ne1 e.symm)
  · rw [ho, hf]; exact h.map.kept hO (fun e => h.ne2 e.symm)
theorem Dsk.setActs {w : World} {d g m : Nat} {D : Dk} (h : Dsk w d g m D) (x : Int) : Dsk (w.setCell ⟨d, 2, none⟩ (.int .i64 x)) d g m { D with acts := x } ∧ Only (own d g m) w (w.setCell ⟨d, 2, none⟩ (.int .i64 x)) :=
  h.setc 2 _ (by simpa using h.c0) (by simpa using h.c1) (by simp) (by simpa using h.c3) (by simpa using h.c4) rfl rfl ⟨h.ok.lo, h.ok.hi, h.ok.o64, h.ok.f64, h.ok.arm0, h.ok.arm1⟩
theorem Dsk.setArmed {w : World} {d g m : Nat} {D : Dk} (h : Dsk w d g m D) (x : Int) (h0 : 0 ≤ x) (h1 : x < 9223372036854775808) : Dsk (w.setCell ⟨d, 3, none⟩ (.int .i64 x)) d g m { D with armed := x } ∧ Only (own d g m) w (w.setCell ⟨d, 3, none⟩ (.int .i64 x)) :=
  h.setc 3 _ (by simpa using h.c0) (by simpa using h.c1) (by simpa using h.c2) (by simp) (by simpa using h.c4) rfl rfl ⟨h.ok.lo, h.ok.hi, h.ok.o64, h.ok.f64, h0, h1⟩
theorem Dsk.setDead {w : World} {d g m : Nat} {D : Dk} (h : Dsk w d g m D) (x : Bool) : Dsk (w.setCell ⟨d, 4, none⟩ (.bool x)) d g m { D with dead := x } ∧ Only (own d g m) w (w.setCell ⟨d, 4, none⟩ (.bool x)) :=
  h.setc 4 _ (by simpa using h.c0) (by simpa using h.c1) (by simpa using h.c2) (by simpa using h.c3) (by simp) rfl rfl ⟨h.ok.lo, h.ok.hi, h.ok.o64, h.ok.f64, h.ok.arm0, h.ok.arm1⟩

theorem dies_any (w : World) (d g m : Nat) (D : Dk) (h : Dsk w d g m D) :
    Calls Tryz.prog 39 #[.pointer (some ⟨d, 0, none⟩)] w fun e w' => e = .returned (.bool (decide (D.armed = 1))) ∧ Dsk w' d g m D.act ∧ Only (own d g m) w w' := by
  have h2 := h.c2
  have h3 := h.c3
  have f2 := h.fz 2
  have f3 := h.fz 3
  have f4 := h.fz 4
  have h4 := h.c4
  have a0 := h.ok.arm0
  have a1 := h.ok.arm1
  obtain ⟨x1, y1⟩ := h.setActs (wrap64 (D.acts + 1))
  by_cases ha : D.armed = 0
  · have hb : (D.armed == 0) = true := by simpa using ha
    have HA : Hid (D.armed = 0) := ha
    have H : Hid (Dsk w d g m D) := h
    have X1 := hide x1
    have Y1 := hide y1
    clear h x1 y1 ha
    go_enter Tryz.func39, Tryz.ntmps39
    go_wp2
    go_ret
    refine ⟨by simp [HA.out], ?_, Y1.out⟩
    have e : D.act = { D with acts := wrap64 (D.acts + 1) } := by unfold Dk.act; simp [HA.out]
    rw [e]
    exact X1.out
  · obtain ⟨x2, y2⟩ := x1.setArmed (D.armed - 1) (by omega) (by omega)
    obtain ⟨x3, y3⟩ := x2.setDead (decide (D.armed = 1))
    have e : D.act = { { { D with acts := wrap64 (D.acts + 1) } with armed := D.armed - 1 } with dead := decide (D.armed = 1) } := by unfold Dk.act; simp [ha]
    have hb : (D.armed == 0) = false := by simpa using ha
    have hq : (D.armed - 1 == 0) = decide (D.armed = 1) := by
      by_cases h1 : D.armed = 1
      · simp [h1]
      · simp [h1]; omega
    have HQ := hide hq
    have Z := hide (And.intro x3 ((y1.trans y2 (fun _ _ h => h)).trans y3 (fun _ _ h => h)))
    rw [e]
    have hp : 0 < D.armed := by omega
    clear x1 y1 x2 y2 x3 y3 e h ha hq
    go_enter Tryz.func39, Tryz.ntmps39
    go_wp2
    go_ret
    simp only [HQ.out]
    exact ⟨rfl, Z.out.1, Z.out.2⟩
end Go.Proofs.YtfkcbdiffmacgaaGreatDoor
