/- What the takers do. -/
import Derived.Test.YtcbdpdkmkncffaaGreatDoorRWalkA
import Derived.Test.YtcbdpdkmkncffaaGreatDoorPDecX
namespace Go.Proofs.YtcbdpdkmkncffaaGreatDoor
open Go.RowKit

/-- A Reader in block r. -/
def Rs (w : World) (r : Nat) (s : St) : Prop := Rd w r (str s.1) s.2
theorem Rs.kept {S : Nat → Prop} {w w' : World} {r : Nat} {s : St} (h : Rs w r s) (ho : Only S w w') (hr : ¬ S r) : Rs w' r s := Rd.kept h ho hr
theorem rn_any (w : World) (r : Nat) (s : St) (z : Int) (h : Rs w r s) :
    Calls Tryz.prog 76 #[.pointer (some ⟨r, 0, none⟩), .int .i64 z] w fun e w' => e = .returned (.int .i64 (rN z s).1) ∧ Rs w' r (rN z s).2 ∧ Only (fun k => k = r) w w' := by
  obtain ⟨l, x⟩ := s
  by_cases hx : x = 0
  · subst hx
    have h1 := rnum_any w r (str l) z h
    have e : rN z (l, 0) = ((rdN z l).1, ((rdN z l).2.1, (rdN z l).2.2)) := by unfold rN; rw [if_pos rfl]
    rw [e]
    exact h1
  · have h1 := rnum_err w r x z h.c1 (by simpa using hx)
    have e : rN z (l, x) = (0, (l, x)) := by unfold rN; rw [if_neg hx]
    rw [e]
    refine Calls.mono h1 ?_
    rintro e w' ⟨rfl, rfl⟩
    exact ⟨rfl, h, Only.refl _ _⟩
theorem rt_any (w : World) (r : Nat) (s : St) (z : Int) (h : Rs w r s) :
    Calls Tryz.prog 77 #[.pointer (some ⟨r, 0, none⟩), .int .i64 z] w fun e w' => e = .returned (.string (str (rT z s).1)) ∧ Rs w' r (rT z s).2 ∧ Only (fun k => k = r) w w' := by
  obtain ⟨l, x⟩ := s
  by_cases hx : x = 0
  · subst hx
    have h1 := rtext_any w r (str l) z h
    have e : rT z (l, 0) = ((rdT z l).1, ((rdT z l).2.1, (rdT z l).2.2)) := by unfold rT; rw [if_pos rfl]
    rw [e]
    exact h1
  · have h1 := rtext_err w r x z h.c1 (by simpa using hx)
    have e : rT z (l, x) = ([], (l, x)) := by unfold rT; rw [if_neg hx]
    rw [e]
    refine Calls.mono h1 ?_
    rintro e w' ⟨rfl, rfl⟩
    exact ⟨rfl, h, Only.refl _ _⟩
theorem tn_any (w : World) (r : Nat) (s : St) (h : Rs w r s) :
    Calls Tryz.prog 75 #[.pointer (some ⟨r, 0, none⟩)] w fun e w' => e = .returned (.int .i64 (rN top s).1) ∧ Rs w' r (rN top s).2 ∧ Only (fun k => k = r) w w' := by
  have HC := hide (rn_any w r s top h)
  clear h
  unfold top at HC ⊢
  obtain ⟨x, hx⟩ : ∃ x, rN 4611686018427387904 s = x := ⟨_, rfl⟩
  rw [hx] at HC ⊢
  clear hx
  go_enter Tryz.func75, Tryz.ntmps75
  go_wp2_with fail
  refine HC.out.mono ?_
  rintro e w1 ⟨rfl, hr1, ho1⟩
  have HR1 := hide hr1
  have HO1 := hide ho1
  clear hr1 ho1
  go_wp2_with fail
  go_ret
  exact ⟨rfl, HR1.out, HO1.out⟩
/-- Two cells set. -/
theorem set_two {w : World} {b : Nat} {u0 u1 : Value} (c0 : w.cell? ⟨b, 0, none⟩ = some u0) (c1 : w.cell? ⟨b, 1, none⟩ = some u1) (v0 v1 : Value) : ((w.setCell ⟨b, 0, none⟩ v0).setCell ⟨b, 1, none⟩ v1).cell? ⟨b, 0, none⟩ = some v0 ∧ ((w.setCell ⟨b, 0, none⟩ v0).setCell ⟨b, 1, none⟩ v1).cell? ⟨b, 1, none⟩ = some v1 := by
  have oth : ∀ (W : World) (i j : Nat) (v x : Value), i ≠ j → W.cell? ⟨b, j, none⟩ = some x → (W.setCell ⟨b, i, none⟩ v).cell? ⟨b, j, none⟩ = some x := fun W i j v x hij hx => (World.cell?_setCell_other _ _ _ _ (by intro e; injection e with _ e2; exact hij e2)).trans hx
  exact ⟨oth _ 1 0 _ _ (by omega) (World.cell?_setCell_same _ _ _ c0), World.cell?_setCell_same _ _ _ (oth _ 0 1 v0 _ (by omega) c1)⟩
theorem only_two (w : World) (b : Nat) (v0 v1 : Value) : Only (fun k => k = b) w ((w.setCell ⟨b, 0, none⟩ v0).setCell ⟨b, 1, none⟩ v1) :=
  (Only.setCell (S := fun k => k = b) w ⟨b, 0, none⟩ v0 rfl).trans (Only.setCell (S := fun k => k = b) _ ⟨b, 1, none⟩ v1 rfl) (fun _ _ h => h)
theorem load_owed {w : World} {b : Nat} {v0 v1 : Value} (h0 : w.cell? ⟨b, 0, none⟩ = some v0) (h1 : w.cell? ⟨b, 1, none⟩ = some v1) : (loadVar 82 ⟨b, 0, none⟩).run Tryz.prog w = .ok (.agg #[v0, v1]) w := by simp [loadVar, go_sem, h0, h1]
theorem load_begun {w : World} {b : Nat} {v0 v1 : Value} (h0 : w.cell? ⟨b, 0, none⟩ = some v0) (h1 : w.cell? ⟨b, 1, none⟩ = some v1) : (loadVar 84 ⟨b, 0, none⟩).run Tryz.prog w = .ok (.agg #[v0, v1]) w := by simp [loadVar, go_sem, h0, h1]
/-- A result that lies in cells. -/
theorem results_cell1 {fn : Func} {p : Tmp} {ty : TypeId} (h : fn.results = #[.cell p ty]) {tmps : Array Value} {w : World} {b : Nat} {v : Value} (hp : tmps.getD p undef = .pointer (some ⟨b, 0, none⟩)) (hP : (loadVar ty ⟨b, 0, none⟩).run Tryz.prog w = .ok v w) :
    (results fn tmps).run Tryz.prog w = .ok v w := by
  have e : (asAddr (tmps.getD p undef)).run Tryz.prog w = .ok ⟨b, 0, none⟩ w := by rw [hp]; rfl
  have key : (results fn tmps).run Tryz.prog w = ((asAddr (tmps.getD p undef)).run Tryz.prog w).andThen fun a w₁ => (loadVar ty a).run Tryz.prog w₁ := by
    simp only [results, h]
    simp [Sem.run_bind, Result.andThen]
  rw [key, e]
  simp only [Result.andThen, hP]
set_option maxRecDepth 100000 in
set_option maxHeartbeats 800000 in
theorem to_any (w : World) (r : Nat) (s : St) (h : Rs w r s) :
    Calls Tryz.prog 82 #[.pointer (some ⟨r, 0, none⟩)] w fun e w' => e = .returned (.agg #[.int .i64 (rPr s).1.1, .int .i64 (rPr s).1.2]) ∧ Rs w' r (rPr s).2 ∧ Only (fun k => k = r) w w' := by
  have hlt := h.lt
  have HS := hide (h.kept (onlyA w (.cells #[.int .i64 0, .int .i64 0] 82)) (fun h => h))
  have HO0 := hide (Only.alloc (fun k => k = r) w (.cells #[.int .i64 0, .int .i64 0] 82))
  have HC0 : Hid (∀ W, Only (fun k => k = r) (w.alloc (.cells #[.int .i64 0, .int .i64 0] 82)) W → W.cell? ⟨w.heap.size, 0, none⟩ = some (.int .i64 0) ∧ W.cell? ⟨w.heap.size, 1, none⟩ = some (.int .i64 0) ∧ W.frozen? ⟨w.heap.size, 0, none⟩ = false ∧ W.frozen? ⟨w.heap.size, 1, none⟩ = false) := fun W hW =>
    ⟨(hW.cell (p := ⟨w.heap.size, 0, none⟩) (by simp) (by show ¬ w.heap.size = r; omega)).trans (by simp), (hW.cell (p := ⟨w.heap.size, 1, none⟩) (by simp) (by show ¬ w.heap.size = r; omega)).trans (by simp), (hW.frozen (p := ⟨w.heap.size, 0, none⟩) (by simp) (by show ¬ w.heap.size = r; omega)).trans (by simp), (hW.frozen (p := ⟨w.heap.size, 1, none⟩) (by simp) (by show ¬ w.heap.size = r; omega)).trans (by simp)⟩
  obtain ⟨W0, hW0⟩ : ∃ W0, w.alloc (.cells #[.int .i64 0, .int .i64 0] 82) = W0 := ⟨_, rfl⟩
  rw [hW0] at HS HO0 HC0
  have HW0 := hide hW0
  clear hW0 h
  go_enter Tryz.func82, Tryz.ntmps82
  go_wp2_with fail
  rw [HW0.out]
  refine (tn_any W0 r s HS.out).mono ?_
  rintro e w1 ⟨rfl, hr1, ho1⟩
  have HR1 := hide hr1
  have HO1 := hide ho1
  clear hr1 ho1
  go_wp2_with fail
  refine (tn_any w1 r _ HR1.out).mono ?_
  rintro e w2 ⟨rfl, hr2, ho2⟩
  have HR2 := hide hr2
  have HO2 : Hid (Only (fun k => k = r) W0 w2) := HO1.out.trans ho2 (fun _ _ h => h)
  obtain ⟨c0, c1, f0, f1⟩ := HC0.out _ HO2.out
  clear hr2 ho2
  go_wp2_with fail
  have hs2 := set_two c0 c1 (.int .i64 (rN top s).1) (.int .i64 (rN top (rN top s).2).1)
  have ho := only_two w2 w.heap.size (.int .i64 (rN top s).1) (.int .i64 (rN top (rN top s).2).1)
  refine bodyPost_ret (results_cell1 rfl rfl (load_owed hs2.1 hs2.2)) rfl ?_
  exact ⟨rfl, HR2.out.kept ho (by omega), (HO0.out.trans HO2.out (fun _ _ h => h)).trans ho (fun i hi e => by omega)⟩
set_option maxRecDepth 100000 in
set_option maxHeartbeats 800000 in
theorem tb_any (w : World) (r : Nat) (s : St) (h : Rs w r s) :
    Calls Tryz.prog 84 #[.pointer (some ⟨r, 0, none⟩)] w fun e w' => e = .returned (.agg #[.int .i64 (rPr s).1.1, .int .i64 (rPr s).1.2]) ∧ Rs w' r (rPr s).2 ∧ Only (fun k => k = r) w w' := by
  have hlt := h.lt
  have HS := hide (h.kept (onlyA w (.cells #[.int .i64 0, .int .i64 0] 84)) (fun h => h))
  have HO0 := hide (Only.alloc (fun k => k = r) w (.cells #[.int .i64 0, .int .i64 0] 84))
  have HC0 : Hid (∀ W, Only (fun k => k = r) (w.alloc (.cells #[.int .i64 0, .int .i64 0] 84)) W → W.cell? ⟨w.heap.size, 0, none⟩ = some (.int .i64 0) ∧ W.cell? ⟨w.heap.size, 1, none⟩ = some (.int .i64 0) ∧ W.frozen? ⟨w.heap.size, 0, none⟩ = false ∧ W.frozen? ⟨w.heap.size, 1, none⟩ = false) := fun W hW =>
    ⟨(hW.cell (p := ⟨w.heap.size, 0, none⟩) (by simp) (by show ¬ w.heap.size = r; omega)).trans (by simp), (hW.cell (p := ⟨w.heap.size, 1, none⟩) (by simp) (by show ¬ w.heap.size = r; omega)).trans (by simp), (hW.frozen (p := ⟨w.heap.size, 0, none⟩) (by simp) (by show ¬ w.heap.size = r; omega)).trans (by simp), (hW.frozen (p := ⟨w.heap.size, 1, none⟩) (by simp) (by show ¬ w.heap.size = r; omega)).trans (by simp)⟩
  obtain ⟨W0, hW0⟩ : ∃ W0, w.alloc (.cells #[.int .i64 0, .int .i64 0] 84) = W0 := ⟨_, rfl⟩
  rw [hW0] at HS HO0 HC0
  have HW0 := hide hW0
  clear hW0 h
  go_enter Tryz.func84, Tryz.ntmps84
  go_wp2_with fail
  rw [HW0.out]
  refine (tn_any W0 r s HS.out).mono ?_
  rintro e w1 ⟨rfl, hr1, ho1⟩
  have HR1 := hide hr1
  have HO1 := hide ho1
  clear hr1 ho1
  go_wp2_with fail
  refine (tn_any w1 r _ HR1.out).mono ?_
  rintro e w2 ⟨rfl, hr2, ho2⟩
  have HR2 := hide hr2
  have HO2 : Hid (Only (fun k => k = r) W0 w2) := HO1.out.trans ho2 (fun _ _ h => h)
  obtain ⟨c0, c1, f0, f1⟩ := HC0.out _ HO2.out
  clear hr2 ho2
  go_wp2_with fail
  have hs2 := set_two c0 c1 (.int .i64 (rN top s).1) (.int .i64 (rN top (rN top s).2).1)
  have ho := only_two w2 w.heap.size (.int .i64 (rN top s).1) (.int .i64 (rN top (rN top s).2).1)
  refine bodyPost_ret (results_cell1 rfl rfl (load_begun hs2.1 hs2.2)) rfl ?_
  exact ⟨rfl, HR2.out.kept ho (by omega), (HO0.out.trans HO2.out (fun _ _ h => h)).trans ho (fun i hi e => by omega)⟩
end Go.Proofs.YtcbdpdkmkncffaaGreatDoor
