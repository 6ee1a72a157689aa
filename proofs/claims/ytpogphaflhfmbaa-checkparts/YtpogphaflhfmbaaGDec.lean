/- What Decode does, the code's and the document's. -/
import Derived.Test.YtpogphaflhfmbaaGLay
namespace Go.Proofs.Ytpogphaflhfmbaa
open Go.RowKit

theorem ext_blG (s : ByteArray) (i j : Nat) : bl (s.extract i j) = ((bl s).drop i).take (j - i) := by
  unfold bl
  simp [ByteArray.data_extract, List.extract_eq_take_drop]
theorem ba_eqG {a b : ByteArray} (h : a = b) : (a.toList == b.toList) = true := by subst h; simp
theorem Cb.all {w : World} {b : Nat} {d : Ct} (h : Cb w b d) (c : Ct) : Cb (((((((w.setCell ⟨b, 0, none⟩ (.int .i64 c.f)).setCell ⟨b, 1, none⟩ (.int .i64 c.m)).setCell ⟨b, 2, none⟩ (.int .i64 c.l)).setCell ⟨b, 3, none⟩ (.int .i64 c.p)).setCell ⟨b, 4, none⟩ (.int .i64 c.n)).setCell ⟨b, 5, none⟩ (.int .i64 c.s)).setCell ⟨b, 6, none⟩ (.int .i64 c.k)) b c :=
  ⟨(othG _ _ _ _ _ _ (by omega) (othG _ _ _ _ _ _ (by omega) (othG _ _ _ _ _ _ (by omega) (othG _ _ _ _ _ _ (by omega) (othG _ _ _ _ _ _ (by omega) (othG _ _ _ _ _ _ (by omega) (World.cell?_setCell_same _ _ _ h.c0))))))), (othG _ _ _ _ _ _ (by omega) (othG _ _ _ _ _ _ (by omega) (othG _ _ _ _ _ _ (by omega) (othG _ _ _ _ _ _ (by omega) (othG _ _ _ _ _ _ (by omega) (World.cell?_setCell_same _ _ _ (othG _ _ _ _ _ _ (by omega) h.c1))))))), (othG _ _ _ _ _ _ (by omega) (othG _ _ _ _ _ _ (by omega) (othG _ _ _ _ _ _ (by omega) (othG _ _ _ _ _ _ (by omega) (World.cell?_setCell_same _ _ _ (othG _ _ _ _ _ _ (by omega) (othG _ _ _ _ _ _ (by omega) h.c2))))))), (othG _ _ _ _ _ _ (by omega) (othG _ _ _ _ _ _ (by omega) (othG _ _ _ _ _ _ (by omega) (World.cell?_setCell_same _ _ _ (othG _ _ _ _ _ _ (by omega) (othG _ _ _ _ _ _ (by omega) (othG _ _ _ _ _ _ (by omega) h.c3))))))), (othG _ _ _ _ _ _ (by omega) (othG _ _ _ _ _ _ (by omega) (World.cell?_setCell_same _ _ _ (othG _ _ _ _ _ _ (by omega) (othG _ _ _ _ _ _ (by omega) (othG _ _ _ _ _ _ (by omega) (othG _ _ _ _ _ _ (by omega) h.c4))))))), (othG _ _ _ _ _ _ (by omega) (World.cell?_setCell_same _ _ _ (othG _ _ _ _ _ _ (by omega) (othG _ _ _ _ _ _ (by omega) (othG _ _ _ _ _ _ (by omega) (othG _ _ _ _ _ _ (by omega) (othG _ _ _ _ _ _ (by omega) h.c5))))))), (World.cell?_setCell_same _ _ _ (othG _ _ _ _ _ _ (by omega) (othG _ _ _ _ _ _ (by omega) (othG _ _ _ _ _ _ (by omega) (othG _ _ _ _ _ _ (by omega) (othG _ _ _ _ _ _ (by omega) (othG _ _ _ _ _ _ (by omega) h.c6))))))), by simpa using h.f0, by simpa using h.f1, by simpa using h.f2, by simpa using h.f3, by simpa using h.f4, by simpa using h.f5, by simpa using h.f6, by simpa using h.lt⟩
theorem Only.seven (w : World) (b : Nat) (v0 v1 v2 v3 v4 v5 v6 : Value) : Only (fun k => k = b) w (((((((w.setCell ⟨b, 0, none⟩ v0).setCell ⟨b, 1, none⟩ v1).setCell ⟨b, 2, none⟩ v2).setCell ⟨b, 3, none⟩ v3).setCell ⟨b, 4, none⟩ v4).setCell ⟨b, 5, none⟩ v5).setCell ⟨b, 6, none⟩ v6) := by
  have st : ∀ (W : World) (i : Nat) (v : Value), Only (fun k => k = b) W (W.setCell ⟨b, i, none⟩ v) := fun W i v => Only.setCell W ⟨b, i, none⟩ v rfl
  exact ((((((st _ 0 _).trans (st _ 1 _) (fun _ _ h => h)).trans (st _ 2 _) (fun _ _ h => h)).trans (st _ 3 _) (fun _ _ h => h)).trans (st _ 4 _) (fun _ _ h => h)).trans (st _ 5 _) (fun _ _ h => h)).trans (st _ 6 _) (fun _ _ h => h)
theorem load_ct {w : World} {b : Nat} {c : Ct} (h : Cb w b c) : (loadVar 25 ⟨b, 0, none⟩).run Try.prog w = .ok c.agg w := by
  have c0 := h.c0
  have c1 := h.c1
  have c2 := h.c2
  have c3 := h.c3
  have c4 := h.c4
  have c5 := h.c5
  have c6 := h.c6
  simp [loadVar, go_sem, c0, c1, c2, c3, c4, c5, c6, Ct.agg]
theorem results_ct {fn : Func} {p u : Tmp} (h : fn.results = #[.cell p 25, .tmp u]) {tmps : Array Value} {w : World} {b : Nat} {c : Ct} (hp : tmps.getD p undef = .pointer (some ⟨b, 0, none⟩)) (hP : Cb w b c) :
    (results fn tmps).run Try.prog w = .ok (.tuple #[c.agg, tmps.getD u undef]) w := by
  have e : (asAddr (.pointer (some ⟨b, 0, none⟩))).run Try.prog w = .ok ⟨b, 0, none⟩ w := rfl
  rw [results_cell_tmp h, hp, e]
  simp only [Result.andThen, load_ct hP]
theorem results_ct1 {fn : Func} {p : Tmp} (h : fn.results = #[.cell p 25]) {tmps : Array Value} {w : World} {b : Nat} {c : Ct} (hp : tmps.getD p undef = .pointer (some ⟨b, 0, none⟩)) (hP : Cb w b c) :
    (results fn tmps).run Try.prog w = .ok c.agg w := by
  have hp' : tmps[p]?.getD undef = .pointer (some ⟨b, 0, none⟩) := by simpa using hp
  simp [results, h, hp', asAddr, load_ct hP]
theorem part_size (s : ByteArray) (i j : Nat) (hj : j ≤ s.size) (hij : i ≤ j) : (s.extract i j).size = j - i := by
  rw [ByteArray.size_extract]
  omega
set_option maxRecDepth 100000 in
set_option maxHeartbeats 3200000 in
theorem read_any (s : ByteArray) (w : World) (h1 : 64 ≤ s.size) : Calls Try.prog 26 #[.string s] w fun e w' => e = .returned (rdC (bl s)).agg ∧ Only (fun _ => False) w w' := by
  obtain ⟨c, hc⟩ : ∃ c, rdC (bl s) = c := ⟨_, rfl⟩
  obtain ⟨T1, hT1⟩ : ∃ T, s.extract 4 8 = T := ⟨_, rfl⟩
  have HG1 : Hid (∀ W, Calls Try.prog 30 #[.string T1] W fun e w' => e = .returned (.int .i64 c.f) ∧ w' = W) := fun W => by
    have h := cof_any T1 W (by rw [← hT1, part_size s 4 8 (by omega) (by omega)]; omega)
    rw [← hT1, ext_blG] at h
    rw [← hT1, ← hc]
    exact h
  obtain ⟨T2, hT2⟩ : ∃ T, s.extract 8 12 = T := ⟨_, rfl⟩
  have HG2 : Hid (∀ W, Calls Try.prog 30 #[.string T2] W fun e w' => e = .returned (.int .i64 c.m) ∧ w' = W) := fun W => by
    have h := cof_any T2 W (by rw [← hT2, part_size s 8 12 (by omega) (by omega)]; omega)
    rw [← hT2, ext_blG] at h
    rw [← hT2, ← hc]
    exact h
  obtain ⟨T3, hT3⟩ : ∃ T, s.extract 12 16 = T := ⟨_, rfl⟩
  have HG3 : Hid (∀ W, Calls Try.prog 30 #[.string T3] W fun e w' => e = .returned (.int .i64 c.l) ∧ w' = W) := fun W => by
    have h := cof_any T3 W (by rw [← hT3, part_size s 12 16 (by omega) (by omega)]; omega)
    rw [← hT3, ext_blG] at h
    rw [← hT3, ← hc]
    exact h
  obtain ⟨T4, hT4⟩ : ∃ T, s.extract 16 20 = T := ⟨_, rfl⟩
  have HG4 : Hid (∀ W, Calls Try.prog 30 #[.string T4] W fun e w' => e = .returned (.int .i64 c.p) ∧ w' = W) := fun W => by
    have h := cof_any T4 W (by rw [← hT4, part_size s 16 20 (by omega) (by omega)]; omega)
    rw [← hT4, ext_blG] at h
    rw [← hT4, ← hc]
    exact h
  obtain ⟨T5, hT5⟩ : ∃ T, s.extract 0 4 = T := ⟨_, rfl⟩
  have HG5 : Hid (∀ W, Calls Try.prog 30 #[.string T5] W fun e w' => e = .returned (.int .i64 c.n) ∧ w' = W) := fun W => by
    have h := cof_any T5 W (by rw [← hT5, part_size s 0 4 (by omega) (by omega)]; omega)
    rw [← hT5, ext_blG] at h
    rw [← hT5, ← hc]
    exact h
  obtain ⟨T6, hT6⟩ : ∃ T, s.extract 20 26 = T := ⟨_, rfl⟩
  have HG6 : Hid (∀ W, Calls Try.prog 30 #[.string T6] W fun e w' => e = .returned (.int .i64 c.s) ∧ w' = W) := fun W => by
    have h := cof_any T6 W (by rw [← hT6, part_size s 20 26 (by omega) (by omega)]; omega)
    rw [← hT6, ext_blG] at h
    rw [← hT6, ← hc]
    exact h
  obtain ⟨T7, hT7⟩ : ∃ T, s.extract 26 32 = T := ⟨_, rfl⟩
  have HG7 : Hid (∀ W, Calls Try.prog 30 #[.string T7] W fun e w' => e = .returned (.int .i64 c.k) ∧ w' = W) := fun W => by
    have h := cof_any T7 W (by rw [← hT7, part_size s 26 32 (by omega) (by omega)]; omega)
    rw [← hT7, ext_blG] at h
    rw [← hT7, ← hc]
    exact h
  rw [hc]
  clear hc
  have HB := hide (Cb.new w noC)
  have HO := hide (onlyA w (.cells #[.int .i64 0, .int .i64 0, .int .i64 0, .int .i64 0, .int .i64 0, .int .i64 0, .int .i64 0] 25))
  have hlt : w.heap.size ≤ w.heap.size := Nat.le_refl _
  have g4 : ¬ (s.size : Int) < 4 := by omega
  have g8 : ¬ (s.size : Int) < 8 := by omega
  have g12 : ¬ (s.size : Int) < 12 := by omega
  have g16 : ¬ (s.size : Int) < 16 := by omega
  have g20 : ¬ (s.size : Int) < 20 := by omega
  have g26 : ¬ (s.size : Int) < 26 := by omega
  have g32 : ¬ (s.size : Int) < 32 := by omega
  unfold noC at HB
  simp only at HB
  obtain ⟨W0, hW0⟩ : ∃ x, w.alloc (.cells #[.int .i64 0, .int .i64 0, .int .i64 0, .int .i64 0, .int .i64 0, .int .i64 0, .int .i64 0] 25) = x := ⟨_, rfl⟩
  rw [hW0] at HB HO
  go_enter Try.func26, Try.ntmps26
  go_upto_region 1 with fail
  clear hW0
  obtain ⟨c0, c1, c2, c3, c4, c5, c6, f0, f1, f2, f3, f4, f5, f6, _⟩ := HB.out
  refine wp_region_noPanic ?_
  refine wp_region_held_drew (S := fun W => Only (fun k => k = w.heap.size) W0 W) (by kernel_rfl) (Only.drew _ _) (fun hHeld => ?_)
  refine wpAnyH_take (i := 0) (oi := { dst := some 3, op := Op.move (Operand.tmp 0), type := 9, pos := "check.go:125", after := #[], guard := none }) (v := .string s) rfl (by kernel_rfl) (by kernel_rfl) (by kernel_rfl) (fun _ _ _ h => h) (Or.inl ⟨by rfl, fun w' hSw => by clear hSw; go_simp⟩) (by assumption) ?_
  simp only [Act.put, List.setIfInBounds_toArray, List.set_cons_zero, List.set_cons_succ]
  refine wpAnyH_take (i := 3) (oi := { dst := some 6, op := Op.move (Operand.tmp 0), type := 9, pos := "check.go:125", after := #[], guard := none }) (v := .string s) rfl (by kernel_rfl) (by kernel_rfl) (by kernel_rfl) (fun _ _ _ h => h) (Or.inl ⟨by rfl, fun w' hSw => by clear hSw; go_simp⟩) (by assumption) ?_
  simp only [Act.put, List.setIfInBounds_toArray, List.set_cons_zero, List.set_cons_succ]
  refine wpAnyH_take (i := 6) (oi := { dst := some 9, op := Op.move (Operand.tmp 0), type := 9, pos := "check.go:125", after := #[], guard := none }) (v := .string s) rfl (by kernel_rfl) (by kernel_rfl) (by kernel_rfl) (fun _ _ _ h => h) (Or.inl ⟨by rfl, fun w' hSw => by clear hSw; go_simp⟩) (by assumption) ?_
  simp only [Act.put, List.setIfInBounds_toArray, List.set_cons_zero, List.set_cons_succ]
  refine wpAnyH_take (i := 9) (oi := { dst := some 12, op := Op.move (Operand.tmp 0), type := 9, pos := "check.go:125", after := #[], guard := none }) (v := .string s) rfl (by kernel_rfl) (by kernel_rfl) (by kernel_rfl) (fun _ _ _ h => h) (Or.inl ⟨by rfl, fun w' hSw => by clear hSw; go_simp⟩) (by assumption) ?_
  simp only [Act.put, List.setIfInBounds_toArray, List.set_cons_zero, List.set_cons_succ]
  refine wpAnyH_take (i := 13) (oi := { dst := some 16, op := Op.move (Operand.tmp 0), type := 9, pos := "check.go:125", after := #[], guard := none }) (v := .string s) rfl (by kernel_rfl) (by kernel_rfl) (by kernel_rfl) (fun _ _ _ h => h) (Or.inl ⟨by rfl, fun w' hSw => by clear hSw; go_simp⟩) (by assumption) ?_
  simp only [Act.put, List.setIfInBounds_toArray, List.set_cons_zero, List.set_cons_succ]
  refine wpAnyH_take (i := 16) (oi := { dst := some 19, op := Op.move (Operand.tmp 0), type := 9, pos := "check.go:125", after := #[], guard := none }) (v := .string s) rfl (by kernel_rfl) (by kernel_rfl) (by kernel_rfl) (fun _ _ _ h => h) (Or.inl ⟨by rfl, fun w' hSw => by clear hSw; go_simp⟩) (by assumption) ?_
  simp only [Act.put, List.setIfInBounds_toArray, List.set_cons_zero, List.set_cons_succ]
  refine wpAnyH_take (i := 19) (oi := { dst := some 22, op := Op.move (Operand.tmp 0), type := 9, pos := "check.go:125", after := #[], guard := none }) (v := .string s) rfl (by kernel_rfl) (by kernel_rfl) (by kernel_rfl) (fun _ _ _ h => h) (Or.inl ⟨by rfl, fun w' hSw => by clear hSw; go_simp⟩) (by assumption) ?_
  simp only [Act.put, List.setIfInBounds_toArray, List.set_cons_zero, List.set_cons_succ]
  refine wpAnyH_take (i := 1) (oi := { dst := some 4, op := Op.slice 9 (Operand.tmp 3) (some (Operand.const (Value.int IntKind.i64 4))) (some (Operand.const (Value.int IntKind.i64 8))) none, type := 9, pos := "check.go:125", after := #[{ on := 0, ground := Ground.data }], guard := none }) (v := .string T1) rfl (by kernel_rfl) (by kernel_rfl) (by kernel_rfl) (fun _ _ _ h => h) (Or.inl ⟨by rfl, fun w' hSw => by clear hSw; go_simp⟩) (by assumption) ?_
  simp only [Act.put, List.setIfInBounds_toArray, List.set_cons_zero, List.set_cons_succ]
  refine wpAnyH_take (i := 4) (oi := { dst := some 7, op := Op.slice 9 (Operand.tmp 6) (some (Operand.const (Value.int IntKind.i64 8))) (some (Operand.const (Value.int IntKind.i64 12))) none, type := 9, pos := "check.go:125", after := #[{ on := 3, ground := Ground.data }], guard := none }) (v := .string T2) rfl (by kernel_rfl) (by kernel_rfl) (by kernel_rfl) (fun _ _ _ h => h) (Or.inl ⟨by rfl, fun w' hSw => by clear hSw; go_simp⟩) (by assumption) ?_
  simp only [Act.put, List.setIfInBounds_toArray, List.set_cons_zero, List.set_cons_succ]
  refine wpAnyH_take (i := 7) (oi := { dst := some 10, op := Op.slice 9 (Operand.tmp 9) (some (Operand.const (Value.int IntKind.i64 12))) (some (Operand.const (Value.int IntKind.i64 16))) none, type := 9, pos := "check.go:125", after := #[{ on := 6, ground := Ground.data }], guard := none }) (v := .string T3) rfl (by kernel_rfl) (by kernel_rfl) (by kernel_rfl) (fun _ _ _ h => h) (Or.inl ⟨by rfl, fun w' hSw => by clear hSw; go_simp⟩) (by assumption) ?_
  simp only [Act.put, List.setIfInBounds_toArray, List.set_cons_zero, List.set_cons_succ]
  refine wpAnyH_take (i := 10) (oi := { dst := some 13, op := Op.slice 9 (Operand.tmp 12) (some (Operand.const (Value.int IntKind.i64 16))) (some (Operand.const (Value.int IntKind.i64 20))) none, type := 9, pos := "check.go:125", after := #[{ on := 9, ground := Ground.data }], guard := none }) (v := .string T4) rfl (by kernel_rfl) (by kernel_rfl) (by kernel_rfl) (fun _ _ _ h => h) (Or.inl ⟨by rfl, fun w' hSw => by clear hSw; go_simp⟩) (by assumption) ?_
  simp only [Act.put, List.setIfInBounds_toArray, List.set_cons_zero, List.set_cons_succ]
  refine wpAnyH_take (i := 14) (oi := { dst := some 17, op := Op.slice 9 (Operand.tmp 16) (some (Operand.const (Value.int IntKind.i64 0))) (some (Operand.const (Value.int IntKind.i64 4))) none, type := 9, pos := "check.go:125", after := #[{ on := 13, ground := Ground.data }], guard := none }) (v := .string T5) rfl (by kernel_rfl) (by kernel_rfl) (by kernel_rfl) (fun _ _ _ h => h) (Or.inl ⟨by rfl, fun w' hSw => by clear hSw; go_simp⟩) (by assumption) ?_
  simp only [Act.put, List.setIfInBounds_toArray, List.set_cons_zero, List.set_cons_succ]
  refine wpAnyH_take (i := 17) (oi := { dst := some 20, op := Op.slice 9 (Operand.tmp 19) (some (Operand.const (Value.int IntKind.i64 20))) (some (Operand.const (Value.int IntKind.i64 26))) none, type := 9, pos := "check.go:125", after := #[{ on := 16, ground := Ground.data }], guard := none }) (v := .string T6) rfl (by kernel_rfl) (by kernel_rfl) (by kernel_rfl) (fun _ _ _ h => h) (Or.inl ⟨by rfl, fun w' hSw => by clear hSw; go_simp⟩) (by assumption) ?_
  simp only [Act.put, List.setIfInBounds_toArray, List.set_cons_zero, List.set_cons_succ]
  refine wpAnyH_take (i := 20) (oi := { dst := some 23, op := Op.slice 9 (Operand.tmp 22) (some (Operand.const (Value.int IntKind.i64 26))) (some (Operand.const (Value.int IntKind.i64 32))) none, type := 9, pos := "check.go:125", after := #[{ on := 19, ground := Ground.data }], guard := none }) (v := .string T7) rfl (by kernel_rfl) (by kernel_rfl) (by kernel_rfl) (fun _ _ _ h => h) (Or.inl ⟨by rfl, fun w' hSw => by clear hSw; go_simp⟩) (by assumption) ?_
  simp only [Act.put, List.setIfInBounds_toArray, List.set_cons_zero, List.set_cons_succ]
  refine wpAnyH_ready (rs := [2]) (by kernel_rfl) (by simp) ?_
  refine AllReadyH.cons (o := { dst := some 5, op := Op.call { callee := Callee.value (Operand.func 30), args := #[Operand.tmp 4], argTypes := #[9] }, type := 3, pos := "check.go:127", after := #[{ on := 1, ground := Ground.data }], guard := none }) rfl (fun K hK => ?_) (AllReadyH.nil)
  go_simp
  refine (HG1.out _).mono ?_
  rintro e y ⟨rfl, hy⟩
  obtain rfl := hy.symm
  clear hy
  refine hK.out _ _ (Only.drew _ _) (fun hHeld => ?_)
  clear hK K
  try simp only [Act.put, List.setIfInBounds_toArray, List.set_cons_zero, List.set_cons_succ]
  refine wpAnyH_ready (rs := [5]) (by kernel_rfl) (by simp) ?_
  refine AllReadyH.cons (o := { dst := some 8, op := Op.call { callee := Callee.value (Operand.func 30), args := #[Operand.tmp 7], argTypes := #[9] }, type := 3, pos := "check.go:128", after := #[{ on := 4, ground := Ground.data }, { on := 2, ground := Ground.chain }], guard := none }) rfl (fun K hK => ?_) (AllReadyH.nil)
  go_simp
  refine (HG2.out _).mono ?_
  rintro e y ⟨rfl, hy⟩
  obtain rfl := hy.symm
  clear hy
  refine hK.out _ _ (Only.drew _ _) (fun hHeld => ?_)
  clear hK K
  try simp only [Act.put, List.setIfInBounds_toArray, List.set_cons_zero, List.set_cons_succ]
  refine wpAnyH_ready (rs := [8]) (by kernel_rfl) (by simp) ?_
  refine AllReadyH.cons (o := { dst := some 11, op := Op.call { callee := Callee.value (Operand.func 30), args := #[Operand.tmp 10], argTypes := #[9] }, type := 3, pos := "check.go:129", after := #[{ on := 7, ground := Ground.data }, { on := 5, ground := Ground.chain }], guard := none }) rfl (fun K hK => ?_) (AllReadyH.nil)
  go_simp
  refine (HG3.out _).mono ?_
  rintro e y ⟨rfl, hy⟩
  obtain rfl := hy.symm
  clear hy
  refine hK.out _ _ (Only.drew _ _) (fun hHeld => ?_)
  clear hK K
  try simp only [Act.put, List.setIfInBounds_toArray, List.set_cons_zero, List.set_cons_succ]
  refine wpAnyH_ready (rs := [11]) (by kernel_rfl) (by simp) ?_
  refine AllReadyH.cons (o := { dst := some 14, op := Op.call { callee := Callee.value (Operand.func 30), args := #[Operand.tmp 13], argTypes := #[9] }, type := 3, pos := "check.go:130", after := #[{ on := 10, ground := Ground.data }, { on := 8, ground := Ground.chain }], guard := none }) rfl (fun K hK => ?_) (AllReadyH.nil)
  go_simp
  refine (HG4.out _).mono ?_
  rintro e y ⟨rfl, hy⟩
  obtain rfl := hy.symm
  clear hy
  refine hK.out _ _ (Only.drew _ _) (fun hHeld => ?_)
  clear hK K
  try simp only [Act.put, List.setIfInBounds_toArray, List.set_cons_zero, List.set_cons_succ]
  refine wpAnyH_take (i := 12) (oi := { dst := some 15, op := Op.build 23 #[(0, Operand.tmp 5), (1, Operand.tmp 8), (2, Operand.tmp 11), (3, Operand.tmp 14)], type := 23, pos := "check.go:125", after := #[{ on := 2, ground := Ground.data }, { on := 5, ground := Ground.data }, { on := 8, ground := Ground.data }, { on := 11, ground := Ground.data }], guard := none }) (v := .agg #[.int .i64 c.f, .int .i64 c.m, .int .i64 c.l, .int .i64 c.p]) rfl (by kernel_rfl) (by kernel_rfl) (by kernel_rfl) (fun _ _ _ h => h) (Or.inl ⟨by rfl, fun w' hSw => by clear hSw; go_simp⟩) (by assumption) ?_
  simp only [Act.put, List.setIfInBounds_toArray, List.set_cons_zero, List.set_cons_succ]
  refine wpAnyH_ready (rs := [15]) (by kernel_rfl) (by simp) ?_
  refine AllReadyH.cons (o := { dst := some 18, op := Op.call { callee := Callee.value (Operand.func 30), args := #[Operand.tmp 17], argTypes := #[9] }, type := 3, pos := "check.go:132", after := #[{ on := 14, ground := Ground.data }, { on := 11, ground := Ground.chain }], guard := none }) rfl (fun K hK => ?_) (AllReadyH.nil)
  go_simp
  refine (HG5.out _).mono ?_
  rintro e y ⟨rfl, hy⟩
  obtain rfl := hy.symm
  clear hy
  refine hK.out _ _ (Only.drew _ _) (fun hHeld => ?_)
  clear hK K
  try simp only [Act.put, List.setIfInBounds_toArray, List.set_cons_zero, List.set_cons_succ]
  refine wpAnyH_ready (rs := [18]) (by kernel_rfl) (by simp) ?_
  refine AllReadyH.cons (o := { dst := some 21, op := Op.call { callee := Callee.value (Operand.func 30), args := #[Operand.tmp 20], argTypes := #[9] }, type := 3, pos := "check.go:133", after := #[{ on := 17, ground := Ground.data }, { on := 15, ground := Ground.chain }], guard := none }) rfl (fun K hK => ?_) (AllReadyH.nil)
  go_simp
  refine (HG6.out _).mono ?_
  rintro e y ⟨rfl, hy⟩
  obtain rfl := hy.symm
  clear hy
  refine hK.out _ _ (Only.drew _ _) (fun hHeld => ?_)
  clear hK K
  try simp only [Act.put, List.setIfInBounds_toArray, List.set_cons_zero, List.set_cons_succ]
  refine wpAnyH_ready (rs := [21]) (by kernel_rfl) (by simp) ?_
  refine AllReadyH.cons (o := { dst := some 24, op := Op.call { callee := Callee.value (Operand.func 30), args := #[Operand.tmp 23], argTypes := #[9] }, type := 3, pos := "check.go:134", after := #[{ on := 20, ground := Ground.data }, { on := 18, ground := Ground.chain }], guard := none }) rfl (fun K hK => ?_) (AllReadyH.nil)
  go_simp
  refine (HG7.out _).mono ?_
  rintro e y ⟨rfl, hy⟩
  obtain rfl := hy.symm
  clear hy
  refine hK.out _ _ (Only.drew _ _) (fun hHeld => ?_)
  clear hK K
  try simp only [Act.put, List.setIfInBounds_toArray, List.set_cons_zero, List.set_cons_succ]
  refine wpAnyH_take (i := 22) (oi := { dst := some 25, op := Op.build 25 #[(0, Operand.tmp 15), (1, Operand.tmp 18), (2, Operand.tmp 21), (3, Operand.tmp 24)], type := 25, pos := "check.go:125", after := #[{ on := 12, ground := Ground.data }, { on := 15, ground := Ground.data }, { on := 18, ground := Ground.data }, { on := 21, ground := Ground.data }], guard := none }) (v := .agg #[.int .i64 c.f, .int .i64 c.m, .int .i64 c.l, .int .i64 c.p, .int .i64 c.n, .int .i64 c.s, .int .i64 c.k]) rfl (by kernel_rfl) (by kernel_rfl) (by kernel_rfl) (fun _ _ _ h => h) (Or.inl ⟨by rfl, fun w' hSw => by clear hSw; go_simp⟩) (by assumption) ?_
  simp only [Act.put, List.setIfInBounds_toArray, List.set_cons_zero, List.set_cons_succ]
  refine wpAnyH_ready (rs := [23]) (by kernel_rfl) (by simp) ?_
  refine AllReadyH.cons (o := { dst := none, op := Op.store 25 (Operand.tmp 2) (Operand.tmp 25), type := 0, pos := "check.go:125", after := #[{ on := 22, ground := Ground.data }, { on := 21, ground := Ground.chain }, { on := 0, ground := Ground.phase }, { on := 1, ground := Ground.phase }, { on := 2, ground := Ground.phase }, { on := 3, ground := Ground.phase }, { on := 4, ground := Ground.phase }, { on := 5, ground := Ground.phase }, { on := 6, ground := Ground.phase }, { on := 7, ground := Ground.phase }, { on := 8, ground := Ground.phase }, { on := 9, ground := Ground.phase }, { on := 10, ground := Ground.phase }, { on := 11, ground := Ground.phase }, { on := 12, ground := Ground.phase }, { on := 13, ground := Ground.phase }, { on := 14, ground := Ground.phase }, { on := 15, ground := Ground.phase }, { on := 16, ground := Ground.phase }, { on := 17, ground := Ground.phase }, { on := 18, ground := Ground.phase }, { on := 19, ground := Ground.phase }, { on := 20, ground := Ground.phase }, { on := 21, ground := Ground.phase }, { on := 22, ground := Ground.phase }], guard := none }) rfl (fun K hK => ?_) (AllReadyH.nil)
  go_simp
  refine hK.out _ _ (((Only.seven _ _ _ _ _ _ _ _ _).trans (Only.drew _ _) (fun _ _ h => h))) (fun hHeld => ?_)
  clear hK K
  try simp only [Act.put, List.setIfInBounds_toArray, List.set_cons_zero, List.set_cons_succ]
  refine wpAnyH_done (by kernel_rfl) ?_ _
  refine NoPanic.normal ?_
  rw [Exit.then]
  go_wp2_with fail
  refine bodyPost_ret (results_ct1 rfl rfl ((HB.out.all c).more (Only.drew (fun _ => False) _))) rfl ?_
  exact ⟨rfl, newer w.heap.size ((Only.seven _ _ _ _ _ _ _ _ _).trans (Only.drew _ _) (fun _ _ h => h)) HO.out hlt⟩
end Go.Proofs.Ytpogphaflhfmbaa
