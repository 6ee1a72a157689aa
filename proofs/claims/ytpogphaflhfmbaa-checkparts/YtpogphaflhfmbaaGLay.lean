/- What lay and Encode do, and the document's Encode. -/
import Derived.Test.YtpogphaflhfmbaaGBig
import Derived.Test.YtpogphaflhfmbaaGWalkB
import Derived.Deep.RegionHeld3
import Derived.Deep.Draws
import Derived.Deep.DeepCutAuto
namespace Go.Proofs.Ytpogphaflhfmbaa
open Go.RowKit

theorem i64_natG {x : Int} (h : 0 ≤ x) : ((x.toNat : Nat) : Int) = x := by omega
theorem yieldsIf_load_cellG {ops : Array Oper} {S : World → Prop} {op : Oper} {a : Act} {v : Value} (hw : Region.wanted op (yielded ops a.tmps) = true) (ty : TypeId) (x : Operand) (ho : op.op = .load ty x)
    (p : Addr) (hx : a.eval x = .pointer (some p)) (hS : ∀ w, S w → w.cell? p = some v) (hl : ∀ w, w.cell? p = some v → (loadVar ty p).run Try.prog w = .ok v w) : YieldsIf Try.prog ops S op v a :=
  .inl ⟨hw, fun w hw' => by
    unfold execOp
    simp only [ho, hx, Instr.loadAt, Instr.sureAddr, Sem.run_bind, Sem.run_pure, Result.andThen_ok, hl w (hS w hw')]⟩
/-- Four numbers in block b. -/
structure Cf (w : World) (b : Nat) (x y z t : Int) : Prop where
  c0 : w.cell? ⟨b, 0, none⟩ = some (.int .i64 x)
  c1 : w.cell? ⟨b, 1, none⟩ = some (.int .i64 y)
  c2 : w.cell? ⟨b, 2, none⟩ = some (.int .i64 z)
  c3 : w.cell? ⟨b, 3, none⟩ = some (.int .i64 t)
  lt : b < w.heap.size
theorem Cf.more {w w' : World} {b : Nat} {x y z t : Int} (h : Cf w b x y z t) (ho : Only (fun _ => False) w w') : Cf w' b x y z t :=
  ⟨(ho.cell (p := ⟨b, 0, none⟩) h.lt (fun h => h)).trans h.c0, (ho.cell (p := ⟨b, 1, none⟩) h.lt (fun h => h)).trans h.c1, (ho.cell (p := ⟨b, 2, none⟩) h.lt (fun h => h)).trans h.c2, (ho.cell (p := ⟨b, 3, none⟩) h.lt (fun h => h)).trans h.c3, Nat.lt_of_lt_of_le h.lt ho.size⟩
theorem Cf.new (w : World) (x y z t : Int) : Cf (w.alloc (.cells #[.int .i64 x, .int .i64 y, .int .i64 z, .int .i64 t] 23)) w.heap.size x y z t := ⟨by simp, by simp, by simp, by simp, by simp⟩
theorem ldG_int {w : World} {p : Addr} {v : Value} (h : w.cell? p = some v) : (loadVar 3 p).run Try.prog w = .ok v w := by simp [loadVar, go_sem, h]
set_option maxRecDepth 100000 in
set_option maxHeartbeats 3200000 in
theorem lay_any (c : Ct) (w : World) (h : c.ok) : Calls Try.prog 21 #[c.agg] w fun e w' => e = .returned (.string (str c.lay)) ∧ Only (fun _ => False) w w' := by
  obtain ⟨⟨⟨f0, f1⟩, ⟨m0, m1⟩, mev, ⟨l0, l1⟩, p0, p1⟩, ⟨n0, n1⟩, ⟨s0, s1⟩, k0, k1⟩ := h
  obtain ⟨Y0, hY0⟩ : ∃ Y, str (bigF 4 c.n.toNat) = Y := ⟨_, rfl⟩
  have sY0 : Y0.size = 4 := by rw [← hY0, str_size, bigF_len]
  obtain ⟨Y1, hY1⟩ : ∃ Y, str (bigF 4 c.f.toNat) = Y := ⟨_, rfl⟩
  have sY1 : Y1.size = 4 := by rw [← hY1, str_size, bigF_len]
  obtain ⟨Y2, hY2⟩ : ∃ Y, str (bigF 4 c.m.toNat) = Y := ⟨_, rfl⟩
  have sY2 : Y2.size = 4 := by rw [← hY2, str_size, bigF_len]
  obtain ⟨Y3, hY3⟩ : ∃ Y, str (bigF 4 c.l.toNat) = Y := ⟨_, rfl⟩
  have sY3 : Y3.size = 4 := by rw [← hY3, str_size, bigF_len]
  obtain ⟨Y4, hY4⟩ : ∃ Y, str (bigF 4 c.p.toNat) = Y := ⟨_, rfl⟩
  have sY4 : Y4.size = 4 := by rw [← hY4, str_size, bigF_len]
  obtain ⟨Y5, hY5⟩ : ∃ Y, str (bigF 6 c.s.toNat) = Y := ⟨_, rfl⟩
  have sY5 : Y5.size = 6 := by rw [← hY5, str_size, bigF_len]
  obtain ⟨Y6, hY6⟩ : ∃ Y, str (bigF 6 c.k.toNat) = Y := ⟨_, rfl⟩
  have sY6 : Y6.size = 6 := by rw [← hY6, str_size, bigF_len]
  obtain ⟨Y7, hY7⟩ : ∃ Y, str (List.replicate 28 0) = Y := ⟨_, rfl⟩
  have sY7 : Y7.size = 28 := by rw [← hY7]; rfl
  obtain ⟨C1, hC1⟩ : ∃ C, Y0 ++ Y1 = C := ⟨_, rfl⟩
  have sC1 : C1.size = 8 := by rw [← hC1, ByteArray.size_append]; omega
  have yC1 : Y0.size + Y1.size ≤ 9223372036854775807 := by omega
  obtain ⟨C2, hC2⟩ : ∃ C, C1 ++ Y2 = C := ⟨_, rfl⟩
  have sC2 : C2.size = 12 := by rw [← hC2, ByteArray.size_append]; omega
  have yC2 : C1.size + Y2.size ≤ 9223372036854775807 := by omega
  obtain ⟨C3, hC3⟩ : ∃ C, C2 ++ Y3 = C := ⟨_, rfl⟩
  have sC3 : C3.size = 16 := by rw [← hC3, ByteArray.size_append]; omega
  have yC3 : C2.size + Y3.size ≤ 9223372036854775807 := by omega
  obtain ⟨C4, hC4⟩ : ∃ C, C3 ++ Y4 = C := ⟨_, rfl⟩
  have sC4 : C4.size = 20 := by rw [← hC4, ByteArray.size_append]; omega
  have yC4 : C3.size + Y4.size ≤ 9223372036854775807 := by omega
  obtain ⟨C5, hC5⟩ : ∃ C, C4 ++ Y5 = C := ⟨_, rfl⟩
  have sC5 : C5.size = 26 := by rw [← hC5, ByteArray.size_append]; omega
  have yC5 : C4.size + Y5.size ≤ 9223372036854775807 := by omega
  obtain ⟨C6, hC6⟩ : ∃ C, C5 ++ Y6 = C := ⟨_, rfl⟩
  have sC6 : C6.size = 32 := by rw [← hC6, ByteArray.size_append]; omega
  have yC6 : C5.size + Y6.size ≤ 9223372036854775807 := by omega
  obtain ⟨C7, hC7⟩ : ∃ C, C6 ++ Y7 = C := ⟨_, rfl⟩
  have sC7 : C7.size = 60 := by rw [← hC7, ByteArray.size_append]; omega
  have yC7 : C6.size + Y7.size ≤ 9223372036854775807 := by omega
  obtain ⟨C8, hC8⟩ : ∃ C, C7 ++ Y0 = C := ⟨_, rfl⟩
  have sC8 : C8.size = 64 := by rw [← hC8, ByteArray.size_append]; omega
  have yC8 : C7.size + Y0.size ≤ 9223372036854775807 := by omega
  have HE : Hid (C8 = str c.lay) := by
    unfold Hid
    rw [← hC8, ← hC7, ← hC6, ← hC5, ← hC4, ← hC3, ← hC2, ← hC1, ← hY0, ← hY1, ← hY2, ← hY3, ← hY4, ← hY5, ← hY6, ← hY7]
    simp only [str_catG]
    unfold Ct.lay
    simp
  have HG0 : Hid (∀ W, Calls Try.prog 28 #[.int .i64 c.n, .int .i64 4] W fun e w' => e = .returned (.string Y0) ∧ Only (fun _ => False) W w') := fun W => by
    have := big_any c.n.toNat 4 W (by omega) (by omega) (by omega)
    rw [i64_natG (by omega)] at this
    rw [← hY0]
    exact this
  have HG1 : Hid (∀ W, Calls Try.prog 28 #[.int .i64 c.f, .int .i64 4] W fun e w' => e = .returned (.string Y1) ∧ Only (fun _ => False) W w') := fun W => by
    have := big_any c.f.toNat 4 W (by omega) (by omega) (by omega)
    rw [i64_natG (by omega)] at this
    rw [← hY1]
    exact this
  have HG2 : Hid (∀ W, Calls Try.prog 28 #[.int .i64 c.m, .int .i64 4] W fun e w' => e = .returned (.string Y2) ∧ Only (fun _ => False) W w') := fun W => by
    have := big_any c.m.toNat 4 W (by omega) (by omega) (by omega)
    rw [i64_natG (by omega)] at this
    rw [← hY2]
    exact this
  have HG3 : Hid (∀ W, Calls Try.prog 28 #[.int .i64 c.l, .int .i64 4] W fun e w' => e = .returned (.string Y3) ∧ Only (fun _ => False) W w') := fun W => by
    have := big_any c.l.toNat 4 W (by omega) (by omega) (by omega)
    rw [i64_natG (by omega)] at this
    rw [← hY3]
    exact this
  have HG4 : Hid (∀ W, Calls Try.prog 28 #[.int .i64 c.p, .int .i64 4] W fun e w' => e = .returned (.string Y4) ∧ Only (fun _ => False) W w') := fun W => by
    have := big_any c.p.toNat 4 W (by omega) (by omega) (by omega)
    rw [i64_natG (by omega)] at this
    rw [← hY4]
    exact this
  have HG5 : Hid (∀ W, Calls Try.prog 28 #[.int .i64 c.s, .int .i64 6] W fun e w' => e = .returned (.string Y5) ∧ Only (fun _ => False) W w') := fun W => by
    have := big_any c.s.toNat 6 W (by omega) (by omega) (by omega)
    rw [i64_natG (by omega)] at this
    rw [← hY5]
    exact this
  have HG6 : Hid (∀ W, Calls Try.prog 28 #[.int .i64 c.k, .int .i64 6] W fun e w' => e = .returned (.string Y6) ∧ Only (fun _ => False) W w') := fun W => by
    have := big_any c.k.toNat 6 W (by omega) (by omega) (by omega)
    rw [i64_natG (by omega)] at this
    rw [← hY6]
    exact this
  have HR : Hid (∀ W, Calls Try.prog 29 #[.string ⟨#[0]⟩, .int .i64 28] W fun e w' => e = .returned (.string Y7) ∧ Only (fun _ => False) W w') := fun W => by
    rw [← hY7]
    exact nought_any W
  clear hY0 hY1 hY2 hY3 hY4 hY5 hY6 hY7 f0 f1 m0 m1 mev l0 l1 p0 p1 n0 n1 s0 s1 k0 k1 sY0 sY1 sY2 sY3 sY4 sY5 sY6 sY7 sC1 sC2 sC3 sC4 sC5 sC6 sC7 sC8
  have HB0 := hide (Cb.new w c)
  unfold Ct.agg
  go_enter Try.func21, Try.ntmps21
  go_wp2_with fail
  refine (HG0.out _).mono ?_
  rintro e W0 ⟨rfl, ho⟩
  have HB := hide (HB0.out.more ho)
  have HO := hide (o2 (onlyA w _) ho)
  clear ho HB0
  go_upto_region 2 with fail
  refine wp_region_noPanic ?_
  refine wp_region_held_drew (S := fun W => Only (fun _ => False) W0 W) (by kernel_rfl) (Only.drew _ _) (fun hHeld => ?_)
  refine wpAnyH_take (i := 0) (oi := { dst := some 7, op := Op.move (Operand.tmp 3), type := 9, pos := "check.go:112", after := #[], guard := none }) (v := .string Y0) rfl (by kernel_rfl) (by kernel_rfl) (by kernel_rfl) (fun _ _ _ h => h) (Or.inl ⟨by rfl, fun w' hSw => by clear hSw; go_simp⟩) (by assumption) ?_
  simp only [Act.put, List.setIfInBounds_toArray, List.set_cons_zero, List.set_cons_succ]
  refine wpAnyH_take (i := 1) (oi := { dst := some 8, op := Op.fieldAddr 25 (Operand.tmp 1) 0, type := 0, pos := "check.go:112", after := #[], guard := none }) (v := .pointer (some ⟨w.heap.size, 0, none⟩)) rfl (by kernel_rfl) (by kernel_rfl) (by kernel_rfl) (fun _ _ _ h => h) (Or.inl ⟨by rfl, fun w' hSw => by clear hSw; go_simp⟩) (by assumption) ?_
  simp only [Act.put, List.setIfInBounds_toArray, List.set_cons_zero, List.set_cons_succ]
  refine wpAnyH_take (i := 6) (oi := { dst := some 13, op := Op.fieldAddr 25 (Operand.tmp 1) 0, type := 0, pos := "check.go:112", after := #[], guard := none }) (v := .pointer (some ⟨w.heap.size, 0, none⟩)) rfl (by kernel_rfl) (by kernel_rfl) (by kernel_rfl) (fun _ _ _ h => h) (Or.inl ⟨by rfl, fun w' hSw => by clear hSw; go_simp⟩) (by assumption) ?_
  simp only [Act.put, List.setIfInBounds_toArray, List.set_cons_zero, List.set_cons_succ]
  refine wpAnyH_take (i := 11) (oi := { dst := some 18, op := Op.fieldAddr 25 (Operand.tmp 1) 0, type := 0, pos := "check.go:112", after := #[], guard := none }) (v := .pointer (some ⟨w.heap.size, 0, none⟩)) rfl (by kernel_rfl) (by kernel_rfl) (by kernel_rfl) (fun _ _ _ h => h) (Or.inl ⟨by rfl, fun w' hSw => by clear hSw; go_simp⟩) (by assumption) ?_
  simp only [Act.put, List.setIfInBounds_toArray, List.set_cons_zero, List.set_cons_succ]
  refine wpAnyH_take (i := 16) (oi := { dst := some 23, op := Op.fieldAddr 25 (Operand.tmp 1) 0, type := 0, pos := "check.go:112", after := #[], guard := none }) (v := .pointer (some ⟨w.heap.size, 0, none⟩)) rfl (by kernel_rfl) (by kernel_rfl) (by kernel_rfl) (fun _ _ _ h => h) (Or.inl ⟨by rfl, fun w' hSw => by clear hSw; go_simp⟩) (by assumption) ?_
  simp only [Act.put, List.setIfInBounds_toArray, List.set_cons_zero, List.set_cons_succ]
  refine wpAnyH_take (i := 21) (oi := { dst := some 28, op := Op.fieldAddr 25 (Operand.tmp 1) 2, type := 0, pos := "check.go:112", after := #[], guard := none }) (v := .pointer (some ⟨w.heap.size, 5, none⟩)) rfl (by kernel_rfl) (by kernel_rfl) (by kernel_rfl) (fun _ _ _ h => h) (Or.inl ⟨by rfl, fun w' hSw => by clear hSw; go_simp⟩) (by assumption) ?_
  simp only [Act.put, List.setIfInBounds_toArray, List.set_cons_zero, List.set_cons_succ]
  refine wpAnyH_take (i := 25) (oi := { dst := some 32, op := Op.fieldAddr 25 (Operand.tmp 1) 3, type := 0, pos := "check.go:112", after := #[], guard := none }) (v := .pointer (some ⟨w.heap.size, 6, none⟩)) rfl (by kernel_rfl) (by kernel_rfl) (by kernel_rfl) (fun _ _ _ h => h) (Or.inl ⟨by rfl, fun w' hSw => by clear hSw; go_simp⟩) (by assumption) ?_
  simp only [Act.put, List.setIfInBounds_toArray, List.set_cons_zero, List.set_cons_succ]
  refine wpAnyH_take (i := 31) (oi := { dst := some 38, op := Op.move (Operand.tmp 3), type := 9, pos := "check.go:112", after := #[], guard := none }) (v := .string Y0) rfl (by kernel_rfl) (by kernel_rfl) (by kernel_rfl) (fun _ _ _ h => h) (Or.inl ⟨by rfl, fun w' hSw => by clear hSw; go_simp⟩) (by assumption) ?_
  simp only [Act.put, List.setIfInBounds_toArray, List.set_cons_zero, List.set_cons_succ]
  refine wpAnyH_take (i := 2) (oi := { dst := some 9, op := Op.fieldAddr 23 (Operand.tmp 8) 0, type := 0, pos := "check.go:112", after := #[{ on := 1, ground := Ground.data }], guard := none }) (v := .pointer (some ⟨w.heap.size, 0, none⟩)) rfl (by kernel_rfl) (by kernel_rfl) (by kernel_rfl) (fun _ _ _ h => h) (Or.inl ⟨by rfl, fun w' hSw => by clear hSw; go_simp⟩) (by assumption) ?_
  simp only [Act.put, List.setIfInBounds_toArray, List.set_cons_zero, List.set_cons_succ]
  refine wpAnyH_take (i := 7) (oi := { dst := some 14, op := Op.fieldAddr 23 (Operand.tmp 13) 1, type := 0, pos := "check.go:112", after := #[{ on := 6, ground := Ground.data }], guard := none }) (v := .pointer (some ⟨w.heap.size, 1, none⟩)) rfl (by kernel_rfl) (by kernel_rfl) (by kernel_rfl) (fun _ _ _ h => h) (Or.inl ⟨by rfl, fun w' hSw => by clear hSw; go_simp⟩) (by assumption) ?_
  simp only [Act.put, List.setIfInBounds_toArray, List.set_cons_zero, List.set_cons_succ]
  refine wpAnyH_take (i := 12) (oi := { dst := some 19, op := Op.fieldAddr 23 (Operand.tmp 18) 2, type := 0, pos := "check.go:112", after := #[{ on := 11, ground := Ground.data }], guard := none }) (v := .pointer (some ⟨w.heap.size, 2, none⟩)) rfl (by kernel_rfl) (by kernel_rfl) (by kernel_rfl) (fun _ _ _ h => h) (Or.inl ⟨by rfl, fun w' hSw => by clear hSw; go_simp⟩) (by assumption) ?_
  simp only [Act.put, List.setIfInBounds_toArray, List.set_cons_zero, List.set_cons_succ]
  refine wpAnyH_take (i := 17) (oi := { dst := some 24, op := Op.fieldAddr 23 (Operand.tmp 23) 3, type := 0, pos := "check.go:112", after := #[{ on := 16, ground := Ground.data }], guard := none }) (v := .pointer (some ⟨w.heap.size, 3, none⟩)) rfl (by kernel_rfl) (by kernel_rfl) (by kernel_rfl) (fun _ _ _ h => h) (Or.inl ⟨by rfl, fun w' hSw => by clear hSw; go_simp⟩) (by assumption) ?_
  simp only [Act.put, List.setIfInBounds_toArray, List.set_cons_zero, List.set_cons_succ]
  refine wpAnyH_take (i := 22) (oi := { dst := some 29, op := Op.load 3 (Operand.tmp 28), type := 3, pos := "check.go:112", after := #[{ on := 21, ground := Ground.data }], guard := none }) (v := .int .i64 c.s) rfl (by kernel_rfl) (by kernel_rfl) (by kernel_rfl) (fun _ _ _ h => h) (yieldsIf_load_cellG (by rfl) 3 _ rfl _ rfl (fun W hW => (HB.out.more hW).c5) (fun W hc => ldG_int hc)) (by assumption) ?_
  simp only [Act.put, List.setIfInBounds_toArray, List.set_cons_zero, List.set_cons_succ]
  refine wpAnyH_take (i := 26) (oi := { dst := some 33, op := Op.load 3 (Operand.tmp 32), type := 3, pos := "check.go:112", after := #[{ on := 25, ground := Ground.data }], guard := none }) (v := .int .i64 c.k) rfl (by kernel_rfl) (by kernel_rfl) (by kernel_rfl) (fun _ _ _ h => h) (yieldsIf_load_cellG (by rfl) 3 _ rfl _ rfl (fun W hW => (HB.out.more hW).c6) (fun W hc => ldG_int hc)) (by assumption) ?_
  simp only [Act.put, List.setIfInBounds_toArray, List.set_cons_zero, List.set_cons_succ]
  refine wpAnyH_take (i := 3) (oi := { dst := some 10, op := Op.load 3 (Operand.tmp 9), type := 3, pos := "check.go:112", after := #[{ on := 2, ground := Ground.data }], guard := none }) (v := .int .i64 c.f) rfl (by kernel_rfl) (by kernel_rfl) (by kernel_rfl) (fun _ _ _ h => h) (yieldsIf_load_cellG (by rfl) 3 _ rfl _ rfl (fun W hW => (HB.out.more hW).c0) (fun W hc => ldG_int hc)) (by assumption) ?_
  simp only [Act.put, List.setIfInBounds_toArray, List.set_cons_zero, List.set_cons_succ]
  refine wpAnyH_take (i := 8) (oi := { dst := some 15, op := Op.load 3 (Operand.tmp 14), type := 3, pos := "check.go:112", after := #[{ on := 7, ground := Ground.data }], guard := none }) (v := .int .i64 c.m) rfl (by kernel_rfl) (by kernel_rfl) (by kernel_rfl) (fun _ _ _ h => h) (yieldsIf_load_cellG (by rfl) 3 _ rfl _ rfl (fun W hW => (HB.out.more hW).c1) (fun W hc => ldG_int hc)) (by assumption) ?_
  simp only [Act.put, List.setIfInBounds_toArray, List.set_cons_zero, List.set_cons_succ]
  refine wpAnyH_take (i := 13) (oi := { dst := some 20, op := Op.load 3 (Operand.tmp 19), type := 3, pos := "check.go:112", after := #[{ on := 12, ground := Ground.data }], guard := none }) (v := .int .i64 c.l) rfl (by kernel_rfl) (by kernel_rfl) (by kernel_rfl) (fun _ _ _ h => h) (yieldsIf_load_cellG (by rfl) 3 _ rfl _ rfl (fun W hW => (HB.out.more hW).c2) (fun W hc => ldG_int hc)) (by assumption) ?_
  simp only [Act.put, List.setIfInBounds_toArray, List.set_cons_zero, List.set_cons_succ]
  refine wpAnyH_take (i := 18) (oi := { dst := some 25, op := Op.load 3 (Operand.tmp 24), type := 3, pos := "check.go:112", after := #[{ on := 17, ground := Ground.data }], guard := none }) (v := .int .i64 c.p) rfl (by kernel_rfl) (by kernel_rfl) (by kernel_rfl) (fun _ _ _ h => h) (yieldsIf_load_cellG (by rfl) 3 _ rfl _ rfl (fun W hW => (HB.out.more hW).c3) (fun W hc => ldG_int hc)) (by assumption) ?_
  simp only [Act.put, List.setIfInBounds_toArray, List.set_cons_zero, List.set_cons_succ]
  refine wpAnyH_ready (rs := [4]) (by kernel_rfl) (by simp) ?_
  refine AllReadyH.cons (o := { dst := some 11, op := Op.call { callee := Callee.value (Operand.func 28), args := #[Operand.tmp 10, Operand.const (Value.int IntKind.i64 4)], argTypes := #[3, 3] }, type := 9, pos := "check.go:113", after := #[{ on := 3, ground := Ground.data }], guard := none }) rfl (fun K hK => ?_) (AllReadyH.nil)
  go_simp
  refine (HG1.out _).mono ?_
  rintro e x1 ⟨rfl, hx1⟩
  have HX1 := hide (o2 (Only.drew _ _) hx1)
  clear hx1
  refine hK.out _ _ (HX1.out) (fun hHeld => ?_)
  clear hK K
  try simp only [Act.put, List.setIfInBounds_toArray, List.set_cons_zero, List.set_cons_succ]
  refine wpAnyH_take (i := 5) (oi := { dst := some 12, op := Op.binOp BinOp.add 9 (Operand.tmp 7) (Operand.tmp 11) 9, type := 9, pos := "check.go:112", after := #[{ on := 0, ground := Ground.data }, { on := 4, ground := Ground.data }], guard := none }) (v := .string C1) rfl (by kernel_rfl) (by kernel_rfl) (by kernel_rfl) (fun _ _ _ h => h) (Or.inl ⟨by rfl, fun w' hSw => by clear hSw; go_simp⟩) (by assumption) ?_
  simp only [Act.put, List.setIfInBounds_toArray, List.set_cons_zero, List.set_cons_succ]
  refine wpAnyH_ready (rs := [9]) (by kernel_rfl) (by simp) ?_
  refine AllReadyH.cons (o := { dst := some 16, op := Op.call { callee := Callee.value (Operand.func 28), args := #[Operand.tmp 15, Operand.const (Value.int IntKind.i64 4)], argTypes := #[3, 3] }, type := 9, pos := "check.go:114", after := #[{ on := 8, ground := Ground.data }, { on := 4, ground := Ground.chain }], guard := none }) rfl (fun K hK => ?_) (AllReadyH.nil)
  go_simp
  refine (HG2.out _).mono ?_
  rintro e x2 ⟨rfl, hx2⟩
  have HX2 := hide (o2 HX1.out hx2)
  clear hx2
  refine hK.out _ _ (HX2.out) (fun hHeld => ?_)
  clear hK K
  try simp only [Act.put, List.setIfInBounds_toArray, List.set_cons_zero, List.set_cons_succ]
  refine wpAnyH_take (i := 10) (oi := { dst := some 17, op := Op.binOp BinOp.add 9 (Operand.tmp 12) (Operand.tmp 16) 9, type := 9, pos := "check.go:112", after := #[{ on := 5, ground := Ground.data }, { on := 9, ground := Ground.data }], guard := none }) (v := .string C2) rfl (by kernel_rfl) (by kernel_rfl) (by kernel_rfl) (fun _ _ _ h => h) (Or.inl ⟨by rfl, fun w' hSw => by clear hSw; go_simp⟩) (by assumption) ?_
  simp only [Act.put, List.setIfInBounds_toArray, List.set_cons_zero, List.set_cons_succ]
  refine wpAnyH_ready (rs := [14]) (by kernel_rfl) (by simp) ?_
  refine AllReadyH.cons (o := { dst := some 21, op := Op.call { callee := Callee.value (Operand.func 28), args := #[Operand.tmp 20, Operand.const (Value.int IntKind.i64 4)], argTypes := #[3, 3] }, type := 9, pos := "check.go:115", after := #[{ on := 13, ground := Ground.data }, { on := 9, ground := Ground.chain }], guard := none }) rfl (fun K hK => ?_) (AllReadyH.nil)
  go_simp
  refine (HG3.out _).mono ?_
  rintro e x3 ⟨rfl, hx3⟩
  have HX3 := hide (o2 HX2.out hx3)
  clear hx3
  refine hK.out _ _ (HX3.out) (fun hHeld => ?_)
  clear hK K
  try simp only [Act.put, List.setIfInBounds_toArray, List.set_cons_zero, List.set_cons_succ]
  refine wpAnyH_take (i := 15) (oi := { dst := some 22, op := Op.binOp BinOp.add 9 (Operand.tmp 17) (Operand.tmp 21) 9, type := 9, pos := "check.go:112", after := #[{ on := 10, ground := Ground.data }, { on := 14, ground := Ground.data }], guard := none }) (v := .string C3) rfl (by kernel_rfl) (by kernel_rfl) (by kernel_rfl) (fun _ _ _ h => h) (Or.inl ⟨by rfl, fun w' hSw => by clear hSw; go_simp⟩) (by assumption) ?_
  simp only [Act.put, List.setIfInBounds_toArray, List.set_cons_zero, List.set_cons_succ]
  refine wpAnyH_ready (rs := [19]) (by kernel_rfl) (by simp) ?_
  refine AllReadyH.cons (o := { dst := some 26, op := Op.call { callee := Callee.value (Operand.func 28), args := #[Operand.tmp 25, Operand.const (Value.int IntKind.i64 4)], argTypes := #[3, 3] }, type := 9, pos := "check.go:116", after := #[{ on := 18, ground := Ground.data }, { on := 14, ground := Ground.chain }], guard := none }) rfl (fun K hK => ?_) (AllReadyH.nil)
  go_simp
  refine (HG4.out _).mono ?_
  rintro e x4 ⟨rfl, hx4⟩
  have HX4 := hide (o2 HX3.out hx4)
  clear hx4
  refine hK.out _ _ (HX4.out) (fun hHeld => ?_)
  clear hK K
  try simp only [Act.put, List.setIfInBounds_toArray, List.set_cons_zero, List.set_cons_succ]
  refine wpAnyH_take (i := 20) (oi := { dst := some 27, op := Op.binOp BinOp.add 9 (Operand.tmp 22) (Operand.tmp 26) 9, type := 9, pos := "check.go:112", after := #[{ on := 15, ground := Ground.data }, { on := 19, ground := Ground.data }], guard := none }) (v := .string C4) rfl (by kernel_rfl) (by kernel_rfl) (by kernel_rfl) (fun _ _ _ h => h) (Or.inl ⟨by rfl, fun w' hSw => by clear hSw; go_simp⟩) (by assumption) ?_
  simp only [Act.put, List.setIfInBounds_toArray, List.set_cons_zero, List.set_cons_succ]
  refine wpAnyH_ready (rs := [23]) (by kernel_rfl) (by simp) ?_
  refine AllReadyH.cons (o := { dst := some 30, op := Op.call { callee := Callee.value (Operand.func 28), args := #[Operand.tmp 29, Operand.const (Value.int IntKind.i64 6)], argTypes := #[3, 3] }, type := 9, pos := "check.go:117", after := #[{ on := 22, ground := Ground.data }, { on := 19, ground := Ground.chain }], guard := none }) rfl (fun K hK => ?_) (AllReadyH.nil)
  go_simp
  refine (HG5.out _).mono ?_
  rintro e x5 ⟨rfl, hx5⟩
  have HX5 := hide (o2 HX4.out hx5)
  clear hx5
  refine hK.out _ _ (HX5.out) (fun hHeld => ?_)
  clear hK K
  try simp only [Act.put, List.setIfInBounds_toArray, List.set_cons_zero, List.set_cons_succ]
  refine wpAnyH_take (i := 24) (oi := { dst := some 31, op := Op.binOp BinOp.add 9 (Operand.tmp 27) (Operand.tmp 30) 9, type := 9, pos := "check.go:112", after := #[{ on := 20, ground := Ground.data }, { on := 23, ground := Ground.data }], guard := none }) (v := .string C5) rfl (by kernel_rfl) (by kernel_rfl) (by kernel_rfl) (fun _ _ _ h => h) (Or.inl ⟨by rfl, fun w' hSw => by clear hSw; go_simp⟩) (by assumption) ?_
  simp only [Act.put, List.setIfInBounds_toArray, List.set_cons_zero, List.set_cons_succ]
  refine wpAnyH_ready (rs := [27]) (by kernel_rfl) (by simp) ?_
  refine AllReadyH.cons (o := { dst := some 34, op := Op.call { callee := Callee.value (Operand.func 28), args := #[Operand.tmp 33, Operand.const (Value.int IntKind.i64 6)], argTypes := #[3, 3] }, type := 9, pos := "check.go:118", after := #[{ on := 26, ground := Ground.data }, { on := 23, ground := Ground.chain }], guard := none }) rfl (fun K hK => ?_) (AllReadyH.nil)
  go_simp
  refine (HG6.out _).mono ?_
  rintro e x6 ⟨rfl, hx6⟩
  have HX6 := hide (o2 HX5.out hx6)
  clear hx6
  refine hK.out _ _ (HX6.out) (fun hHeld => ?_)
  clear hK K
  try simp only [Act.put, List.setIfInBounds_toArray, List.set_cons_zero, List.set_cons_succ]
  refine wpAnyH_take (i := 28) (oi := { dst := some 35, op := Op.binOp BinOp.add 9 (Operand.tmp 31) (Operand.tmp 34) 9, type := 9, pos := "check.go:112", after := #[{ on := 24, ground := Ground.data }, { on := 27, ground := Ground.data }], guard := none }) (v := .string C6) rfl (by kernel_rfl) (by kernel_rfl) (by kernel_rfl) (fun _ _ _ h => h) (Or.inl ⟨by rfl, fun w' hSw => by clear hSw; go_simp⟩) (by assumption) ?_
  simp only [Act.put, List.setIfInBounds_toArray, List.set_cons_zero, List.set_cons_succ]
  refine wpAnyH_ready (rs := [29]) (by kernel_rfl) (by simp) ?_
  refine AllReadyH.cons (o := { dst := some 36, op := Op.call { callee := Callee.value (Operand.func 29), args := #[Operand.const (Value.string { data := #[0] }), Operand.const (Value.int IntKind.i64 28)], argTypes := #[9, 3] }, type := 9, pos := "check.go:119", after := #[{ on := 27, ground := Ground.chain }], guard := none }) rfl (fun K hK => ?_) (AllReadyH.nil)
  go_simp
  refine (HR.out _).mono ?_
  rintro e x7 ⟨rfl, hx7⟩
  have HX7 := hide (o2 HX6.out hx7)
  clear hx7
  refine hK.out _ _ (HX7.out) (fun hHeld => ?_)
  clear hK K
  try simp only [Act.put, List.setIfInBounds_toArray, List.set_cons_zero, List.set_cons_succ]
  refine wpAnyH_take (i := 30) (oi := { dst := some 37, op := Op.binOp BinOp.add 9 (Operand.tmp 35) (Operand.tmp 36) 9, type := 9, pos := "check.go:112", after := #[{ on := 28, ground := Ground.data }, { on := 29, ground := Ground.data }], guard := none }) (v := .string C7) rfl (by kernel_rfl) (by kernel_rfl) (by kernel_rfl) (fun _ _ _ h => h) (Or.inl ⟨by rfl, fun w' hSw => by clear hSw; go_simp⟩) (by assumption) ?_
  simp only [Act.put, List.setIfInBounds_toArray, List.set_cons_zero, List.set_cons_succ]
  refine wpAnyH_take (i := 32) (oi := { dst := some 39, op := Op.binOp BinOp.add 9 (Operand.tmp 37) (Operand.tmp 38) 9, type := 9, pos := "check.go:112", after := #[{ on := 30, ground := Ground.data }, { on := 31, ground := Ground.data }], guard := none }) (v := .string C8) rfl (by kernel_rfl) (by kernel_rfl) (by kernel_rfl) (fun _ _ _ h => h) (Or.inl ⟨by rfl, fun w' hSw => by clear hSw; go_simp⟩) (by assumption) ?_
  simp only [Act.put, List.setIfInBounds_toArray, List.set_cons_zero, List.set_cons_succ]
  refine wpAnyH_take (i := 33) (oi := { dst := some 2, op := Op.assign (Operand.tmp 39), type := 9, pos := "check.go:112", after := #[{ on := 32, ground := Ground.data }, { on := 29, ground := Ground.chain }, { on := 0, ground := Ground.phase }, { on := 1, ground := Ground.phase }, { on := 2, ground := Ground.phase }, { on := 3, ground := Ground.phase }, { on := 4, ground := Ground.phase }, { on := 5, ground := Ground.phase }, { on := 6, ground := Ground.phase }, { on := 7, ground := Ground.phase }, { on := 8, ground := Ground.phase }, { on := 9, ground := Ground.phase }, { on := 10, ground := Ground.phase }, { on := 11, ground := Ground.phase }, { on := 12, ground := Ground.phase }, { on := 13, ground := Ground.phase }, { on := 14, ground := Ground.phase }, { on := 15, ground := Ground.phase }, { on := 16, ground := Ground.phase }, { on := 17, ground := Ground.phase }, { on := 18, ground := Ground.phase }, { on := 19, ground := Ground.phase }, { on := 20, ground := Ground.phase }, { on := 21, ground := Ground.phase }, { on := 22, ground := Ground.phase }, { on := 23, ground := Ground.phase }, { on := 24, ground := Ground.phase }, { on := 25, ground := Ground.phase }, { on := 26, ground := Ground.phase }, { on := 27, ground := Ground.phase }, { on := 28, ground := Ground.phase }, { on := 29, ground := Ground.phase }, { on := 30, ground := Ground.phase }, { on := 31, ground := Ground.phase }, { on := 32, ground := Ground.phase }], guard := none }) (v := .string C8) rfl (by kernel_rfl) (by kernel_rfl) (by kernel_rfl) (fun _ _ _ h => h) (Or.inl ⟨by rfl, fun w' hSw => by clear hSw; go_simp⟩) (by assumption) ?_
  simp only [Act.put, List.setIfInBounds_toArray, List.set_cons_zero, List.set_cons_succ]
  refine wpAnyH_done (by kernel_rfl) ?_ _
  refine NoPanic.normal ?_
  rw [Exit.then]
  go_wp2_with fail
  go_ret
  exact ⟨by simp [HE.out], o2 HO.out HX7.out⟩
/-- What Encode answers. -/
def Ct.out (c : Ct) : Value := if c.ok then .tuple #[.string (str c.lay), .int .i64 0] else .tuple #[.string ⟨#[]⟩, .int .i64 1]
set_option maxRecDepth 100000 in
set_option maxHeartbeats 1600000 in
theorem encode_any (c : Ct) (w : World) : Calls Try.prog 7 #[c.agg] w fun e w' => e = .returned c.out ∧ Only (fun _ => False) w w' := by
  have HI := hide (fun W => isControl_any c W)
  have HC : Hid (∀ W, Only (fun _ => False) (w.alloc (.cells #[.int .i64 c.f, .int .i64 c.m, .int .i64 c.l, .int .i64 c.p, .int .i64 c.n, .int .i64 c.s, .int .i64 c.k] 25)) W → Cb W w.heap.size c) := fun W h => (Cb.new w c).more h
  by_cases h : c.ok
  · have HL := hide (fun W => lay_any c W h)
    have hr : c.out = .tuple #[.string (str c.lay), .int .i64 0] := if_pos h
    rw [hr]
    simp only [decide_eq_true h] at HI
    clear hr h
    obtain ⟨L, hL⟩ : ∃ L, str c.lay = L := ⟨_, rfl⟩
    rw [hL] at HL ⊢
    clear hL
    unfold Ct.agg at HI HL ⊢
    go_enter Try.func7, Try.ntmps7
    go_wp2_with fail
    refine (HI.out _).mono ?_
    rintro e w1 ⟨rfl, ho1⟩
    have HO := hide (o2 (onlyA _ _) ho1)
    obtain ⟨c0, c1, c2, c3, c4, c5, c6, _, _, _, _, _, _, _, _⟩ := HC.out w1 ho1
    clear ho1
    go_wp2_with fail
    refine (HL.out _).mono ?_
    rintro e w2 ⟨rfl, ho2⟩
    have HO2 := hide (o2 HO.out ho2)
    clear ho2 c0 c1 c2 c3 c4 c5 c6
    go_wp2_with fail
    go_ret2
    exact ⟨rfl, HO2.out⟩
  · have hr : c.out = .tuple #[.string ⟨#[]⟩, .int .i64 1] := if_neg h
    rw [hr]
    simp only [decide_eq_false h] at HI
    clear hr h
    unfold Ct.agg at HI ⊢
    go_enter Try.func7, Try.ntmps7
    go_wp2_with fail
    refine (HI.out _).mono ?_
    rintro e w1 ⟨rfl, ho1⟩
    have HO := hide (o2 (onlyA _ _) ho1)
    clear ho1
    go_wp2_with fail
    go_ret2
    exact ⟨rfl, HO.out⟩
set_option maxRecDepth 100000 in
set_option maxHeartbeats 1600000 in
theorem rencode_bad (c : Ct) (w : World) (h : ¬ c.ok) : Calls Try.prog 8 #[c.agg] w fun e w' => e = .returned c.out ∧ Only (fun _ => False) w w' := by
  have hr : c.out = .tuple #[.string ⟨#[]⟩, .int .i64 1] := if_neg h
  rw [hr]
  have HS := hide (fun W => rsound_any c.f c.m c.l c.p W)
  have HN := hide (fun W => rwithin_any c.n 1 4294967295 W)
  have HT := hide (fun W => rwithin_any c.s 1 281474976710655 W)
  have HK := hide (fun W => rwithin_any c.k 0 281474976710655 W)
  have HC : Hid (∀ W, Only (fun _ => False) (w.alloc (.cells #[.int .i64 c.f, .int .i64 c.m, .int .i64 c.l, .int .i64 c.p, .int .i64 c.n, .int .i64 c.s, .int .i64 c.k] 25)) W → Cb W w.heap.size c) := fun W h => (Cb.new w c).more h
  by_cases h0 : Snd c.f c.m c.l c.p
  · by_cases h1 : Wi c.n 1 4294967295
    · by_cases h2 : Wi c.s 1 281474976710655
      · by_cases h3 : Wi c.k 0 281474976710655
        · exact absurd ⟨h0, h1, h2, h3⟩ h
        · simp only [decide_eq_true h0] at HS
          simp only [decide_eq_true h1] at HN
          simp only [decide_eq_true h2] at HT
          simp only [decide_eq_false h3] at HK
          clear hr h h0 h1 h2 h3
          unfold Ct.agg
          go_enter Try.func8, Try.ntmps8
          go_wp2_with fail
          refine (HS.out _).mono ?_
          rintro e w1 ⟨rfl, ho1⟩
          have HCB := hide (HC.out w1 ho1)
          have HO := hide (o2 (onlyA _ _) ho1)
          obtain ⟨c0, c1, c2, c3, c4, c5, c6, _, _, _, _, _, _, _, _⟩ := HCB.out
          clear ho1
          go_wp2_with fail
          refine (HN.out _).mono ?_
          rintro e w2 ⟨rfl, hw⟩
          obtain rfl := hw.symm
          clear hw
          go_wp2_with fail
          refine (HT.out _).mono ?_
          rintro e w2 ⟨rfl, hw⟩
          obtain rfl := hw.symm
          clear hw
          go_wp2_with fail
          refine (HK.out _).mono ?_
          rintro e w2 ⟨rfl, hw⟩
          obtain rfl := hw.symm
          clear hw
          clear c0 c1 c2 c3 c4 c5 c6
          go_wp2_with fail
          go_ret2
          exact ⟨rfl, HO.out⟩
      · simp only [decide_eq_true h0] at HS
        simp only [decide_eq_true h1] at HN
        simp only [decide_eq_false h2] at HT
        clear hr h h0 h1 h2
        unfold Ct.agg
        go_enter Try.func8, Try.ntmps8
        go_wp2_with fail
        refine (HS.out _).mono ?_
        rintro e w1 ⟨rfl, ho1⟩
        have HCB := hide (HC.out w1 ho1)
        have HO := hide (o2 (onlyA _ _) ho1)
        obtain ⟨c0, c1, c2, c3, c4, c5, c6, _, _, _, _, _, _, _, _⟩ := HCB.out
        clear ho1
        go_wp2_with fail
        refine (HN.out _).mono ?_
        rintro e w2 ⟨rfl, hw⟩
        obtain rfl := hw.symm
        clear hw
        go_wp2_with fail
        refine (HT.out _).mono ?_
        rintro e w2 ⟨rfl, hw⟩
        obtain rfl := hw.symm
        clear hw
        clear c0 c1 c2 c3 c4 c5 c6
        go_wp2_with fail
        go_ret2
        exact ⟨rfl, HO.out⟩
    · simp only [decide_eq_true h0] at HS
      simp only [decide_eq_false h1] at HN
      clear hr h h0 h1
      unfold Ct.agg
      go_enter Try.func8, Try.ntmps8
      go_wp2_with fail
      refine (HS.out _).mono ?_
      rintro e w1 ⟨rfl, ho1⟩
      have HCB := hide (HC.out w1 ho1)
      have HO := hide (o2 (onlyA _ _) ho1)
      obtain ⟨c0, c1, c2, c3, c4, c5, c6, _, _, _, _, _, _, _, _⟩ := HCB.out
      clear ho1
      go_wp2_with fail
      refine (HN.out _).mono ?_
      rintro e w2 ⟨rfl, hw⟩
      obtain rfl := hw.symm
      clear hw
      clear c0 c1 c2 c3 c4 c5 c6
      go_wp2_with fail
      go_ret2
      exact ⟨rfl, HO.out⟩
  · simp only [decide_eq_false h0] at HS
    clear hr h h0
    unfold Ct.agg
    go_enter Try.func8, Try.ntmps8
    go_wp2_with fail
    refine (HS.out _).mono ?_
    rintro e w1 ⟨rfl, ho1⟩
    have HCB := hide (HC.out w1 ho1)
    have HO := hide (o2 (onlyA _ _) ho1)
    obtain ⟨c0, c1, c2, c3, c4, c5, c6, _, _, _, _, _, _, _, _⟩ := HCB.out
    clear ho1
    clear c0 c1 c2 c3 c4 c5 c6
    go_wp2_with fail
    go_ret2
    exact ⟨rfl, HO.out⟩
set_option maxRecDepth 100000 in
set_option maxHeartbeats 3200000 in
theorem rencode_ok (c : Ct) (w : World) (h : c.ok) : Calls Try.prog 8 #[c.agg] w fun e w' => e = .returned c.out ∧ Only (fun _ => False) w w' := by
  have hr : c.out = .tuple #[.string (str c.lay), .int .i64 0] := if_pos h
  rw [hr]
  have HS := hide (fun W => rsound_any c.f c.m c.l c.p W)
  have HN := hide (fun W => rwithin_any c.n 1 4294967295 W)
  have HT := hide (fun W => rwithin_any c.s 1 281474976710655 W)
  have HK := hide (fun W => rwithin_any c.k 0 281474976710655 W)
  have HC : Hid (∀ W, Only (fun _ => False) (w.alloc (.cells #[.int .i64 c.f, .int .i64 c.m, .int .i64 c.l, .int .i64 c.p, .int .i64 c.n, .int .i64 c.s, .int .i64 c.k] 25)) W → Cb W w.heap.size c) := fun W h => (Cb.new w c).more h
  simp only [decide_eq_true h.1] at HS
  simp only [decide_eq_true h.2.1] at HN
  simp only [decide_eq_true h.2.2.1] at HT
  simp only [decide_eq_true h.2.2.2] at HK
  clear hr
  obtain ⟨⟨⟨f0, f1⟩, ⟨m0, m1⟩, mev, ⟨l0, l1⟩, p0, p1⟩, ⟨n0, n1⟩, ⟨s0, s1⟩, k0, k1⟩ := h
  obtain ⟨Y0, hY0⟩ : ∃ Y, str (bigF 4 c.n.toNat) = Y := ⟨_, rfl⟩
  have sY0 : Y0.size = 4 := by rw [← hY0, str_size, bigF_len]
  obtain ⟨Y1, hY1⟩ : ∃ Y, str (bigF 4 c.f.toNat) = Y := ⟨_, rfl⟩
  have sY1 : Y1.size = 4 := by rw [← hY1, str_size, bigF_len]
  obtain ⟨Y2, hY2⟩ : ∃ Y, str (bigF 4 c.m.toNat) = Y := ⟨_, rfl⟩
  have sY2 : Y2.size = 4 := by rw [← hY2, str_size, bigF_len]
  obtain ⟨Y3, hY3⟩ : ∃ Y, str (bigF 4 c.l.toNat) = Y := ⟨_, rfl⟩
  have sY3 : Y3.size = 4 := by rw [← hY3, str_size, bigF_len]
  obtain ⟨Y4, hY4⟩ : ∃ Y, str (bigF 4 c.p.toNat) = Y := ⟨_, rfl⟩
  have sY4 : Y4.size = 4 := by rw [← hY4, str_size, bigF_len]
  obtain ⟨Y5, hY5⟩ : ∃ Y, str (bigF 6 c.s.toNat) = Y := ⟨_, rfl⟩
  have sY5 : Y5.size = 6 := by rw [← hY5, str_size, bigF_len]
  obtain ⟨Y6, hY6⟩ : ∃ Y, str (bigF 6 c.k.toNat) = Y := ⟨_, rfl⟩
  have sY6 : Y6.size = 6 := by rw [← hY6, str_size, bigF_len]
  obtain ⟨Y7, hY7⟩ : ∃ Y, str (List.replicate 28 0) = Y := ⟨_, rfl⟩
  have sY7 : Y7.size = 28 := by rw [← hY7]; rfl
  obtain ⟨C1, hC1⟩ : ∃ C, Y0 ++ Y1 = C := ⟨_, rfl⟩
  have sC1 : C1.size = 8 := by rw [← hC1, ByteArray.size_append]; omega
  have yC1 : Y0.size + Y1.size ≤ 9223372036854775807 := by omega
  obtain ⟨C2, hC2⟩ : ∃ C, C1 ++ Y2 = C := ⟨_, rfl⟩
  have sC2 : C2.size = 12 := by rw [← hC2, ByteArray.size_append]; omega
  have yC2 : C1.size + Y2.size ≤ 9223372036854775807 := by omega
  obtain ⟨C3, hC3⟩ : ∃ C, C2 ++ Y3 = C := ⟨_, rfl⟩
  have sC3 : C3.size = 16 := by rw [← hC3, ByteArray.size_append]; omega
  have yC3 : C2.size + Y3.size ≤ 9223372036854775807 := by omega
  obtain ⟨C4, hC4⟩ : ∃ C, C3 ++ Y4 = C := ⟨_, rfl⟩
  have sC4 : C4.size = 20 := by rw [← hC4, ByteArray.size_append]; omega
  have yC4 : C3.size + Y4.size ≤ 9223372036854775807 := by omega
  obtain ⟨C5, hC5⟩ : ∃ C, C4 ++ Y5 = C := ⟨_, rfl⟩
  have sC5 : C5.size = 26 := by rw [← hC5, ByteArray.size_append]; omega
  have yC5 : C4.size + Y5.size ≤ 9223372036854775807 := by omega
  obtain ⟨C6, hC6⟩ : ∃ C, C5 ++ Y6 = C := ⟨_, rfl⟩
  have sC6 : C6.size = 32 := by rw [← hC6, ByteArray.size_append]; omega
  have yC6 : C5.size + Y6.size ≤ 9223372036854775807 := by omega
  obtain ⟨C7, hC7⟩ : ∃ C, C6 ++ Y7 = C := ⟨_, rfl⟩
  have sC7 : C7.size = 60 := by rw [← hC7, ByteArray.size_append]; omega
  have yC7 : C6.size + Y7.size ≤ 9223372036854775807 := by omega
  obtain ⟨C8, hC8⟩ : ∃ C, C7 ++ Y0 = C := ⟨_, rfl⟩
  have sC8 : C8.size = 64 := by rw [← hC8, ByteArray.size_append]; omega
  have yC8 : C7.size + Y0.size ≤ 9223372036854775807 := by omega
  have HE : Hid (C8 = str c.lay) := by
    unfold Hid
    rw [← hC8, ← hC7, ← hC6, ← hC5, ← hC4, ← hC3, ← hC2, ← hC1, ← hY0, ← hY1, ← hY2, ← hY3, ← hY4, ← hY5, ← hY6, ← hY7]
    simp only [str_catG]
    unfold Ct.lay
    simp
  have HG0 : Hid (∀ W, Calls Try.prog 23 #[.int .i64 c.n, .int .i64 4] W fun e w' => e = .returned (.string Y0) ∧ Only (fun _ => False) W w') := fun W => by
    have := rbig_any c.n.toNat 4 W (by omega) (by omega)
    rw [i64_natG (by omega)] at this
    rw [← hY0]
    exact this
  have HG1 : Hid (∀ W, Calls Try.prog 23 #[.int .i64 c.f, .int .i64 4] W fun e w' => e = .returned (.string Y1) ∧ Only (fun _ => False) W w') := fun W => by
    have := rbig_any c.f.toNat 4 W (by omega) (by omega)
    rw [i64_natG (by omega)] at this
    rw [← hY1]
    exact this
  have HG2 : Hid (∀ W, Calls Try.prog 23 #[.int .i64 c.m, .int .i64 4] W fun e w' => e = .returned (.string Y2) ∧ Only (fun _ => False) W w') := fun W => by
    have := rbig_any c.m.toNat 4 W (by omega) (by omega)
    rw [i64_natG (by omega)] at this
    rw [← hY2]
    exact this
  have HG3 : Hid (∀ W, Calls Try.prog 23 #[.int .i64 c.l, .int .i64 4] W fun e w' => e = .returned (.string Y3) ∧ Only (fun _ => False) W w') := fun W => by
    have := rbig_any c.l.toNat 4 W (by omega) (by omega)
    rw [i64_natG (by omega)] at this
    rw [← hY3]
    exact this
  have HG4 : Hid (∀ W, Calls Try.prog 23 #[.int .i64 c.p, .int .i64 4] W fun e w' => e = .returned (.string Y4) ∧ Only (fun _ => False) W w') := fun W => by
    have := rbig_any c.p.toNat 4 W (by omega) (by omega)
    rw [i64_natG (by omega)] at this
    rw [← hY4]
    exact this
  have HG5 : Hid (∀ W, Calls Try.prog 23 #[.int .i64 c.s, .int .i64 6] W fun e w' => e = .returned (.string Y5) ∧ Only (fun _ => False) W w') := fun W => by
    have := rbig_any c.s.toNat 6 W (by omega) (by omega)
    rw [i64_natG (by omega)] at this
    rw [← hY5]
    exact this
  have HG6 : Hid (∀ W, Calls Try.prog 23 #[.int .i64 c.k, .int .i64 6] W fun e w' => e = .returned (.string Y6) ∧ Only (fun _ => False) W w') := fun W => by
    have := rbig_any c.k.toNat 6 W (by omega) (by omega)
    rw [i64_natG (by omega)] at this
    rw [← hY6]
    exact this
  have HR : Hid (∀ W, Calls Try.prog 23 #[.int .i64 0, .int .i64 28] W fun e w' => e = .returned (.string Y7) ∧ Only (fun _ => False) W w') := fun W => by
    rw [← hY7, ← big_zero]
    exact rbig_any 0 28 W (by omega) (by omega)
  clear hY0 hY1 hY2 hY3 hY4 hY5 hY6 hY7 f0 f1 m0 m1 mev l0 l1 p0 p1 n0 n1 s0 s1 k0 k1 sY0 sY1 sY2 sY3 sY4 sY5 sY6 sY7 sC1 sC2 sC3 sC4 sC5 sC6 sC7 sC8
  unfold Ct.agg
  go_enter Try.func8, Try.ntmps8
  go_wp2_with fail
  refine (HS.out _).mono ?_
  rintro e w1 ⟨rfl, ho1⟩
  have HCB := hide (HC.out w1 ho1)
  have HO := hide (o2 (onlyA _ _) ho1)
  obtain ⟨c0, c1, c2, c3, c4, c5, c6, _, _, _, _, _, _, _, _⟩ := HCB.out
  clear ho1
  go_wp2_with fail
  refine (HN.out _).mono ?_
  rintro e w2 ⟨rfl, hw⟩
  obtain rfl := hw.symm
  clear hw
  go_wp2_with fail
  refine (HT.out _).mono ?_
  rintro e w2 ⟨rfl, hw⟩
  obtain rfl := hw.symm
  clear hw
  go_wp2_with fail
  refine (HK.out _).mono ?_
  rintro e w2 ⟨rfl, hw⟩
  obtain rfl := hw.symm
  clear hw
  have HB2 : Hid (∀ W, Only (fun _ => False) (w1.alloc (.cells #[.int .i64 c.f, .int .i64 c.m, .int .i64 c.l, .int .i64 c.p] 23)) W → Cf W w1.heap.size c.f c.m c.l c.p) := fun W h => (Cf.new w1 c.f c.m c.l c.p).more h
  have HO2 := hide (onlyA w1 (.cells #[.int .i64 c.f, .int .i64 c.m, .int .i64 c.l, .int .i64 c.p] 23))
  go_upto_region 4 with fail
  clear c0 c1 c2 c3 c4 c5 c6
  obtain ⟨W0, hW0⟩ : ∃ x, w1.alloc (.cells #[.int .i64 c.f, .int .i64 c.m, .int .i64 c.l, .int .i64 c.p] 23) = x := ⟨_, rfl⟩
  rw [hW0] at HB2 HO2 ⊢
  have HB := hide (HCB.out.more HO2.out)
  have HF := hide (HB2.out W0 (Only.refl _ _))
  clear hW0 HB2 HCB
  refine wp_region_noPanic ?_
  refine wp_region_held_drew (S := fun W => Only (fun _ => False) W0 W) (by kernel_rfl) (Only.drew _ _) (fun hHeld => ?_)
  refine wpAnyH_take (i := 0) (oi := { dst := some 30, op := Op.fieldAddr 25 (Operand.tmp 1) 1, type := 0, pos := "ref.go:47", after := #[], guard := none }) (v := .pointer (some ⟨w.heap.size, 4, none⟩)) rfl (by kernel_rfl) (by kernel_rfl) (by kernel_rfl) (fun _ _ _ h => h) (Or.inl ⟨by rfl, fun w' hSw => by clear hSw; go_simp⟩) (by assumption) ?_
  simp only [Act.put, List.setIfInBounds_toArray, List.set_cons_zero, List.set_cons_succ]
  refine wpAnyH_take (i := 3) (oi := { dst := some 33, op := Op.fieldAddr 23 (Operand.tmp 4) 0, type := 0, pos := "ref.go:47", after := #[], guard := none }) (v := .pointer (some ⟨w1.heap.size, 0, none⟩)) rfl (by kernel_rfl) (by kernel_rfl) (by kernel_rfl) (fun _ _ _ h => h) (Or.inl ⟨by rfl, fun w' hSw => by clear hSw; go_simp⟩) (by assumption) ?_
  simp only [Act.put, List.setIfInBounds_toArray, List.set_cons_zero, List.set_cons_succ]
  refine wpAnyH_take (i := 7) (oi := { dst := some 37, op := Op.fieldAddr 23 (Operand.tmp 4) 1, type := 0, pos := "ref.go:47", after := #[], guard := none }) (v := .pointer (some ⟨w1.heap.size, 1, none⟩)) rfl (by kernel_rfl) (by kernel_rfl) (by kernel_rfl) (fun _ _ _ h => h) (Or.inl ⟨by rfl, fun w' hSw => by clear hSw; go_simp⟩) (by assumption) ?_
  simp only [Act.put, List.setIfInBounds_toArray, List.set_cons_zero, List.set_cons_succ]
  refine wpAnyH_take (i := 11) (oi := { dst := some 41, op := Op.fieldAddr 23 (Operand.tmp 4) 2, type := 0, pos := "ref.go:47", after := #[], guard := none }) (v := .pointer (some ⟨w1.heap.size, 2, none⟩)) rfl (by kernel_rfl) (by kernel_rfl) (by kernel_rfl) (fun _ _ _ h => h) (Or.inl ⟨by rfl, fun w' hSw => by clear hSw; go_simp⟩) (by assumption) ?_
  simp only [Act.put, List.setIfInBounds_toArray, List.set_cons_zero, List.set_cons_succ]
  refine wpAnyH_take (i := 15) (oi := { dst := some 45, op := Op.fieldAddr 23 (Operand.tmp 4) 3, type := 0, pos := "ref.go:47", after := #[], guard := none }) (v := .pointer (some ⟨w1.heap.size, 3, none⟩)) rfl (by kernel_rfl) (by kernel_rfl) (by kernel_rfl) (fun _ _ _ h => h) (Or.inl ⟨by rfl, fun w' hSw => by clear hSw; go_simp⟩) (by assumption) ?_
  simp only [Act.put, List.setIfInBounds_toArray, List.set_cons_zero, List.set_cons_succ]
  refine wpAnyH_take (i := 19) (oi := { dst := some 49, op := Op.fieldAddr 25 (Operand.tmp 1) 2, type := 0, pos := "ref.go:47", after := #[], guard := none }) (v := .pointer (some ⟨w.heap.size, 5, none⟩)) rfl (by kernel_rfl) (by kernel_rfl) (by kernel_rfl) (fun _ _ _ h => h) (Or.inl ⟨by rfl, fun w' hSw => by clear hSw; go_simp⟩) (by assumption) ?_
  simp only [Act.put, List.setIfInBounds_toArray, List.set_cons_zero, List.set_cons_succ]
  refine wpAnyH_take (i := 23) (oi := { dst := some 53, op := Op.fieldAddr 25 (Operand.tmp 1) 3, type := 0, pos := "ref.go:47", after := #[], guard := none }) (v := .pointer (some ⟨w.heap.size, 6, none⟩)) rfl (by kernel_rfl) (by kernel_rfl) (by kernel_rfl) (fun _ _ _ h => h) (Or.inl ⟨by rfl, fun w' hSw => by clear hSw; go_simp⟩) (by assumption) ?_
  simp only [Act.put, List.setIfInBounds_toArray, List.set_cons_zero, List.set_cons_succ]
  refine wpAnyH_take (i := 1) (oi := { dst := some 31, op := Op.load 3 (Operand.tmp 30), type := 3, pos := "ref.go:47", after := #[{ on := 0, ground := Ground.data }], guard := none }) (v := .int .i64 c.n) rfl (by kernel_rfl) (by kernel_rfl) (by kernel_rfl) (fun _ _ _ h => h) (yieldsIf_load_cellG (by rfl) 3 _ rfl _ rfl (fun W hW => (HB.out.more hW).c4) (fun W hc => ldG_int hc)) (by assumption) ?_
  simp only [Act.put, List.setIfInBounds_toArray, List.set_cons_zero, List.set_cons_succ]
  refine wpAnyH_take (i := 4) (oi := { dst := some 34, op := Op.load 3 (Operand.tmp 33), type := 3, pos := "ref.go:47", after := #[{ on := 3, ground := Ground.data }], guard := none }) (v := .int .i64 c.f) rfl (by kernel_rfl) (by kernel_rfl) (by kernel_rfl) (fun _ _ _ h => h) (yieldsIf_load_cellG (by rfl) 3 _ rfl _ rfl (fun W hW => (HF.out.more hW).c0) (fun W hc => ldG_int hc)) (by assumption) ?_
  simp only [Act.put, List.setIfInBounds_toArray, List.set_cons_zero, List.set_cons_succ]
  refine wpAnyH_take (i := 8) (oi := { dst := some 38, op := Op.load 3 (Operand.tmp 37), type := 3, pos := "ref.go:47", after := #[{ on := 7, ground := Ground.data }], guard := none }) (v := .int .i64 c.m) rfl (by kernel_rfl) (by kernel_rfl) (by kernel_rfl) (fun _ _ _ h => h) (yieldsIf_load_cellG (by rfl) 3 _ rfl _ rfl (fun W hW => (HF.out.more hW).c1) (fun W hc => ldG_int hc)) (by assumption) ?_
  simp only [Act.put, List.setIfInBounds_toArray, List.set_cons_zero, List.set_cons_succ]
  refine wpAnyH_take (i := 12) (oi := { dst := some 42, op := Op.load 3 (Operand.tmp 41), type := 3, pos := "ref.go:47", after := #[{ on := 11, ground := Ground.data }], guard := none }) (v := .int .i64 c.l) rfl (by kernel_rfl) (by kernel_rfl) (by kernel_rfl) (fun _ _ _ h => h) (yieldsIf_load_cellG (by rfl) 3 _ rfl _ rfl (fun W hW => (HF.out.more hW).c2) (fun W hc => ldG_int hc)) (by assumption) ?_
  simp only [Act.put, List.setIfInBounds_toArray, List.set_cons_zero, List.set_cons_succ]
  refine wpAnyH_take (i := 16) (oi := { dst := some 46, op := Op.load 3 (Operand.tmp 45), type := 3, pos := "ref.go:47", after := #[{ on := 15, ground := Ground.data }], guard := none }) (v := .int .i64 c.p) rfl (by kernel_rfl) (by kernel_rfl) (by kernel_rfl) (fun _ _ _ h => h) (yieldsIf_load_cellG (by rfl) 3 _ rfl _ rfl (fun W hW => (HF.out.more hW).c3) (fun W hc => ldG_int hc)) (by assumption) ?_
  simp only [Act.put, List.setIfInBounds_toArray, List.set_cons_zero, List.set_cons_succ]
  refine wpAnyH_take (i := 20) (oi := { dst := some 50, op := Op.load 3 (Operand.tmp 49), type := 3, pos := "ref.go:47", after := #[{ on := 19, ground := Ground.data }], guard := none }) (v := .int .i64 c.s) rfl (by kernel_rfl) (by kernel_rfl) (by kernel_rfl) (fun _ _ _ h => h) (yieldsIf_load_cellG (by rfl) 3 _ rfl _ rfl (fun W hW => (HB.out.more hW).c5) (fun W hc => ldG_int hc)) (by assumption) ?_
  simp only [Act.put, List.setIfInBounds_toArray, List.set_cons_zero, List.set_cons_succ]
  refine wpAnyH_take (i := 24) (oi := { dst := some 54, op := Op.load 3 (Operand.tmp 53), type := 3, pos := "ref.go:47", after := #[{ on := 23, ground := Ground.data }], guard := none }) (v := .int .i64 c.k) rfl (by kernel_rfl) (by kernel_rfl) (by kernel_rfl) (fun _ _ _ h => h) (yieldsIf_load_cellG (by rfl) 3 _ rfl _ rfl (fun W hW => (HB.out.more hW).c6) (fun W hc => ldG_int hc)) (by assumption) ?_
  simp only [Act.put, List.setIfInBounds_toArray, List.set_cons_zero, List.set_cons_succ]
  refine wpAnyH_ready (rs := [2]) (by kernel_rfl) (by simp) ?_
  refine AllReadyH.cons (o := { dst := some 32, op := Op.call { callee := Callee.value (Operand.func 23), args := #[Operand.tmp 31, Operand.const (Value.int IntKind.i64 4)], argTypes := #[3, 3] }, type := 9, pos := "ref.go:47", after := #[{ on := 1, ground := Ground.data }], guard := none }) rfl (fun K hK => ?_) (AllReadyH.nil)
  go_simp
  refine (HG0.out _).mono ?_
  rintro e x1 ⟨rfl, hx1⟩
  have HX1 := hide (o2 (Only.drew _ _) hx1)
  clear hx1
  refine hK.out _ _ (HX1.out) (fun hHeld => ?_)
  clear hK K
  try simp only [Act.put, List.setIfInBounds_toArray, List.set_cons_zero, List.set_cons_succ]
  refine wpAnyH_ready (rs := [5]) (by kernel_rfl) (by simp) ?_
  refine AllReadyH.cons (o := { dst := some 35, op := Op.call { callee := Callee.value (Operand.func 23), args := #[Operand.tmp 34, Operand.const (Value.int IntKind.i64 4)], argTypes := #[3, 3] }, type := 9, pos := "ref.go:47", after := #[{ on := 4, ground := Ground.data }, { on := 2, ground := Ground.chain }], guard := none }) rfl (fun K hK => ?_) (AllReadyH.nil)
  go_simp
  refine (HG1.out _).mono ?_
  rintro e x2 ⟨rfl, hx2⟩
  have HX2 := hide (o2 HX1.out hx2)
  clear hx2
  refine hK.out _ _ (HX2.out) (fun hHeld => ?_)
  clear hK K
  try simp only [Act.put, List.setIfInBounds_toArray, List.set_cons_zero, List.set_cons_succ]
  refine wpAnyH_take (i := 6) (oi := { dst := some 36, op := Op.binOp BinOp.add 9 (Operand.tmp 32) (Operand.tmp 35) 9, type := 9, pos := "ref.go:47", after := #[{ on := 2, ground := Ground.data }, { on := 5, ground := Ground.data }], guard := none }) (v := .string C1) rfl (by kernel_rfl) (by kernel_rfl) (by kernel_rfl) (fun _ _ _ h => h) (Or.inl ⟨by rfl, fun w' hSw => by clear hSw; go_simp⟩) (by assumption) ?_
  simp only [Act.put, List.setIfInBounds_toArray, List.set_cons_zero, List.set_cons_succ]
  refine wpAnyH_ready (rs := [9]) (by kernel_rfl) (by simp) ?_
  refine AllReadyH.cons (o := { dst := some 39, op := Op.call { callee := Callee.value (Operand.func 23), args := #[Operand.tmp 38, Operand.const (Value.int IntKind.i64 4)], argTypes := #[3, 3] }, type := 9, pos := "ref.go:47", after := #[{ on := 8, ground := Ground.data }, { on := 5, ground := Ground.chain }], guard := none }) rfl (fun K hK => ?_) (AllReadyH.nil)
  go_simp
  refine (HG2.out _).mono ?_
  rintro e x3 ⟨rfl, hx3⟩
  have HX3 := hide (o2 HX2.out hx3)
  clear hx3
  refine hK.out _ _ (HX3.out) (fun hHeld => ?_)
  clear hK K
  try simp only [Act.put, List.setIfInBounds_toArray, List.set_cons_zero, List.set_cons_succ]
  refine wpAnyH_take (i := 10) (oi := { dst := some 40, op := Op.binOp BinOp.add 9 (Operand.tmp 36) (Operand.tmp 39) 9, type := 9, pos := "ref.go:47", after := #[{ on := 6, ground := Ground.data }, { on := 9, ground := Ground.data }], guard := none }) (v := .string C2) rfl (by kernel_rfl) (by kernel_rfl) (by kernel_rfl) (fun _ _ _ h => h) (Or.inl ⟨by rfl, fun w' hSw => by clear hSw; go_simp⟩) (by assumption) ?_
  simp only [Act.put, List.setIfInBounds_toArray, List.set_cons_zero, List.set_cons_succ]
  refine wpAnyH_ready (rs := [13]) (by kernel_rfl) (by simp) ?_
  refine AllReadyH.cons (o := { dst := some 43, op := Op.call { callee := Callee.value (Operand.func 23), args := #[Operand.tmp 42, Operand.const (Value.int IntKind.i64 4)], argTypes := #[3, 3] }, type := 9, pos := "ref.go:47", after := #[{ on := 12, ground := Ground.data }, { on := 9, ground := Ground.chain }], guard := none }) rfl (fun K hK => ?_) (AllReadyH.nil)
  go_simp
  refine (HG3.out _).mono ?_
  rintro e x4 ⟨rfl, hx4⟩
  have HX4 := hide (o2 HX3.out hx4)
  clear hx4
  refine hK.out _ _ (HX4.out) (fun hHeld => ?_)
  clear hK K
  try simp only [Act.put, List.setIfInBounds_toArray, List.set_cons_zero, List.set_cons_succ]
  refine wpAnyH_take (i := 14) (oi := { dst := some 44, op := Op.binOp BinOp.add 9 (Operand.tmp 40) (Operand.tmp 43) 9, type := 9, pos := "ref.go:47", after := #[{ on := 10, ground := Ground.data }, { on := 13, ground := Ground.data }], guard := none }) (v := .string C3) rfl (by kernel_rfl) (by kernel_rfl) (by kernel_rfl) (fun _ _ _ h => h) (Or.inl ⟨by rfl, fun w' hSw => by clear hSw; go_simp⟩) (by assumption) ?_
  simp only [Act.put, List.setIfInBounds_toArray, List.set_cons_zero, List.set_cons_succ]
  refine wpAnyH_ready (rs := [17]) (by kernel_rfl) (by simp) ?_
  refine AllReadyH.cons (o := { dst := some 47, op := Op.call { callee := Callee.value (Operand.func 23), args := #[Operand.tmp 46, Operand.const (Value.int IntKind.i64 4)], argTypes := #[3, 3] }, type := 9, pos := "ref.go:47", after := #[{ on := 16, ground := Ground.data }, { on := 13, ground := Ground.chain }], guard := none }) rfl (fun K hK => ?_) (AllReadyH.nil)
  go_simp
  refine (HG4.out _).mono ?_
  rintro e x5 ⟨rfl, hx5⟩
  have HX5 := hide (o2 HX4.out hx5)
  clear hx5
  refine hK.out _ _ (HX5.out) (fun hHeld => ?_)
  clear hK K
  try simp only [Act.put, List.setIfInBounds_toArray, List.set_cons_zero, List.set_cons_succ]
  refine wpAnyH_take (i := 18) (oi := { dst := some 48, op := Op.binOp BinOp.add 9 (Operand.tmp 44) (Operand.tmp 47) 9, type := 9, pos := "ref.go:47", after := #[{ on := 14, ground := Ground.data }, { on := 17, ground := Ground.data }], guard := none }) (v := .string C4) rfl (by kernel_rfl) (by kernel_rfl) (by kernel_rfl) (fun _ _ _ h => h) (Or.inl ⟨by rfl, fun w' hSw => by clear hSw; go_simp⟩) (by assumption) ?_
  simp only [Act.put, List.setIfInBounds_toArray, List.set_cons_zero, List.set_cons_succ]
  refine wpAnyH_ready (rs := [21]) (by kernel_rfl) (by simp) ?_
  refine AllReadyH.cons (o := { dst := some 51, op := Op.call { callee := Callee.value (Operand.func 23), args := #[Operand.tmp 50, Operand.const (Value.int IntKind.i64 6)], argTypes := #[3, 3] }, type := 9, pos := "ref.go:47", after := #[{ on := 20, ground := Ground.data }, { on := 17, ground := Ground.chain }], guard := none }) rfl (fun K hK => ?_) (AllReadyH.nil)
  go_simp
  refine (HG5.out _).mono ?_
  rintro e x6 ⟨rfl, hx6⟩
  have HX6 := hide (o2 HX5.out hx6)
  clear hx6
  refine hK.out _ _ (HX6.out) (fun hHeld => ?_)
  clear hK K
  try simp only [Act.put, List.setIfInBounds_toArray, List.set_cons_zero, List.set_cons_succ]
  refine wpAnyH_take (i := 22) (oi := { dst := some 52, op := Op.binOp BinOp.add 9 (Operand.tmp 48) (Operand.tmp 51) 9, type := 9, pos := "ref.go:47", after := #[{ on := 18, ground := Ground.data }, { on := 21, ground := Ground.data }], guard := none }) (v := .string C5) rfl (by kernel_rfl) (by kernel_rfl) (by kernel_rfl) (fun _ _ _ h => h) (Or.inl ⟨by rfl, fun w' hSw => by clear hSw; go_simp⟩) (by assumption) ?_
  simp only [Act.put, List.setIfInBounds_toArray, List.set_cons_zero, List.set_cons_succ]
  refine wpAnyH_ready (rs := [25]) (by kernel_rfl) (by simp) ?_
  refine AllReadyH.cons (o := { dst := some 55, op := Op.call { callee := Callee.value (Operand.func 23), args := #[Operand.tmp 54, Operand.const (Value.int IntKind.i64 6)], argTypes := #[3, 3] }, type := 9, pos := "ref.go:47", after := #[{ on := 24, ground := Ground.data }, { on := 21, ground := Ground.chain }], guard := none }) rfl (fun K hK => ?_) (AllReadyH.nil)
  go_simp
  refine (HG6.out _).mono ?_
  rintro e x7 ⟨rfl, hx7⟩
  have HX7 := hide (o2 HX6.out hx7)
  clear hx7
  refine hK.out _ _ (HX7.out) (fun hHeld => ?_)
  clear hK K
  try simp only [Act.put, List.setIfInBounds_toArray, List.set_cons_zero, List.set_cons_succ]
  refine wpAnyH_take (i := 26) (oi := { dst := some 56, op := Op.binOp BinOp.add 9 (Operand.tmp 52) (Operand.tmp 55) 9, type := 9, pos := "ref.go:47", after := #[{ on := 22, ground := Ground.data }, { on := 25, ground := Ground.data }], guard := none }) (v := .string C6) rfl (by kernel_rfl) (by kernel_rfl) (by kernel_rfl) (fun _ _ _ h => h) (Or.inl ⟨by rfl, fun w' hSw => by clear hSw; go_simp⟩) (by assumption) ?_
  simp only [Act.put, List.setIfInBounds_toArray, List.set_cons_zero, List.set_cons_succ]
  refine wpAnyH_take (i := 27) (oi := { dst := some 5, op := Op.assign (Operand.tmp 56), type := 9, pos := "ref.go:47", after := #[{ on := 26, ground := Ground.data }, { on := 25, ground := Ground.chain }, { on := 0, ground := Ground.phase }, { on := 1, ground := Ground.phase }, { on := 2, ground := Ground.phase }, { on := 3, ground := Ground.phase }, { on := 4, ground := Ground.phase }, { on := 5, ground := Ground.phase }, { on := 6, ground := Ground.phase }, { on := 7, ground := Ground.phase }, { on := 8, ground := Ground.phase }, { on := 9, ground := Ground.phase }, { on := 10, ground := Ground.phase }, { on := 11, ground := Ground.phase }, { on := 12, ground := Ground.phase }, { on := 13, ground := Ground.phase }, { on := 14, ground := Ground.phase }, { on := 15, ground := Ground.phase }, { on := 16, ground := Ground.phase }, { on := 17, ground := Ground.phase }, { on := 18, ground := Ground.phase }, { on := 19, ground := Ground.phase }, { on := 20, ground := Ground.phase }, { on := 21, ground := Ground.phase }, { on := 22, ground := Ground.phase }, { on := 23, ground := Ground.phase }, { on := 24, ground := Ground.phase }, { on := 25, ground := Ground.phase }, { on := 26, ground := Ground.phase }], guard := none }) (v := .string C6) rfl (by kernel_rfl) (by kernel_rfl) (by kernel_rfl) (fun _ _ _ h => h) (Or.inl ⟨by rfl, fun w' hSw => by clear hSw; go_simp⟩) (by assumption) ?_
  simp only [Act.put, List.setIfInBounds_toArray, List.set_cons_zero, List.set_cons_succ]
  refine wpAnyH_done (by kernel_rfl) ?_ _
  refine NoPanic.normal ?_
  rw [Exit.then]
  have HBx := hide (HB.out.more HX7.out)
  have HOx := hide (o2 (o2 HO.out HO2.out) HX7.out)
  clear HX1 HX2 HX3 HX4 HX5 HX6 HX7 HF HB HO2 HO hHeld
  go_upto_region 5 with fail
  refine wp_region_noPanic ?_
  refine wp_region_held_drew (S := fun W => Only (fun _ => False) x7 W) (by kernel_rfl) (Only.drew _ _) (fun hHeld => ?_)
  refine wpAnyH_take (i := 0) (oi := { dst := some 57, op := Op.move (Operand.tmp 5), type := 9, pos := "ref.go:48", after := #[], guard := none }) (v := .string C6) rfl (by kernel_rfl) (by kernel_rfl) (by kernel_rfl) (fun _ _ _ h => h) (Or.inl ⟨by rfl, fun w' hSw => by clear hSw; go_simp⟩) (by assumption) ?_
  simp only [Act.put, List.setIfInBounds_toArray, List.set_cons_zero, List.set_cons_succ]
  refine wpAnyH_take (i := 3) (oi := { dst := some 60, op := Op.fieldAddr 25 (Operand.tmp 1) 1, type := 0, pos := "ref.go:48", after := #[], guard := none }) (v := .pointer (some ⟨w.heap.size, 4, none⟩)) rfl (by kernel_rfl) (by kernel_rfl) (by kernel_rfl) (fun _ _ _ h => h) (Or.inl ⟨by rfl, fun w' hSw => by clear hSw; go_simp⟩) (by assumption) ?_
  simp only [Act.put, List.setIfInBounds_toArray, List.set_cons_zero, List.set_cons_succ]
  refine wpAnyH_take (i := 4) (oi := { dst := some 61, op := Op.load 3 (Operand.tmp 60), type := 3, pos := "ref.go:48", after := #[{ on := 3, ground := Ground.data }], guard := none }) (v := .int .i64 c.n) rfl (by kernel_rfl) (by kernel_rfl) (by kernel_rfl) (fun _ _ _ h => h) (yieldsIf_load_cellG (by rfl) 3 _ rfl _ rfl (fun W hW => (HBx.out.more hW).c4) (fun W hc => ldG_int hc)) (by assumption) ?_
  simp only [Act.put, List.setIfInBounds_toArray, List.set_cons_zero, List.set_cons_succ]
  refine wpAnyH_ready (rs := [1]) (by kernel_rfl) (by simp) ?_
  refine AllReadyH.cons (o := { dst := some 58, op := Op.call { callee := Callee.value (Operand.func 23), args := #[Operand.const (Value.int IntKind.i64 0), Operand.const (Value.int IntKind.i64 28)], argTypes := #[3, 3] }, type := 9, pos := "ref.go:48", after := #[], guard := none }) rfl (fun K hK => ?_) (AllReadyH.nil)
  go_simp
  refine (HR.out _).mono ?_
  rintro e z1 ⟨rfl, hz1⟩
  have HZ1 := hide (o2 (Only.drew _ _) hz1)
  clear hz1
  refine hK.out _ _ (HZ1.out) (fun hHeld => ?_)
  clear hK K
  try simp only [Act.put, List.setIfInBounds_toArray, List.set_cons_zero, List.set_cons_succ]
  refine wpAnyH_take (i := 2) (oi := { dst := some 59, op := Op.binOp BinOp.add 9 (Operand.tmp 57) (Operand.tmp 58) 9, type := 9, pos := "ref.go:48", after := #[{ on := 0, ground := Ground.data }, { on := 1, ground := Ground.data }], guard := none }) (v := .string C7) rfl (by kernel_rfl) (by kernel_rfl) (by kernel_rfl) (fun _ _ _ h => h) (Or.inl ⟨by rfl, fun w' hSw => by clear hSw; go_simp⟩) (by assumption) ?_
  simp only [Act.put, List.setIfInBounds_toArray, List.set_cons_zero, List.set_cons_succ]
  refine wpAnyH_ready (rs := [5]) (by kernel_rfl) (by simp) ?_
  refine AllReadyH.cons (o := { dst := some 62, op := Op.call { callee := Callee.value (Operand.func 23), args := #[Operand.tmp 61, Operand.const (Value.int IntKind.i64 4)], argTypes := #[3, 3] }, type := 9, pos := "ref.go:48", after := #[{ on := 4, ground := Ground.data }, { on := 1, ground := Ground.chain }], guard := none }) rfl (fun K hK => ?_) (AllReadyH.nil)
  go_simp
  refine (HG0.out _).mono ?_
  rintro e z2 ⟨rfl, hz2⟩
  have HZ2 := hide (o2 HZ1.out hz2)
  clear hz2
  refine hK.out _ _ (HZ2.out) (fun hHeld => ?_)
  clear hK K
  try simp only [Act.put, List.setIfInBounds_toArray, List.set_cons_zero, List.set_cons_succ]
  refine wpAnyH_take (i := 6) (oi := { dst := some 63, op := Op.binOp BinOp.add 9 (Operand.tmp 59) (Operand.tmp 62) 9, type := 9, pos := "ref.go:48", after := #[{ on := 2, ground := Ground.data }, { on := 5, ground := Ground.data }], guard := none }) (v := .string C8) rfl (by kernel_rfl) (by kernel_rfl) (by kernel_rfl) (fun _ _ _ h => h) (Or.inl ⟨by rfl, fun w' hSw => by clear hSw; go_simp⟩) (by assumption) ?_
  simp only [Act.put, List.setIfInBounds_toArray, List.set_cons_zero, List.set_cons_succ]
  refine wpAnyH_take (i := 7) (oi := { dst := some 2, op := Op.assign (Operand.tmp 63), type := 9, pos := "ref.go:48", after := #[{ on := 6, ground := Ground.data }, { on := 5, ground := Ground.chain }, { on := 0, ground := Ground.phase }, { on := 1, ground := Ground.phase }, { on := 2, ground := Ground.phase }, { on := 3, ground := Ground.phase }, { on := 4, ground := Ground.phase }, { on := 5, ground := Ground.phase }, { on := 6, ground := Ground.phase }], guard := none }) (v := .string C8) rfl (by kernel_rfl) (by kernel_rfl) (by kernel_rfl) (fun _ _ _ h => h) (Or.inl ⟨by rfl, fun w' hSw => by clear hSw; go_simp⟩) (by assumption) ?_
  simp only [Act.put, List.setIfInBounds_toArray, List.set_cons_zero, List.set_cons_succ]
  refine wpAnyH_take (i := 8) (oi := { dst := some 3, op := Op.assign (Operand.const (Value.int IntKind.i64 0)), type := 27, pos := "ref.go:48", after := #[{ on := 7, ground := Ground.chain }, { on := 0, ground := Ground.phase }, { on := 1, ground := Ground.phase }, { on := 2, ground := Ground.phase }, { on := 3, ground := Ground.phase }, { on := 4, ground := Ground.phase }, { on := 5, ground := Ground.phase }, { on := 6, ground := Ground.phase }, { on := 7, ground := Ground.phase }], guard := none }) (v := .int .i64 0) rfl (by kernel_rfl) (by kernel_rfl) (by kernel_rfl) (fun _ _ _ h => h) (Or.inl ⟨by rfl, fun w' hSw => by clear hSw; go_simp⟩) (by assumption) ?_
  simp only [Act.put, List.setIfInBounds_toArray, List.set_cons_zero, List.set_cons_succ]
  refine wpAnyH_done (by kernel_rfl) ?_ _
  refine NoPanic.normal ?_
  rw [Exit.then]
  go_wp2_with fail
  go_ret2
  exact ⟨by simp [HE.out], o2 HOx.out HZ2.out⟩
theorem rencode_any (c : Ct) (w : World) : Calls Try.prog 8 #[c.agg] w fun e w' => e = .returned c.out ∧ Only (fun _ => False) w w' := by
  by_cases h : c.ok
  · exact rencode_ok c w h
  · exact rencode_bad c w h
end Go.Proofs.Ytpogphaflhfmbaa
