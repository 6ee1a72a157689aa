/- What the document's Encode does. -/
import Derived.Test.YtebijheonkagfaaGreatDoorKPc
import Derived.Deep.RegionHeld3
import Derived.Test.YtebijheonkagfaaGreatDoorKTk
namespace Go.Proofs.YtebijheonkagfaaGreatDoor
open Go.RowKit
theorem zeros_at (n : Nat) (hn : n ≤ 1000) : ∃ (O : Obj), (∀ W : World, (Instr.makeSlice 80 (.int .i64 (n : Int)) (.int .i64 (n : Int))).run Tryz.prog W = .ok (.slice (some ⟨W.heap.size, 0, none⟩) n n) (W.alloc O)) ∧
    (∀ (W : World) (g : Nat) (X : World), g = W.heap.size → Only (fun _ => False) (W.alloc O) X → (convert 80 9 (.slice (some ⟨g, 0, none⟩) n n)).run Tryz.prog X = .ok (.string (str (List.replicate n 0))) X) := by
  obtain ⟨i0, hi, hz0, hz1, hz2⟩ := info_parts Tryz.infoByte; refine ⟨.cells (madeCells (Value.int .u8 0).cells ((n : Int).toNat * i0.size)) 5, fun W => ?_, fun W g X hg hX => ?_⟩
  · have h := run_make (P := Tryz.prog) W 80 5 i0 (.int .u8 0) Tryz.underlying80 hi hz0 .i64 .i64 (n : Int) (n : Int) (by omega) (Int.le_refl _) (by rw [hz2]; omega) (by omega)
    simpa using h
  · subst hg
    obtain ⟨w', hmk, hown, hgr⟩ := run_make_full (P := Tryz.prog) W W.heap.size 80 5 i0 (.int .u8 0) 1 Tryz.underlying80 hi hz0 hz1 .i64 .i64 n (by rw [hz2]; omega) (by unfold maxLen; omega) (Nat.le_refl _); have h := run_make (P := Tryz.prog) W 80 5 i0 (.int .u8 0) Tryz.underlying80 hi hz0 .i64 .i64 (n : Int) (n : Int) (by omega) (Int.le_refl _) (by rw [hz2]; omega) (by omega)
    have e : w' = W.alloc (.cells (madeCells (Value.int .u8 0).cells ((n : Int).toNat * i0.size)) 5) := by
      rw [hmk] at h
      simp at h
      exact h
    subst e
    have e2 : (madeCells (Value.int .u8 0).cells (n * 1)).toList = cells (List.replicate n 0) := by
      have : (Value.int IntKind.u8 0).cells = #[.int .u8 0] := rfl; rw [this, toList_madeCells_one]; simp [cells]
    rw [e2] at hown
    have hrow : Row (W.alloc (.cells (madeCells (Value.int .u8 0).cells ((n : Int).toNat * i0.size)) 5)) W.heap.size (.slice (some ⟨W.heap.size, 0, none⟩) n n) (some W.heap.size) (List.replicate n 0) := by
      refine ⟨?_, rfl⟩; rw [List.length_replicate]
      exact hown
    exact bytes_back X _ _ _ _ (hrow.kept hX (fun _ _ h => h))
theorem refBig_int (n : Int) (k : Nat) (w : World) (hk : 1 ≤ k) (hk8 : k ≤ 8) (h0 : 0 ≤ n) (hn : n < 9223372036854775808) :
    Calls Tryz.prog 93 #[.int .i64 n, .int .i64 k] w fun e w' => e = .returned (.string (str (bigF k n.toNat))) ∧ Only (fun _ => False) w w' := by
  obtain ⟨m, rfl⟩ := Int.eq_ofNat_of_zero_le h0; rw [Int.toNat_natCast]
  exact refBig_any m k w hk hk8 (by omega)
theorem big1 (n : Nat) (h : n < 256) : bigF 1 n = [UInt8.ofNat n] := by
  show bigF 0 (n / 256) ++ [UInt8.ofNat (n % 256)] = _
  rw [Nat.mod_eq_of_lt h]
  rfl
theorem str_app (A : List UInt8) (h : ByteArray) : str A ++ h = str (A ++ bl h) := by rw [← str_cat, str_bl]
theorem head_cat (a k v r : Int) (h : ByteArray) (l : List ByteArray) (hk : k.toNat < 256) (hv : v.toNat < 256) (hh : h.size ≤ 255) (hl : l.length ≤ 255) :
    str (bigF 8 a.toNat) ++ str (bigF 1 k.toNat) ++ str (bigF 1 v.toNat) ++ str (bigF 4 r.toNat) ++ str (bigF 1 (l.length : Int).toNat) ++ str (bigF 1 (h.size : Int).toNat) ++ h = str (Pg.head ⟨a, k, v, r, h, l⟩ ++ bl h ++ itemsL (l.take 0)) := by
  rw [Int.toNat_natCast, Int.toNat_natCast, big1 _ hk, big1 _ hv, big1 l.length (by omega), big1 h.size (by omega)]; simp only [bl_str, str_app, Pg.head, u8, List.take_zero, itemsL_nil, List.append_nil, List.append_assoc, List.cons_append, List.nil_append]
theorem str_len {l : List UInt8} {Y : ByteArray} (h : str l = Y) : Y.size = l.length := by rw [← h]; rfl
theorem rb (W0 : World) (n : Int) (k : Nat) (Y : ByteArray) (hk : 1 ≤ k) (hk8 : k ≤ 8) (h0 : 0 ≤ n) (hn : n < 9223372036854775808) (hY : str (bigF k n.toNat) = Y) (b : Nat) (v0 v1 v2 v3 v4 v5 : Value) (hP : Pag W0 b v0 v1 v2 v3 v4 v5) (W : World) (hW : Hid (Only (fun _ => False) W0 W)) :
    Calls Tryz.prog 93 #[.int .i64 n, .int .i64 (k : Int)] W fun e w' => e = .returned (.string Y) ∧ Hid (Only (fun _ => False) W0 w') ∧ w'.cell? ⟨b, 0, none⟩ = some v0 ∧ w'.cell? ⟨b, 1, none⟩ = some v1 ∧ w'.cell? ⟨b, 2, none⟩ = some v2 ∧ w'.cell? ⟨b, 3, none⟩ = some v3 ∧ w'.cell? ⟨b, 4, none⟩ = some v4 ∧ w'.cell? ⟨b, 5, none⟩ = some v5 := by
  refine (refBig_int n k W hk hk8 h0 hn).mono fun e w' hx => ?_
  have hp := hP.more (o2 hW.out hx.2)
  exact ⟨by rw [hx.1, hY], o2 hW.out hx.2, hp.c0, hp.c1, hp.c2, hp.c3, hp.c4, hp.c5⟩
theorem yieldsIf_load_page {ops : Array Oper} {S : World → Prop} {op : Oper} {a : Act} {v0 v1 v2 v3 v4 v5 : Value} (hw : Region.wanted op (yielded ops a.tmps) = true) (x : Operand) (ho : op.op = .load 45 x)
    (b : Nat) (hx : a.eval x = .pointer (some ⟨b, 0, none⟩)) (hS : ∀ w, S w → Pag w b v0 v1 v2 v3 v4 v5) : YieldsIf Tryz.prog ops S op (.agg #[v0, v1, v2, v3, v4, v5]) a :=
  .inl ⟨hw, fun w hw' => by
    unfold execOp
    simp only [ho, hx, Instr.loadAt, Instr.sureAddr, Sem.run_bind, Sem.run_pure, Result.andThen_ok, load_page (hS w hw')]⟩
theorem yieldsIf_load_cell {ops : Array Oper} {S : World → Prop} {op : Oper} {a : Act} {v : Value} (hw : Region.wanted op (yielded ops a.tmps) = true) (ty : TypeId) (x : Operand) (ho : op.op = .load ty x)
    (p : Addr) (hx : a.eval x = .pointer (some p)) (hS : ∀ w, S w → w.cell? p = some v) (hl : ∀ w, w.cell? p = some v → (loadVar ty p).run Tryz.prog w = .ok v w) : YieldsIf Tryz.prog ops S op v a :=
  .inl ⟨hw, fun w hw' => by
    unfold execOp
    simp only [ho, hx, Instr.loadAt, Instr.sureAddr, Sem.run_bind, Sem.run_pure, Result.andThen_ok, hl w (hS w hw')]⟩
theorem ld_int {w : World} {p : Addr} {v : Value} (h : w.cell? p = some v) : (loadVar 3 p).run Tryz.prog w = .ok v w := by simp [loadVar, go_sem, h]
theorem ld_string {w : World} {p : Addr} {v : Value} (h : w.cell? p = some v) : (loadVar 9 p).run Tryz.prog w = .ok v w := by simp [loadVar, go_sem, h]
theorem ld_strings {w : World} {p : Addr} {v : Value} (h : w.cell? p = some v) : (loadVar 43 p).run Tryz.prog w = .ok v w := by simp [loadVar, go_sem, h]
set_option maxRecDepth 100000 in
set_option maxHeartbeats 3200000 in
theorem yencode_ok (w : World) (a k v r : Int) (h : ByteArray) (B cp : Nat) (ao : Option Addr) (l : List ByteArray) (hS : Strs w B ao l) (hV : Pg.valid ⟨a, k, v, r, h, l⟩) :
    Calls Tryz.prog 65 #[.agg #[.int .i64 a, .int .i64 k, .int .i64 v, .int .i64 r, .string h, .slice ao l.length cp]] w fun e w' => e = .returned (.tuple #[.string (str (Pg.enc ⟨a, k, v, r, h, l⟩)), .int .i64 0]) ∧ Only (fun _ => False) w w' := by
  have HV := hide hV; obtain ⟨⟨r0, r1, r2, r3, r4, r5, r6⟩, ⟨f0, f1, f2⟩, hl⟩ := hV; simp only [Pg.size] at r0 r1 r2 r3 r4 r5 r6 f0 f1 f2 hl; have HF2 := hide f2
  have HZ : Hid (wrap64 (20 + h.size + isz l) = ((20 + h.size + isz l : Nat) : Int)) := by
    unfold Hid; rw [w64_few hS.size (by omega) f1]
    omega
  obtain ⟨N, hN⟩ : ∃ N, 20 + h.size + isz l = N := ⟨_, rfl⟩; rw [hN] at HZ
  have hN5 : (N : Int) ≤ 512 := by omega
  have HN := hide hN; clear hN f2; have HS := hide hS; clear hS; obtain ⟨W0, hW0⟩ : ∃ W0, w.alloc (.cells #[.int .i64 a, .int .i64 k, .int .i64 v, .int .i64 r, .string h, .slice ao l.length cp] 45) = W0 := ⟨_, rfl⟩; have HP := hide (Pag.new w (.int .i64 a) (.int .i64 k) (.int .i64 v) (.int .i64 r) (.string h) (.slice ao l.length cp)); have HO0 := hide (onlyA w (.cells #[.int .i64 a, .int .i64 k, .int .i64 v, .int .i64 r, .string h, .slice ao l.length cp] 45)); rw [hW0] at HP HO0; have HW0 := hide hW0; clear hW0; obtain ⟨p0, p1, p2, p3, p4, p5, _⟩ := HP.out
  have hh3 : ¬ (255 : Int) < (h.size : Int) := by omega
  have hl3 : ¬ (255 : Int) < (l.length : Int) := by omega
  go_enter Tryz.func65, Tryz.ntmps65
  go_upto_region 1 with fail
  rw [HW0.out]
  go_wp2_with fail
  refine (ysize_any W0 a k v r h B cp ao l (HS.out.more HO0.out) (by omega)).mono ?_; rw [HZ.out]; rintro e w1 ⟨rfl, ho1⟩; have HP1 := hide (HP.out.more ho1); have HO1 := hide (o2 HO0.out ho1); clear p0 p1 p2 p3 p4 p5 ho1; obtain ⟨p0, p1, p2, p3, p4, p5, _⟩ := HP1.out; obtain ⟨Y1, hY1⟩ : ∃ Y, str (bigF 8 a.toNat) = Y := ⟨_, rfl⟩; obtain ⟨Y2, hY2⟩ : ∃ Y, str (bigF 1 k.toNat) = Y := ⟨_, rfl⟩; obtain ⟨Y3, hY3⟩ : ∃ Y, str (bigF 1 v.toNat) = Y := ⟨_, rfl⟩; obtain ⟨Y4, hY4⟩ : ∃ Y, str (bigF 4 r.toNat) = Y := ⟨_, rfl⟩; obtain ⟨Y5, hY5⟩ : ∃ Y, str (bigF 1 (l.length : Int).toNat) = Y := ⟨_, rfl⟩; obtain ⟨Y6, hY6⟩ : ∃ Y, str (bigF 1 (h.size : Int).toNat) = Y := ⟨_, rfl⟩; have H1 := hide (rb w1 a 8 Y1 (by omega) (by omega) r0 hl hY1 w.heap.size _ _ _ _ _ _ HP1.out); have H2 := hide (rb w1 k 1 Y2 (by omega) (by omega) (by omega) (by omega) hY2 w.heap.size _ _ _ _ _ _ HP1.out); have H3 := hide (rb w1 v 1 Y3 (by omega) (by omega) (by omega) (by omega) hY3 w.heap.size _ _ _ _ _ _ HP1.out); have H4 := hide (rb w1 r 4 Y4 (by omega) (by omega) (by omega) (by omega) hY4 w.heap.size _ _ _ _ _ _ HP1.out); have H5 := hide (rb w1 (l.length : Int) 1 Y5 (by omega) (by omega) (by omega) (by omega) hY5 w.heap.size _ _ _ _ _ _ HP1.out); have H6 := hide (rb w1 (h.size : Int) 1 Y6 (by omega) (by omega) (by omega) (by omega) hY6 w.heap.size _ _ _ _ _ _ HP1.out); have s1 := str_len hY1; have s2 := str_len hY2; have s3 := str_len hY3; have s4 := str_len hY4; have s5 := str_len hY5; have s6 := str_len hY6; rw [bigF_len] at s1 s2 s3 s4 s5 s6
  obtain ⟨C1, hC1⟩ : ∃ C, Y1 ++ Y2 = C := ⟨_, rfl⟩; obtain ⟨C2, hC2⟩ : ∃ C, C1 ++ Y3 = C := ⟨_, rfl⟩; obtain ⟨C3, hC3⟩ : ∃ C, C2 ++ Y4 = C := ⟨_, rfl⟩; obtain ⟨C4, hC4⟩ : ∃ C, C3 ++ Y5 = C := ⟨_, rfl⟩; obtain ⟨C5, hC5⟩ : ∃ C, C4 ++ Y6 = C := ⟨_, rfl⟩; obtain ⟨C6, hC6⟩ : ∃ C, C5 ++ h = C := ⟨_, rfl⟩
  have t1 : C1.size = 9 := by rw [← hC1, ByteArray.size_append]; omega
  have t2 : C2.size = 10 := by rw [← hC2, ByteArray.size_append]; omega
  have t3 : C3.size = 14 := by rw [← hC3, ByteArray.size_append]; omega
  have t4 : C4.size = 15 := by rw [← hC4, ByteArray.size_append]; omega
  have t5 : C5.size = 16 := by rw [← hC5, ByteArray.size_append]; omega
  have HC6 : Hid (C6 = str (Pg.head ⟨a, k, v, r, h, l⟩ ++ bl h ++ itemsL (l.take 0))) := by
    unfold Hid; rw [← hC6, ← hC5, ← hC4, ← hC3, ← hC2, ← hC1, ← hY1, ← hY2, ← hY3, ← hY4, ← hY5, ← hY6]
    exact head_cat a k v r h l (by omega) (by omega) f0 f1
  have l1 : Y1.size + Y2.size ≤ 9223372036854775807 := by omega
  have l2 : C1.size + Y3.size ≤ 9223372036854775807 := by omega
  have l3 : C2.size + Y4.size ≤ 9223372036854775807 := by omega
  have l4 : C3.size + Y5.size ≤ 9223372036854775807 := by omega
  have l5 : C4.size + Y6.size ≤ 9223372036854775807 := by omega
  have l6 : C5.size + h.size ≤ 9223372036854775807 := by omega
  clear hY1 hY2 hY3 hY4 hY5 hY6 s1 s2 s3 s4 s5 s6 t1 t2 t3 t4 t5
  go_upto_region 5 with fail
  -- {r5
  refine wp_region_noPanic ?_; refine wp_region_held_drew (S := fun W => Only (fun _ => False) w1 W) (by kernel_rfl) (Only.drew _ _) (fun hHeld => ?_); refine tkQ (i := 0) (oi := { dst := some 54, op := Op.fieldAddr 45 (Operand.tmp 1) 0, type := 0, pos := "ref.go:34", after := #[], guard := none }) (v := .pointer (some ⟨w.heap.size, 0, none⟩)) rfl (by kernel_rfl) (Or.inl ⟨by rfl, fun w' hSw => by clear hSw; go_simp⟩) (by assumption) ?_; simp only [Act.put, lsA, lsB, lsC]; refine tkQ (i := 3) (oi := { dst := some 57, op := Op.fieldAddr 45 (Operand.tmp 1) 1, type := 0, pos := "ref.go:34", after := #[], guard := none }) (v := .pointer (some ⟨w.heap.size, 1, none⟩)) rfl (by kernel_rfl) (Or.inl ⟨by rfl, fun w' hSw => by clear hSw; go_simp⟩) (by assumption) ?_; simp only [Act.put, lsA, lsB, lsC]; refine tkQ (i := 7) (oi := { dst := some 61, op := Op.fieldAddr 45 (Operand.tmp 1) 2, type := 0, pos := "ref.go:34", after := #[], guard := none }) (v := .pointer (some ⟨w.heap.size, 2, none⟩)) rfl (by kernel_rfl) (Or.inl ⟨by rfl, fun w' hSw => by clear hSw; go_simp⟩) (by assumption) ?_; simp only [Act.put, lsA, lsB, lsC]; refine tkQ (i := 11) (oi := { dst := some 65, op := Op.fieldAddr 45 (Operand.tmp 1) 3, type := 0, pos := "ref.go:34", after := #[], guard := none }) (v := .pointer (some ⟨w.heap.size, 3, none⟩)) rfl (by kernel_rfl) (Or.inl ⟨by rfl, fun w' hSw => by clear hSw; go_simp⟩) (by assumption) ?_; simp only [Act.put, lsA, lsB, lsC]; refine tkQ (i := 15) (oi := { dst := some 69, op := Op.fieldAddr 45 (Operand.tmp 1) 5, type := 0, pos := "ref.go:34", after := #[], guard := none }) (v := .pointer (some ⟨w.heap.size, 5, none⟩)) rfl (by kernel_rfl) (Or.inl ⟨by rfl, fun w' hSw => by clear hSw; go_simp⟩) (by assumption) ?_
  simp only [Act.put, lsA, lsB, lsC]; refine tkQ (i := 20) (oi := { dst := some 74, op := Op.fieldAddr 45 (Operand.tmp 1) 4, type := 0, pos := "ref.go:34", after := #[], guard := none }) (v := .pointer (some ⟨w.heap.size, 4, none⟩)) rfl (by kernel_rfl) (Or.inl ⟨by rfl, fun w' hSw => by clear hSw; go_simp⟩) (by assumption) ?_; simp only [Act.put, lsA, lsB, lsC]; refine tkQ (i := 25) (oi := { dst := some 79, op := Op.fieldAddr 45 (Operand.tmp 1) 4, type := 0, pos := "ref.go:34", after := #[], guard := none }) (v := .pointer (some ⟨w.heap.size, 4, none⟩)) rfl (by kernel_rfl) (Or.inl ⟨by rfl, fun w' hSw => by clear hSw; go_simp⟩) (by assumption) ?_; simp only [Act.put, lsA, lsB, lsC]; refine tkQ (i := 1) (oi := { dst := some 55, op := Op.load 3 (Operand.tmp 54), type := 3, pos := "ref.go:34", after := #[{ on := 0, ground := Ground.data }], guard := none }) (v := .int .i64 a) rfl (by kernel_rfl) (yieldsIf_load_cell (by rfl) 3 _ rfl _ rfl (fun W hW => (HP1.out.more hW).c0) (fun W hc => ld_int hc)) (by assumption) ?_; simp only [Act.put, lsA, lsB, lsC]; refine tkQ (i := 4) (oi := { dst := some 58, op := Op.load 3 (Operand.tmp 57), type := 3, pos := "ref.go:34", after := #[{ on := 3, ground := Ground.data }], guard := none }) (v := .int .i64 k) rfl (by kernel_rfl) (yieldsIf_load_cell (by rfl) 3 _ rfl _ rfl (fun W hW => (HP1.out.more hW).c1) (fun W hc => ld_int hc)) (by assumption) ?_; simp only [Act.put, lsA, lsB, lsC]; refine tkQ (i := 8) (oi := { dst := some 62, op := Op.load 3 (Operand.tmp 61), type := 3, pos := "ref.go:34", after := #[{ on := 7, ground := Ground.data }], guard := none }) (v := .int .i64 v) rfl (by kernel_rfl) (yieldsIf_load_cell (by rfl) 3 _ rfl _ rfl (fun W hW => (HP1.out.more hW).c2) (fun W hc => ld_int hc)) (by assumption) ?_
  simp only [Act.put, lsA, lsB, lsC]; refine tkQ (i := 12) (oi := { dst := some 66, op := Op.load 3 (Operand.tmp 65), type := 3, pos := "ref.go:34", after := #[{ on := 11, ground := Ground.data }], guard := none }) (v := .int .i64 r) rfl (by kernel_rfl) (yieldsIf_load_cell (by rfl) 3 _ rfl _ rfl (fun W hW => (HP1.out.more hW).c3) (fun W hc => ld_int hc)) (by assumption) ?_; simp only [Act.put, lsA, lsB, lsC]; refine tkQ (i := 16) (oi := { dst := some 70, op := Op.load 43 (Operand.tmp 69), type := 43, pos := "ref.go:34", after := #[{ on := 15, ground := Ground.data }], guard := none }) (v := .slice ao l.length cp) rfl (by kernel_rfl) (yieldsIf_load_cell (by rfl) 43 _ rfl _ rfl (fun W hW => (HP1.out.more hW).c5) (fun W hc => ld_strings hc)) (by assumption) ?_; simp only [Act.put, lsA, lsB, lsC]; refine tkQ (i := 21) (oi := { dst := some 75, op := Op.load 9 (Operand.tmp 74), type := 9, pos := "ref.go:34", after := #[{ on := 20, ground := Ground.data }], guard := none }) (v := .string h) rfl (by kernel_rfl) (yieldsIf_load_cell (by rfl) 9 _ rfl _ rfl (fun W hW => (HP1.out.more hW).c4) (fun W hc => ld_string hc)) (by assumption) ?_; simp only [Act.put, lsA, lsB, lsC]; refine tkQ (i := 26) (oi := { dst := some 80, op := Op.load 9 (Operand.tmp 79), type := 9, pos := "ref.go:34", after := #[{ on := 25, ground := Ground.data }], guard := none }) (v := .string h) rfl (by kernel_rfl) (yieldsIf_load_cell (by rfl) 9 _ rfl _ rfl (fun W hW => (HP1.out.more hW).c4) (fun W hc => ld_string hc)) (by assumption) ?_
  simp only [Act.put, lsA, lsB, lsC]; refine tkQ (i := 17) (oi := { dst := some 71, op := Op.call { callee := Callee.builtin Builtin.len, args := #[Operand.tmp 70], argTypes := #[43] }, type := 3, pos := "ref.go:34", after := #[{ on := 16, ground := Ground.data }], guard := none }) (v := .int .i64 (l.length : Int)) rfl (by kernel_rfl) (Or.inl ⟨by rfl, fun w' hSw => by clear hSw; go_simp⟩) (by assumption) ?_; simp only [Act.put, lsA, lsB, lsC]; refine tkQ (i := 22) (oi := { dst := some 76, op := Op.call { callee := Callee.builtin Builtin.len, args := #[Operand.tmp 75], argTypes := #[9] }, type := 3, pos := "ref.go:34", after := #[{ on := 21, ground := Ground.data }], guard := none }) (v := .int .i64 (h.size : Int)) rfl (by kernel_rfl) (Or.inl ⟨by rfl, fun w' hSw => by clear hSw; go_simp⟩) (by assumption) ?_; simp only [Act.put, lsA, lsB, lsC]; refine wpAnyH_ready (rs := [2]) (by kernel_rfl) (by simp) ?_; refine AllReadyH.cons (o := { dst := some 56, op := Op.call { callee := Callee.value (Operand.func 93), args := #[Operand.tmp 55, Operand.const (Value.int IntKind.i64 8)], argTypes := #[3, 3] }, type := 9, pos := "ref.go:34", after := #[{ on := 1, ground := Ground.data }], guard := none }) rfl (fun K hK => ?_) AllReadyH.nil
  go_simp
  refine (H1.out _ (hide (Only.drew _ _))).mono ?_; rintro e x1 ⟨rfl, HX1, _⟩; refine hK.out _ _ (HX1.out) (fun hHeld => ?_); clear hK K
  try simp only [Act.put, lsA, lsB, lsC]
  refine wpAnyH_ready (rs := [5]) (by kernel_rfl) (by simp) ?_; refine AllReadyH.cons (o := { dst := some 59, op := Op.call { callee := Callee.value (Operand.func 93), args := #[Operand.tmp 58, Operand.const (Value.int IntKind.i64 1)], argTypes := #[3, 3] }, type := 9, pos := "ref.go:34", after := #[{ on := 4, ground := Ground.data }, { on := 2, ground := Ground.chain }], guard := none }) rfl (fun K hK => ?_) AllReadyH.nil
  go_simp
  refine (H2.out _ HX1).mono ?_; rintro e x2 ⟨rfl, HX2, _⟩; refine hK.out _ _ (HX2.out) (fun hHeld => ?_); clear hK K
  try simp only [Act.put, lsA, lsB, lsC]
  refine tkQ (i := 6) (oi := { dst := some 60, op := Op.binOp BinOp.add 9 (Operand.tmp 56) (Operand.tmp 59) 9, type := 9, pos := "ref.go:34", after := #[{ on := 2, ground := Ground.data }, { on := 5, ground := Ground.data }], guard := none }) (v := .string C1) rfl (by kernel_rfl) (Or.inl ⟨by rfl, fun w' hSw => by clear hSw; go_simp⟩) (by assumption) ?_; simp only [Act.put, lsA, lsB, lsC]; refine wpAnyH_ready (rs := [9]) (by kernel_rfl) (by simp) ?_; refine AllReadyH.cons (o := { dst := some 63, op := Op.call { callee := Callee.value (Operand.func 93), args := #[Operand.tmp 62, Operand.const (Value.int IntKind.i64 1)], argTypes := #[3, 3] }, type := 9, pos := "ref.go:34", after := #[{ on := 8, ground := Ground.data }, { on := 5, ground := Ground.chain }], guard := none }) rfl (fun K hK => ?_) AllReadyH.nil
  go_simp
  refine (H3.out _ HX2).mono ?_; rintro e x3 ⟨rfl, HX3, _⟩; refine hK.out _ _ (HX3.out) (fun hHeld => ?_); clear hK K
  try simp only [Act.put, lsA, lsB, lsC]
  refine tkQ (i := 10) (oi := { dst := some 64, op := Op.binOp BinOp.add 9 (Operand.tmp 60) (Operand.tmp 63) 9, type := 9, pos := "ref.go:34", after := #[{ on := 6, ground := Ground.data }, { on := 9, ground := Ground.data }], guard := none }) (v := .string C2) rfl (by kernel_rfl) (Or.inl ⟨by rfl, fun w' hSw => by clear hSw; go_simp⟩) (by assumption) ?_; simp only [Act.put, lsA, lsB, lsC]; refine wpAnyH_ready (rs := [13]) (by kernel_rfl) (by simp) ?_; refine AllReadyH.cons (o := { dst := some 67, op := Op.call { callee := Callee.value (Operand.func 93), args := #[Operand.tmp 66, Operand.const (Value.int IntKind.i64 4)], argTypes := #[3, 3] }, type := 9, pos := "ref.go:34", after := #[{ on := 12, ground := Ground.data }, { on := 9, ground := Ground.chain }], guard := none }) rfl (fun K hK => ?_) AllReadyH.nil
  go_simp
  refine (H4.out _ HX3).mono ?_; rintro e x4 ⟨rfl, HX4, _⟩; refine hK.out _ _ (HX4.out) (fun hHeld => ?_); clear hK K
  try simp only [Act.put, lsA, lsB, lsC]
  refine tkQ (i := 14) (oi := { dst := some 68, op := Op.binOp BinOp.add 9 (Operand.tmp 64) (Operand.tmp 67) 9, type := 9, pos := "ref.go:34", after := #[{ on := 10, ground := Ground.data }, { on := 13, ground := Ground.data }], guard := none }) (v := .string C3) rfl (by kernel_rfl) (Or.inl ⟨by rfl, fun w' hSw => by clear hSw; go_simp⟩) (by assumption) ?_; simp only [Act.put, lsA, lsB, lsC]; refine wpAnyH_ready (rs := [18]) (by kernel_rfl) (by simp) ?_; refine AllReadyH.cons (o := { dst := some 72, op := Op.call { callee := Callee.value (Operand.func 93), args := #[Operand.tmp 71, Operand.const (Value.int IntKind.i64 1)], argTypes := #[3, 3] }, type := 9, pos := "ref.go:34", after := #[{ on := 17, ground := Ground.data }, { on := 13, ground := Ground.chain }], guard := none }) rfl (fun K hK => ?_) AllReadyH.nil
  go_simp
  refine (H5.out _ HX4).mono ?_; rintro e x5 ⟨rfl, HX5, _⟩; refine hK.out _ _ (HX5.out) (fun hHeld => ?_); clear hK K
  try simp only [Act.put, lsA, lsB, lsC]
  refine tkQ (i := 19) (oi := { dst := some 73, op := Op.binOp BinOp.add 9 (Operand.tmp 68) (Operand.tmp 72) 9, type := 9, pos := "ref.go:34", after := #[{ on := 14, ground := Ground.data }, { on := 18, ground := Ground.data }], guard := none }) (v := .string C4) rfl (by kernel_rfl) (Or.inl ⟨by rfl, fun w' hSw => by clear hSw; go_simp⟩) (by assumption) ?_; simp only [Act.put, lsA, lsB, lsC]; refine wpAnyH_ready (rs := [23]) (by kernel_rfl) (by simp) ?_; refine AllReadyH.cons (o := { dst := some 77, op := Op.call { callee := Callee.value (Operand.func 93), args := #[Operand.tmp 76, Operand.const (Value.int IntKind.i64 1)], argTypes := #[3, 3] }, type := 9, pos := "ref.go:34", after := #[{ on := 22, ground := Ground.data }, { on := 18, ground := Ground.chain }], guard := none }) rfl (fun K hK => ?_) AllReadyH.nil
  go_simp
  refine (H6.out _ HX5).mono ?_; rintro e x6 ⟨rfl, HX6, _⟩; refine hK.out _ _ (HX6.out) (fun hHeld => ?_); clear hK K
  try simp only [Act.put, lsA, lsB, lsC]
  refine tkQ (i := 24) (oi := { dst := some 78, op := Op.binOp BinOp.add 9 (Operand.tmp 73) (Operand.tmp 77) 9, type := 9, pos := "ref.go:34", after := #[{ on := 19, ground := Ground.data }, { on := 23, ground := Ground.data }], guard := none }) (v := .string C5) rfl (by kernel_rfl) (Or.inl ⟨by rfl, fun w' hSw => by clear hSw; go_simp⟩) (by assumption) ?_; simp only [Act.put, lsA, lsB, lsC]; refine tkQ (i := 27) (oi := { dst := some 81, op := Op.binOp BinOp.add 9 (Operand.tmp 78) (Operand.tmp 80) 9, type := 9, pos := "ref.go:34", after := #[{ on := 24, ground := Ground.data }, { on := 26, ground := Ground.data }], guard := none }) (v := .string C6) rfl (by kernel_rfl) (Or.inl ⟨by rfl, fun w' hSw => by clear hSw; go_simp⟩) (by assumption) ?_; simp only [Act.put, lsA, lsB, lsC]; refine tkQ (i := 28) (oi := { dst := some 4, op := Op.assign (Operand.tmp 81), type := 9, pos := "ref.go:34", after := #[{ on := 27, ground := Ground.data }, { on := 23, ground := Ground.chain }, { on := 0, ground := Ground.phase }, { on := 1, ground := Ground.phase }, { on := 2, ground := Ground.phase }, { on := 3, ground := Ground.phase }, { on := 4, ground := Ground.phase }, { on := 5, ground := Ground.phase }, { on := 6, ground := Ground.phase }, { on := 7, ground := Ground.phase }, { on := 8, ground := Ground.phase }, { on := 9, ground := Ground.phase }, { on := 10, ground := Ground.phase }, { on := 11, ground := Ground.phase }, { on := 12, ground := Ground.phase }, { on := 13, ground := Ground.phase }, { on := 14, ground := Ground.phase }, { on := 15, ground := Ground.phase }, { on := 16, ground := Ground.phase }, { on := 17, ground := Ground.phase }, { on := 18, ground := Ground.phase }, { on := 19, ground := Ground.phase }, { on := 20, ground := Ground.phase }, { on := 21, ground := Ground.phase }, { on := 22, ground := Ground.phase }, { on := 23, ground := Ground.phase }, { on := 24, ground := Ground.phase }, { on := 25, ground := Ground.phase }, { on := 26, ground := Ground.phase }, { on := 27, ground := Ground.phase }], guard := none }) (v := .string C6) rfl (by kernel_rfl) (Or.inl ⟨by rfl, fun w' hSw => by clear hSw; go_simp⟩) (by assumption) ?_
  simp only [Act.put, lsA, lsB, lsC]; refine wpAnyH_done (by kernel_rfl) ?_ _; refine NoPanic.normal ?_
  -- r5}
  rw [Exit.then]; have HX : Hid (Only (fun _ => False) w1 x6) := hHeld; obtain ⟨hd, hhd⟩ : ∃ hd, Pg.head ⟨a, k, v, r, h, l⟩ ++ bl h = hd := ⟨_, rfl⟩
  have HHL : Hid (hd.length + isz l ≤ 508 ∧ hd.length + isz l + (512 - N) = 508) := by
    unfold Hid; rw [← hhd, List.length_append, head_len, bl_len]; have := HF2.out; have := HN.out
    omega
  have HBD : Hid (hd ++ itemsL l ++ List.replicate (512 - N) 0 = Pg.body ⟨a, k, v, r, h, l⟩) := by
    unfold Hid; rw [← hhd, ← HN.out]
    simp [Pg.body, Pg.front, Pg.size]
  rw [hhd] at HC6; clear hhd hC1 hC2 hC3 hC4 hC5 hC6 l1 l2 l3 l4 l5 l6 H1 H2 H3 H4 H5 H6 HX1 HX2 HX3 HX4 HX5 HX6 hHeld p0 p1 p2 p3 p4 p5
  go_wp2_with fail
  go_loopw [4, 5] (fun x y wr => ∃ (j : Nat) (X : ByteArray), j ≤ l.length ∧ y = .int .i64 (j : Int) ∧ x = .string X ∧ Hid (X = str (hd ++ itemsL (l.take j))) ∧ Hid (Only (fun _ => False) w1 wr)) (fun _ y _ => l.length - (intOf y).toNat)
  case atStart => exact ⟨0, C6, by omega, rfl, rfl, HC6, HX⟩
  case round =>
    obtain ⟨j, X, hj, rfl, rfl, HE, HO⟩ := hrel; obtain ⟨p0, p1, p2, p3, p4, p5, _⟩ := HP1.out.more HO.out
    by_cases hlt : j < l.length
    · obtain ⟨o1, e1, c1⟩ := (HS.out.more (o2 HO1.out HO.out)).at_ (by omega)
      have hBlt := (HS.out.more (o2 HO1.out HO.out)).lt (by omega); have k1 := c1 j hlt; have hz := HS.out.size l[j] (List.getElem_mem hlt)
      have hj1 : (j : Int) < (l.length : Int) := by omega
      have hj0 : (0 : Int) ≤ (j : Int) := by omega
      have HT : Hid (itemsL (l.take (j + 1)) = itemsL (l.take j) ++ (bigF 2 l[j].size ++ bl l[j])) := itemsL_snoc l j hlt
      have HB2 : Hid (hd.length + isz (l.take j) + 2 + l[j].size ≤ 508) := by
        have h1 := HHL.out.1; have h2 := isz_snoc l j hlt
        have h3 : isz (l.take (j + 1)) ≤ isz l := by
          conv => rhs; rw [← List.take_append_drop (j + 1) l, isz_app]
          omega
        unfold Hid
        omega
      obtain ⟨s, hs⟩ : ∃ s, l[j] = s := ⟨_, rfl⟩; rw [hs] at k1 hz HT HB2
      have KI : Hid (∀ W, Only (fun _ => False) wr W → W.cell? ⟨B, o1 + j, none⟩ = some (.string s)) := fun W hW => (hW.cell (p := ⟨B, o1 + j, none⟩) hBlt (fun h => h)).trans k1
      obtain ⟨Y, hY⟩ : ∃ Y, str (bigF 2 s.size) = Y := ⟨_, rfl⟩; have hYs := str_len hY; rw [bigF_len] at hYs
      have hXs : X.size = hd.length + isz (l.take j) := by rw [HE.out, str_size, List.length_append, itemsL_len]
      have hb2 := HB2.out; obtain ⟨D1, hD1⟩ : ∃ D, X ++ Y = D := ⟨_, rfl⟩; obtain ⟨D2, hD2⟩ : ∃ D, D1 ++ s = D := ⟨_, rfl⟩
      have hD1s : D1.size = X.size + Y.size := by rw [← hD1, ByteArray.size_append]
      have m1 : X.size + Y.size ≤ 9223372036854775807 := by omega
      have m2 : D1.size + s.size ≤ 9223372036854775807 := by omega
      have HD2 : Hid (D2 = str (hd ++ itemsL (l.take (j + 1)))) := by
        unfold Hid; rw [← hD2, ← hD1, ← hY, HE.out, HT.out, str_cat, str_app]; simp only [List.append_assoc]
      have H9 : Hid (∀ W, Calls Tryz.prog 93 #[.int .i64 (s.size : Int), .int .i64 2] W fun e w' => e = .returned (.string Y) ∧ Only (fun _ => False) W w') := fun W => by
        have h1 := refBig_any s.size 2 W (by omega) (by omega) (by omega); rw [← hY]
        exact h1
      have HPR := hide (HP1.out.more HO.out); clear c1 hs hBlt k1 hXs hb2 hD1s hY hYs HT HB2 p0 p1 p2 p3 p4; subst e1
      go_upto_region 9 with fail
      -- {r9
      refine wp_region_noPanic ?_; refine wp_region_held_drew (S := fun W => Only (fun _ => False) wr W) (by kernel_rfl) (Only.drew _ _) (fun hHeld => ?_); refine tkQ (i := 0) (oi := { dst := some 89, op := Op.move (Operand.tmp 4), type := 9, pos := "ref.go:36", after := #[], guard := none }) (v := .string X) rfl (by kernel_rfl) (Or.inl ⟨by rfl, fun w' hSw => by clear hSw; go_simp⟩) (by assumption) ?_; simp only [Act.put, lsA, lsB, lsC]; refine tkQ (i := 1) (oi := { dst := some 90, op := Op.fieldAddr 45 (Operand.tmp 1) 5, type := 0, pos := "ref.go:36", after := #[], guard := none }) (v := .pointer (some ⟨w.heap.size, 5, none⟩)) rfl (by kernel_rfl) (Or.inl ⟨by rfl, fun w' hSw => by clear hSw; go_simp⟩) (by assumption) ?_; simp only [Act.put, lsA, lsB, lsC]; refine tkQ (i := 3) (oi := { dst := some 92, op := Op.move (Operand.tmp 5), type := 3, pos := "ref.go:36", after := #[], guard := none }) (v := .int .i64 (j : Int)) rfl (by kernel_rfl) (Or.inl ⟨by rfl, fun w' hSw => by clear hSw; go_simp⟩) (by assumption) ?_; simp only [Act.put, lsA, lsB, lsC]; refine tkQ (i := 9) (oi := { dst := some 98, op := Op.fieldAddr 45 (Operand.tmp 1) 5, type := 0, pos := "ref.go:36", after := #[], guard := none }) (v := .pointer (some ⟨w.heap.size, 5, none⟩)) rfl (by kernel_rfl) (Or.inl ⟨by rfl, fun w' hSw => by clear hSw; go_simp⟩) (by assumption) ?_; simp only [Act.put, lsA, lsB, lsC]; refine tkQ (i := 11) (oi := { dst := some 100, op := Op.move (Operand.tmp 5), type := 3, pos := "ref.go:36", after := #[], guard := none }) (v := .int .i64 (j : Int)) rfl (by kernel_rfl) (Or.inl ⟨by rfl, fun w' hSw => by clear hSw; go_simp⟩) (by assumption) ?_
      simp only [Act.put, lsA, lsB, lsC]; refine tkQ (i := 2) (oi := { dst := some 91, op := Op.load 43 (Operand.tmp 90), type := 43, pos := "ref.go:36", after := #[{ on := 1, ground := Ground.data }], guard := none }) (v := .slice (some ⟨B, o1, none⟩) l.length cp) rfl (by kernel_rfl) (yieldsIf_load_cell (by rfl) 43 _ rfl _ rfl (fun W hW => (HPR.out.more hW).c5) (fun W hc => ld_strings hc)) (by assumption) ?_; simp only [Act.put, lsA, lsB, lsC]; refine tkQ (i := 10) (oi := { dst := some 99, op := Op.load 43 (Operand.tmp 98), type := 43, pos := "ref.go:36", after := #[{ on := 9, ground := Ground.data }], guard := none }) (v := .slice (some ⟨B, o1, none⟩) l.length cp) rfl (by kernel_rfl) (yieldsIf_load_cell (by rfl) 43 _ rfl _ rfl (fun W hW => (HPR.out.more hW).c5) (fun W hc => ld_strings hc)) (by assumption) ?_; simp only [Act.put, lsA, lsB, lsC]; refine tkQ (i := 4) (oi := { dst := some 93, op := Op.indexAddr 43 (Operand.tmp 91) (Operand.tmp 92), type := 0, pos := "ref.go:36", after := #[{ on := 2, ground := Ground.data }, { on := 3, ground := Ground.data }], guard := none }) (v := .pointer (some ⟨B, o1 + j, none⟩)) rfl (by kernel_rfl) (Or.inl ⟨by rfl, fun w' hSw => by clear hSw; go_simp⟩) (by assumption) ?_; simp only [Act.put, lsA, lsB, lsC]; refine tkQ (i := 12) (oi := { dst := some 101, op := Op.indexAddr 43 (Operand.tmp 99) (Operand.tmp 100), type := 0, pos := "ref.go:36", after := #[{ on := 10, ground := Ground.data }, { on := 11, ground := Ground.data }], guard := none }) (v := .pointer (some ⟨B, o1 + j, none⟩)) rfl (by kernel_rfl) (Or.inl ⟨by rfl, fun w' hSw => by clear hSw; go_simp⟩) (by assumption) ?_
      simp only [Act.put, lsA, lsB, lsC]; refine tkQ (i := 5) (oi := { dst := some 94, op := Op.load 9 (Operand.tmp 93), type := 9, pos := "ref.go:36", after := #[{ on := 4, ground := Ground.data }], guard := none }) (v := .string s) rfl (by kernel_rfl) (yieldsIf_load_cell (by rfl) 9 _ rfl _ rfl (fun W hW => KI.out W hW) (fun W hc => ld_string hc)) (by assumption) ?_; simp only [Act.put, lsA, lsB, lsC]; refine tkQ (i := 13) (oi := { dst := some 102, op := Op.load 9 (Operand.tmp 101), type := 9, pos := "ref.go:36", after := #[{ on := 12, ground := Ground.data }], guard := none }) (v := .string s) rfl (by kernel_rfl) (yieldsIf_load_cell (by rfl) 9 _ rfl _ rfl (fun W hW => KI.out W hW) (fun W hc => ld_string hc)) (by assumption) ?_; simp only [Act.put, lsA, lsB, lsC]; refine tkQ (i := 6) (oi := { dst := some 95, op := Op.call { callee := Callee.builtin Builtin.len, args := #[Operand.tmp 94], argTypes := #[9] }, type := 3, pos := "ref.go:36", after := #[{ on := 5, ground := Ground.data }], guard := none }) (v := .int .i64 (s.size : Int)) rfl (by kernel_rfl) (Or.inl ⟨by rfl, fun w' hSw => by clear hSw; go_simp⟩) (by assumption) ?_; simp only [Act.put, lsA, lsB, lsC]; refine wpAnyH_ready (rs := [7]) (by kernel_rfl) (by simp) ?_; refine AllReadyH.cons (o := { dst := some 96, op := Op.call { callee := Callee.value (Operand.func 93), args := #[Operand.tmp 95, Operand.const (Value.int IntKind.i64 2)], argTypes := #[3, 3] }, type := 9, pos := "ref.go:36", after := #[{ on := 6, ground := Ground.data }], guard := none }) rfl (fun K hK => ?_) AllReadyH.nil
      go_simp
      refine (H9.out _).mono ?_; rintro e x1 ⟨rfl, hx1⟩; refine hK.out _ _ (o2 (Only.drew _ _) hx1) (fun hHeld => ?_); clear hK K
      try simp only [Act.put, lsA, lsB, lsC]
      refine tkQ (i := 8) (oi := { dst := some 97, op := Op.binOp BinOp.add 9 (Operand.tmp 89) (Operand.tmp 96) 9, type := 9, pos := "ref.go:36", after := #[{ on := 0, ground := Ground.data }, { on := 7, ground := Ground.data }], guard := none }) (v := .string D1) rfl (by kernel_rfl) (Or.inl ⟨by rfl, fun w' hSw => by clear hSw; go_simp⟩) (by assumption) ?_; simp only [Act.put, lsA, lsB, lsC]; refine tkQ (i := 14) (oi := { dst := some 103, op := Op.binOp BinOp.add 9 (Operand.tmp 97) (Operand.tmp 102) 9, type := 9, pos := "ref.go:36", after := #[{ on := 8, ground := Ground.data }, { on := 13, ground := Ground.data }], guard := none }) (v := .string D2) rfl (by kernel_rfl) (Or.inl ⟨by rfl, fun w' hSw => by clear hSw; go_simp⟩) (by assumption) ?_; simp only [Act.put, lsA, lsB, lsC]; refine tkQ (i := 15) (oi := { dst := some 4, op := Op.assign (Operand.tmp 103), type := 9, pos := "ref.go:36", after := #[{ on := 14, ground := Ground.data }, { on := 7, ground := Ground.chain }, { on := 0, ground := Ground.phase }, { on := 1, ground := Ground.phase }, { on := 2, ground := Ground.phase }, { on := 3, ground := Ground.phase }, { on := 4, ground := Ground.phase }, { on := 5, ground := Ground.phase }, { on := 6, ground := Ground.phase }, { on := 7, ground := Ground.phase }, { on := 8, ground := Ground.phase }, { on := 9, ground := Ground.phase }, { on := 10, ground := Ground.phase }, { on := 11, ground := Ground.phase }, { on := 12, ground := Ground.phase }, { on := 13, ground := Ground.phase }, { on := 14, ground := Ground.phase }], guard := none }) (v := .string D2) rfl (by kernel_rfl) (Or.inl ⟨by rfl, fun w' hSw => by clear hSw; go_simp⟩) (by assumption) ?_
      simp only [Act.put, lsA, lsB, lsC]; refine wpAnyH_done (by kernel_rfl) ?_ _; refine NoPanic.normal ?_
      -- r9}
      have HX9 : Hid (Only (fun _ => False) wr x1) := hHeld; clear hD1 hD2 m1 m2 H9 KI HPR hHeld p5
      go_wp2_with fail
      go_roundw
      case rel => exact ⟨j + 1, D2, by omega, by go_num, rfl, HD2, o2 HO.out HX9.out⟩
      case measure => simp [intOf]; omega
    · have ej : l.take j = l := List.take_of_length_le (by omega)
      rw [ej] at HE; obtain ⟨c, hc⟩ : ∃ c : Nat, 512 - N = c := ⟨_, rfl⟩
      have hXs : X.size = hd.length + isz l := by rw [HE.out, str_size, List.length_append, itemsL_len]
      have hhl := HHL.out; rw [hc] at hhl HBD
      have hsub : (508 : Int) - (X.size : Int) = (c : Int) := by omega
      have hwc : IntKind.i64.wrap (c : Int) = (c : Int) := wraps_i64 _ (by omega) (by omega); obtain ⟨O, hmk, hcv⟩ := zeros_at c (by omega)
      have hcvA : ∀ (W : World) (g : Nat), g = W.heap.size → (convert 80 9 (.slice (some ⟨g, 0, none⟩) c c)).run Tryz.prog (W.alloc O) = .ok (.string (str (List.replicate c 0))) (W.alloc O) := fun W g hg => hcv W g _ hg (Only.refl _ _)
      obtain ⟨Z, hZ⟩ : ∃ Z, str (List.replicate c 0) = Z := ⟨_, rfl⟩; have hZs := str_len hZ; rw [List.length_replicate] at hZs; simp only [hZ] at hcvA; obtain ⟨T, hT⟩ : ∃ T, X ++ Z = T := ⟨_, rfl⟩
      have hTs : T.size = 508 := by rw [← hT, ByteArray.size_append]; omega
      have HT : Hid (T = str (Pg.body ⟨a, k, v, r, h, l⟩)) := by unfold Hid; rw [← hT, HE.out, ← hZ, str_cat, HBD.out]
      have m1 : X.size + Z.size ≤ 9223372036854775807 := by omega
      have m1' : ¬ (9223372036854775807 : Int) < (X.size : Int) + (Z.size : Int) := by omega
      clear hZ hZs hXs hhl hcv
      go_upto_region 10 with fail
      go_wp2_with fail
      have hTle : T.size ≤ 508 := by omega
      have hsb := sum_bd T.data.toList
      have HSUM : Hid (T.data.toList = Pg.body ⟨a, k, v, r, h, l⟩) := by unfold Hid; rw [HT.out]; rfl
      refine (refSum_any T _ (by unfold maxLen; omega)).mono ?_; obtain ⟨z, hz⟩ : ∃ z, sum T.data.toList = z := ⟨_, rfl⟩; rw [hz] at hsb ⊢; rintro e w4 ⟨rfl, rfl⟩; have hz0 := hsb.1; have hz1 := hsb.2; have HO4 : Hid (Only (fun _ => False) w (wr.alloc O)) := o2 (o2 HO1.out HO.out) (onlyA _ _)
      go_wp2_with fail
      refine (refBig_int z 4 _ (by omega) (by omega) hz0 (by omega)).mono ?_; rintro e w5 ⟨rfl, ho5⟩; obtain ⟨Y, hYe⟩ : ∃ Y, str (bigF 4 z.toNat) = Y := ⟨_, rfl⟩
      have hYs : Y.size ≤ 4 := by rw [← hYe, str_size, bigF_len]; omega
      have HFIN : Hid (Y ++ T = str (Pg.enc ⟨a, k, v, r, h, l⟩)) := by unfold Hid; rw [← hYe, HT.out, str_cat, ← hz, HSUM.out]; rfl
      rw [hYe]; have HO5 := hide (o2 HO4.out ho5); clear ho5 hYe hz
      have hXY : ¬ (9223372036854775807 : Int) < (Y.size : Int) + (T.size : Int) := by omega
      go_wp2_with fail
      go_ret2
      rw [← HFIN.out]
      exact ⟨rfl, HO5.out⟩
set_option maxRecDepth 100000 in
set_option maxHeartbeats 1600000 in
theorem yencode_long (w : World) (a k v r : Int) (h : ByteArray) (B cp : Nat) (ao : Option Addr) (l : List ByteArray) (hS : Strs w B ao l) (hh : h.size ≤ 140737488355328) (hr : Pg.inRange ⟨a, k, v, r, h, l⟩) (hf : ¬ Pg.fits ⟨a, k, v, r, h, l⟩) :
    Calls Tryz.prog 65 #[.agg #[.int .i64 a, .int .i64 k, .int .i64 v, .int .i64 r, .string h, .slice ao l.length cp]] w fun e w' => e = .returned (.tuple #[.string (str []), .int .i64 3]) ∧ Only (fun _ => False) w w' := by
  obtain ⟨r0, r1, r2, r3, r4, r5, r6⟩ := hr
  simp only at r0 r1 r2 r3 r4 r5 r6
  have hlen := hS.len; have HS := hide hS; clear hS; obtain ⟨W0, hW0⟩ : ∃ W0, w.alloc (.cells #[.int .i64 a, .int .i64 k, .int .i64 v, .int .i64 r, .string h, .slice ao l.length cp] 45) = W0 := ⟨_, rfl⟩; have HP := hide (Pag.new w (.int .i64 a) (.int .i64 k) (.int .i64 v) (.int .i64 r) (.string h) (.slice ao l.length cp)); have HO0 := hide (onlyA w (.cells #[.int .i64 a, .int .i64 k, .int .i64 v, .int .i64 r, .string h, .slice ao l.length cp] 45)); rw [hW0] at HP HO0; have HW0 := hide hW0; clear hW0; obtain ⟨p0, p1, p2, p3, p4, p5, _⟩ := HP.out
  by_cases h1 : 255 < h.size
  · have hh3 : (255 : Int) < (h.size : Int) := by omega
    clear hf h1
    go_enter Tryz.func65, Tryz.ntmps65
    go_upto_region 1 with fail
    rw [HW0.out]
    go_wp2_with fail
    go_ret2
    exact ⟨rfl, HO0.out⟩
  · have hh3 : ¬ (255 : Int) < (h.size : Int) := by omega
    by_cases h2 : 255 < l.length
    · have hl3 : (255 : Int) < (l.length : Int) := by omega
      clear hf h1 h2
      go_enter Tryz.func65, Tryz.ntmps65
      go_upto_region 1 with fail
      rw [HW0.out]
      go_wp2_with fail
      go_ret2
      exact ⟨rfl, HO0.out⟩
    · have hl3 : ¬ (255 : Int) < (l.length : Int) := by omega
      have h3 : 512 < 20 + h.size + isz l := by
        refine Classical.byContradiction fun h3 => hf ⟨?_, ?_, ?_⟩
        · simp only; omega
        · simp only; omega
        · simp only [Pg.size]; omega
      have HZ := hide (w64_few HS.out.size hh (by omega)); have hbb := isz_le HS.out.size; obtain ⟨N, hN⟩ : ∃ N : Nat, 20 + h.size + isz l = N := ⟨_, rfl⟩
      have hN2 : (20 + h.size + isz l : Int) = N := by omega
      rw [hN2] at HZ; rw [hN] at h3
      have hN5 : (512 : Int) < (N : Int) := by omega
      have HN2 := hide hN2; clear hf h1 h2 hN hN2 hbb h3
      go_enter Tryz.func65, Tryz.ntmps65
      go_upto_region 1 with fail
      rw [HW0.out]
      go_wp2_with fail
      refine (ysize_any W0 a k v r h B cp ao l (HS.out.more HO0.out) hh).mono ?_; rw [HN2.out, HZ.out]; rintro e w1 ⟨rfl, ho1⟩; have HO1 := hide (o2 HO0.out ho1); clear ho1
      go_wp2_with fail
      go_ret2
      exact ⟨rfl, HO1.out⟩
set_option maxRecDepth 100000 in
set_option maxHeartbeats 1600000 in
theorem yencode_range (w : World) (a k v r : Int) (h : ByteArray) (cp n : Nat) (ao : Option Addr) (hr : ¬ (0 ≤ a ∧ 1 ≤ k ∧ k ≤ 3 ∧ 0 ≤ v ∧ v ≤ 255 ∧ 0 ≤ r ∧ r ≤ 4294967295)) :
    Calls Tryz.prog 65 #[.agg #[.int .i64 a, .int .i64 k, .int .i64 v, .int .i64 r, .string h, .slice ao n cp]] w fun e w' => e = .returned (.tuple #[.string (str []), .int .i64 4]) ∧ Only (fun _ => False) w w' := by
  have HR := hide hr; clear hr; obtain ⟨W0, hW0⟩ : ∃ W0, w.alloc (.cells #[.int .i64 a, .int .i64 k, .int .i64 v, .int .i64 r, .string h, .slice ao n cp] 45) = W0 := ⟨_, rfl⟩; have HP := hide (Pag.new w (.int .i64 a) (.int .i64 k) (.int .i64 v) (.int .i64 r) (.string h) (.slice ao n cp)); have HO0 := hide (onlyA w (.cells #[.int .i64 a, .int .i64 k, .int .i64 v, .int .i64 r, .string h, .slice ao n cp] 45)); rw [hW0] at HP HO0; have HW0 := hide hW0; clear hW0; obtain ⟨p0, p1, p2, p3, p4, p5, _⟩ := HP.out
  go_enter Tryz.func65, Tryz.ntmps65
  go_upto_region 1 with fail
  rw [HW0.out]
  go_upto_region 3 with fail
  all_goals first
    | (go_ret2; exact ⟨rfl, HO0.out⟩)
    | exact absurd (by omega) HR.out
theorem yencode_any (w : World) (a k v r : Int) (h : ByteArray) (B cp : Nat) (ao : Option Addr) (l : List ByteArray) (hS : Strs w B ao l) (hh : h.size ≤ 140737488355328) (ha : a < 9223372036854775808) :
    Calls Tryz.prog 65 #[.agg #[.int .i64 a, .int .i64 k, .int .i64 v, .int .i64 r, .string h, .slice ao l.length cp]] w fun e w' => e = .returned (.tuple #[.string (str (Pg.out ⟨a, k, v, r, h, l⟩).1), .int .i64 (Pg.out ⟨a, k, v, r, h, l⟩).2]) ∧ Only (fun _ => False) w w' := by
  by_cases hr : Pg.inRange ⟨a, k, v, r, h, l⟩
  · by_cases hf : Pg.fits ⟨a, k, v, r, h, l⟩
    · rw [out_ok hr hf]
      exact yencode_ok w a k v r h B cp ao l hS ⟨hr, hf, ha⟩
    · rw [out_long hr hf]
      exact yencode_long w a k v r h B cp ao l hS hh hr hf
  · rw [out_range hr]
    exact yencode_range w a k v r h cp l.length ao hr
end Go.Proofs.YtebijheonkagfaaGreatDoor
