/- The document's log: block, Room, Format. -/
import Derived.Test.YtebijheonkagfaaGreatDoorKC
import Derived.Test.YtebijheonkagfaaGreatDoorKDa
import Derived.Deep.DeepCutAuto
namespace Go.Proofs.YtebijheonkagfaaGreatDoor
open Go.RowKit
structure Xl (W : World) (x xd : Nat) (G : Lg) (base : Nat) (v8 : Value) : Prop where
  c0 : W.cell? ⟨x, 0, none⟩ = some (.pointer (some ⟨xd, 0, none⟩))
  c1 : W.cell? ⟨x, 1, none⟩ = some (.int .i64 (G.frm : Int))
  c2 : W.cell? ⟨x, 2, none⟩ = some (.int .i64 (G.n : Int))
  c3 : W.cell? ⟨x, 3, none⟩ = some (.int .i64 1)
  c4 : W.cell? ⟨x, 4, none⟩ = some (.string (str G.stream))
  c5 : W.cell? ⟨x, 5, none⟩ = some (.int .i64 1)
  c6 : W.cell? ⟨x, 6, none⟩ = some (.int .i64 (G.flushed : Int))
  c7 : W.cell? ⟨x, 7, none⟩ = some (.int .i64 0)
  c8 : W.cell? ⟨x, 8, none⟩ = some v8
  fz : ∀ k, W.frozen? ⟨x, k, none⟩ = false
  lt : x < W.heap.size
  pl : W.ownsRow base 3 1 v8 G.places.length (G.places.map (Value.int .i64))
  n2 : v8.ownBlock ≠ some x
  st : G.start = 1
  rs : G.reserved = 0
  tl : G.tail = 1 + G.stream.length
  ok : G.Ok
theorem Xl.kept {S : Nat → Prop} {W W' : World} {x xd : Nat} {G : Lg} {base : Nat} {v8 : Value} (h : Xl W x xd G base v8) (ho : Only S W W') (h1 : ¬ S x) (h3 : ∀ k, v8.ownBlock = some k → ¬ S k) : Xl W' x xd G base v8 := by
  have k : ∀ (j : Nat) (v : Value), W.cell? ⟨x, j, none⟩ = some v → W'.cell? ⟨x, j, none⟩ = some v := fun j v hj => (ho.cell (p := ⟨x, j, none⟩) h.lt h1).trans hj
  exact ⟨k _ _ h.c0, k _ _ h.c1, k _ _ h.c2, k _ _ h.c3, k _ _ h.c4, k _ _ h.c5, k _ _ h.c6, k _ _ h.c7, k _ _ h.c8, fun j => (ho.frozen (p := ⟨x, j, none⟩) h.lt h1).trans (h.fz j), Nat.lt_of_lt_of_le h.lt ho.size, own_only h.pl ho h3, h.n2, h.st, h.rs, h.tl, h.ok⟩
theorem Xl.more {W W' : World} {x xd : Nat} {G : Lg} {base : Nat} {v8 : Value} (h : Xl W x xd G base v8) (ho : Only (fun _ => False) W W') : Xl W' x xd G base v8 := h.kept ho (fun h => h) (fun _ _ h => h)
theorem gltail_any (w : World) (x xd : Nat) (G : Lg) (base : Nat) (v8 : Value) (h : Xl w x xd G base v8) : Calls Tryz.prog 61 #[.pointer (some ⟨x, 0, none⟩)] w fun e w' => e = .returned (.int .i64 (G.tail : Int)) ∧ w' = w.drew := by
  have c3 := h.c3; have c4 := h.c4; have ht := h.tl; have hb := h.ok.big; have hs : (str G.stream).size = G.stream.length := str_size _; obtain ⟨S, hS⟩ : ∃ S, str G.stream = S := ⟨_, rfl⟩; rw [hS] at c4 hs
  have he : 1 + (S.size : Int) = (G.tail : Int) := by omega
  clear h hS
  go_enter Tryz.func61, Tryz.ntmps61
  go_wp2
  go_region
  go_wp2
  go_ret
  exact ⟨by simp; omega, rfl⟩
theorem glflushed_any (w : World) (x xd : Nat) (G : Lg) (base : Nat) (v8 : Value) (h : Xl w x xd G base v8) : Calls Tryz.prog 39 #[.pointer (some ⟨x, 0, none⟩)] w fun e w' => e = .returned (.int .i64 (G.flushed : Int)) ∧ w' = w := by
  have c6 := h.c6; clear h
  go_enter Tryz.func39, Tryz.ntmps39
  go_wp2
  go_ret
  exact ⟨rfl, rfl⟩
theorem glat_any (w : World) (x xd : Nat) (G : Lg) (base : Nat) (v8 : Value) (h : Xl w x xd G base v8) (k : Nat) (hk : k < 1099511627776) : Calls Tryz.prog 123 #[.pointer (some ⟨x, 0, none⟩), .int .i64 (k : Int)] w fun e w' => e = .returned (.int .i64 ((G.frm + k % G.n : Nat) : Int)) ∧ w' = w.drew := by
  have c1 := h.c1; have c2 := h.c2; have h4 := h.ok.n4; have hb := h.ok.nb; have hf := h.ok.fb
  have hm : (k : Int).tmod (G.n : Int) = ((k % G.n : Nat) : Int) := by
    rw [Int.tmod_eq_emod_of_nonneg (by omega)]
    rfl
  have hlt : k % G.n < G.n := Nat.mod_lt _ (by omega)
  have hn0 : ((G.n : Int) == 0) = false := by simpa using by omega
  obtain ⟨q, hq⟩ : ∃ q, k % G.n = q := ⟨_, rfl⟩; rw [hq] at hm hlt ⊢; clear h hq
  go_enter Tryz.func123, Tryz.ntmps123
  go_wp2
  go_region
  go_wp2
  go_ret
  exact ⟨by simp, rfl⟩
theorem xsize_any (w : World) (x a b c ka kb kc : Nat) (D : Dk) (h : Xd w x a b c ka kb kc D) : Calls Tryz.prog 48 #[.pointer (some ⟨x, 0, none⟩)] w fun e w' => e = .returned (.int .i64 (D.old.length : Int)) ∧ w' = w := by
  have c1 := h.c1; have c0 := h.c0; clear h
  go_enter Tryz.func48, Tryz.ntmps48
  go_wp2
  go_ret
  exact ⟨rfl, rfl⟩
theorem zeros_run (w : World) (k : Nat) (hk : k ≤ 1000000) : ∃ w1, (∀ W, Only (fun _ => False) w1 W → (convert 80 9 (.slice (some ⟨w.heap.size, 0, none⟩) k k)).run Tryz.prog W = .ok (.string (str (List.replicate k 0))) W) ∧ Only (fun _ => False) w w1 ∧
    (Instr.makeSlice 80 (.int .i64 (k : Int)) (.int .i64 (k : Int))).run Tryz.prog w = .ok (.slice (some ⟨w.heap.size, 0, none⟩) k k) w1 := by
  obtain ⟨i0, hi, hz0, hz1, hz2⟩ := info_parts Tryz.infoByte; obtain ⟨w1, hmk, hown, hgr⟩ := run_make_full (P := Tryz.prog) w w.heap.size 80 5 i0 (.int .u8 0) 1 Tryz.underlying80 hi hz0 hz1 .i64 .i64 k (by rw [hz2]; omega) (by unfold maxLen; omega) (Nat.le_refl _)
  have hrow : Row w1 w.heap.size (.slice (some ⟨w.heap.size, 0, none⟩) k k) (some w.heap.size) (List.replicate k 0) := by
    refine ⟨?_, rfl⟩
    have e : (madeCells (Value.int .u8 0).cells (k * 1)).toList = cells (List.replicate k 0) := by
      have : (Value.int IntKind.u8 0).cells = #[.int .u8 0] := rfl; rw [this, toList_madeCells_one]; simp [cells]
    rw [e] at hown
    simpa using hown
  exact ⟨w1, fun W hW => bytes_back W _ _ _ _ (hrow.kept hW (fun _ _ h => h)), Only.grown hgr (fun k hk => by cases hk), hmk⟩
theorem byte_run (w : World) (u : UInt8) : (convert 80 9 (.slice (some ⟨w.heap.size, 0, none⟩) 1 1)).run Tryz.prog (w.alloc (.cells #[.int .u8 (u.toNat : Int)] 5)) = .ok (.string (str [u])) (w.alloc (.cells #[.int .u8 (u.toNat : Int)] 5)) := by
  refine run_convert_bytes_back _ 80 9 5 ⟨w.heap.size, 0, none⟩ 1 [u] Tryz.underlying80 Tryz.underlying5 Tryz.underlying9 ?_; intro j hj
  match j, hj with
  | 0, _ => simp [Addr.add]
set_option maxRecDepth 100000 in
set_option maxHeartbeats 1600000 in
theorem glsector_any (w : World) (k : Nat) (held : List UInt8) (hk : k < 4294967295) (h1 : 0 < held.length) (h2 : held.length ≤ 54) :
    Calls Tryz.prog 124 #[.int .i64 (k : Int), .string (str held)] w fun e w' => e = .returned (.string (str (holdL k held))) ∧ Only (fun _ => False) w w' := by
  have HB : Hid (∀ W, Calls Tryz.prog 93 #[.int .i64 ((k : Int) + 1), .int .i64 4] W fun e w' => e = .returned (.string (str (numL k))) ∧ Only (fun _ => False) W w') := fun W => refBig_any (k + 1) 4 W (by omega) (by omega) (by omega)
  have hm : ((k : Int) + 1).tmod 4294967296 = (k : Int) + 1 := by
    rw [Int.tmod_eq_emod_of_nonneg (by omega)]
    omega
  obtain ⟨N, hN⟩ : ∃ N, str (numL k) = N := ⟨_, rfl⟩; obtain ⟨S, hS⟩ : ∃ S, str held = S := ⟨_, rfl⟩
  have hsz : (S.size : Int) = held.length := by rw [← hS, str_size]
  have hNs : N.size = 4 := by rw [← hN, str_size, numL_len]
  obtain ⟨U, hU⟩ : ∃ U, str [UInt8.ofNat held.length] = U := ⟨_, rfl⟩
  have hUs : U.size = 1 := by rw [← hU]; rfl
  obtain ⟨Z, hZ⟩ : ∃ Z, str (List.replicate (54 - held.length) 0) = Z := ⟨_, rfl⟩
  have hZs : Z.size ≤ 54 := by rw [← hZ, str_size]; simp
  have HE : Hid (N ++ U ++ S ++ Z ++ U ++ N = str (holdL k held)) := by
    unfold Hid holdL; rw [if_neg (by intro e; rw [e] at h1; simp at h1), ← hN, ← hU, ← hS, ← hZ]; simp only [str_cat]
    simp
  rw [hN] at HB; rw [hS]
  have hS2 : S.size ≤ 54 := by omega
  have hbyte : (S.size : Int) = ((UInt8.ofNat held.length).toNat : Int) := by
    rw [byte_nat (by omega)]
    exact hsz
  have HBY : Hid (∀ W : World, (convert 80 9 (.slice (some ⟨W.heap.size, 0, none⟩) 1 1)).run Tryz.prog (W.alloc (.cells #[.int .u8 (S.size : Int)] 5)) = .ok (.string U) (W.alloc (.cells #[.int .u8 (S.size : Int)] 5))) := fun W => by
    rw [hbyte, ← hU]
    exact byte_run W _
  have hsub : (54 : Int) - (S.size : Int) = ((54 - held.length : Nat) : Int) := by omega
  have HZR : Hid (∀ W, ∃ w1, (∀ W', Only (fun _ => False) w1 W' → (convert 80 9 (.slice (some ⟨W.heap.size, 0, none⟩) (54 - held.length) (54 - held.length))).run Tryz.prog W' = .ok (.string Z) W') ∧ Only (fun _ => False) W w1 ∧ (Instr.makeSlice 80 (.int .i64 ((54 - held.length : Nat) : Int)) (.int .i64 ((54 - held.length : Nat) : Int))).run Tryz.prog W = .ok (.slice (some ⟨W.heap.size, 0, none⟩) (54 - held.length) (54 - held.length)) w1) := fun W => by
    have := zeros_run W (54 - held.length) (by omega)
    rwa [hZ] at this
  obtain ⟨q, hq⟩ : ∃ q, 54 - held.length = q := ⟨_, rfl⟩; rw [hq] at HZR hsub
  have y1 : N.size + U.size ≤ 9223372036854775807 := by omega
  have y2 : (N ++ U).size + S.size ≤ 9223372036854775807 := by rw [ByteArray.size_append]; omega
  have y3 : (N ++ U ++ S).size + Z.size ≤ 9223372036854775807 := by rw [ByteArray.size_append, ByteArray.size_append]; omega
  have y4 : (N ++ U ++ S ++ Z).size + U.size ≤ 9223372036854775807 := by rw [ByteArray.size_append, ByteArray.size_append, ByteArray.size_append]; omega
  have y5 : (N ++ U ++ S ++ Z ++ U).size + N.size ≤ 9223372036854775807 := by rw [ByteArray.size_append, ByteArray.size_append, ByteArray.size_append, ByteArray.size_append]; omega
  clear hN hS hU hZ hbyte hq hUs hZs hNs hsz h1 h2
  go_enter Tryz.func124, Tryz.ntmps124
  go_wp2_with fail
  refine (HB.out _).mono ?_; rintro e w1 ⟨rfl, ho1⟩; have HO1 := hide ho1; clear ho1; have hby := HBY.out w1; obtain ⟨w2, hcv, ho2, hmk⟩ := HZR.out (w1.alloc (.cells #[.int .u8 (S.size : Int)] 5)); have hcv2 := hcv w2 (Only.refl _ _); have HO2 := hide (o2 (o2 HO1.out (onlyA _ _)) ho2); clear hcv ho2; rw [World.size_alloc] at hmk hcv2
  go_wp2_with fail
  go_ret
  exact ⟨by simp [← HE.out], HO2.out⟩
theorem ld_string {w : World} {p : Addr} {v : Value} (h : w.cell? p = some v) : (loadVar 9 p).run Tryz.prog w = .ok v w := by simp [loadVar, go_sem, h]
theorem ld_pXD {w : World} {p : Addr} {v : Value} (h : w.cell? p = some v) : (loadVar 27 p).run Tryz.prog w = .ok v w := by simp [loadVar, go_sem, h]
theorem ext_blV (s : ByteArray) (i j : Nat) : bl (s.extract i j) = ((bl s).drop i).take (j - i) := by
  unfold bl; rw [ByteArray.data_extract, Array.toList_extract]
theorem bl_injV {s t : ByteArray} (h : bl s = bl t) : s = t := by rw [← str_bl s, h, str_bl]
set_option maxRecDepth 100000 in
set_option maxHeartbeats 1600000 in
theorem glblock_any (w : World) (x xd : Nat) (G : Lg) (base : Nat) (v8 : Value) (h : Xl w x xd G base v8) (k : Nat) (hk : k * 54 ≤ G.stream.length) : Calls Tryz.prog 125 #[.pointer (some ⟨x, 0, none⟩), .int .i64 (k : Int)] w fun e w' => e = .returned (.string (str (G.block k))) ∧ Only (fun _ => False) w w' := by
  have HX := hide h; have c3 := h.c3; have hln := h.ok.ln; obtain ⟨S, hS⟩ : ∃ S, str G.stream = S := ⟨_, rfl⟩
  have hsz : S.size = G.stream.length := by rw [← hS, str_size]
  have HC4 : Hid (∀ W, Only (fun _ => False) w W → W.cell? ⟨x, 4, none⟩ = some (.string S)) := fun W hW => by rw [← hS]; exact (h.more hW).c4
  obtain ⟨M, hM⟩ : ∃ M : Int, min ((k : Int) * 54 + 54) (S.size : Int) = M := ⟨_, rfl⟩
  have hM1 : (k : Int) * 54 ≤ M := by omega
  have hM2 : M ≤ (S.size : Int) := by omega
  have hM0 : 0 ≤ M := by omega
  obtain ⟨R, hR⟩ : ∃ R, S.extract (k * 54) M.toNat = R := ⟨_, rfl⟩
  have HE : Hid (R = str (G.block k)) := by
    unfold Hid; rw [← hR]; refine bl_injV ?_; rw [bl_str, ext_blV]; unfold Lg.block Lg.b0; rw [h.st, ← hS, bl_str]
    have e : (M.toNat - k * 54) = min 54 (G.stream.length - k * 54) := by omega
    rw [e, show ((1 - 1) / 54 : Nat) = 0 from rfl, Nat.sub_zero]; rw [← List.length_drop, ← List.take_take, List.take_length]
  have a1 : ((k : Int) * 54 + 1) - 1 = (k : Int) * 54 := by omega
  have a2 : ((k : Int) * 54).toNat = k * 54 := by omega
  have k0 : 0 ≤ (k : Int) * 54 := by omega
  have k1 : IntKind.i64.wrap ((k : Int) * 54 + 54) = (k : Int) * 54 + 54 := by rw [IntKind.wrap_i64]; omega
  clear h hS hsz
  go_enter Tryz.func125, Tryz.ntmps125
  go_upto_region 2 with fail
  refine wp_region_noPanic ?_; refine wp_region_held_drew (S := fun W => Only (fun _ => False) w W) (by kernel_rfl) (Only.drew _ _) (fun hHeld => ?_); refine tkQ (i := 0) (oi := { dst := some 14, op := Op.move (Operand.tmp 0), type := 33, pos := "ref.go:125", after := #[], guard := none }) (v := .pointer (some ⟨x, 0, none⟩)) rfl (by kernel_rfl) (Or.inl ⟨by rfl, fun w' hSw => by clear hSw; go_simp⟩) (by assumption) ?_; simp only [Act.put, lsA, lsB, lsC]; refine tkQ (i := 4) (oi := { dst := some 18, op := Op.move (Operand.tmp 5), type := 3, pos := "ref.go:125", after := #[], guard := none }) (v := .int .i64 ((k : Int) * 54)) rfl (by kernel_rfl) (Or.inl ⟨by rfl, fun w' hSw => by clear hSw; go_simp⟩) (by assumption) ?_; simp only [Act.put, lsA, lsB, lsC]; refine tkQ (i := 5) (oi := { dst := some 19, op := Op.move (Operand.tmp 5), type := 3, pos := "ref.go:125", after := #[], guard := none }) (v := .int .i64 ((k : Int) * 54)) rfl (by kernel_rfl) (Or.inl ⟨by rfl, fun w' hSw => by clear hSw; go_simp⟩) (by assumption) ?_; simp only [Act.put, lsA, lsB, lsC]; refine tkQ (i := 7) (oi := { dst := some 21, op := Op.move (Operand.tmp 0), type := 33, pos := "ref.go:125", after := #[], guard := none }) (v := .pointer (some ⟨x, 0, none⟩)) rfl (by kernel_rfl) (Or.inl ⟨by rfl, fun w' hSw => by clear hSw; go_simp⟩) (by assumption) ?_; simp only [Act.put, lsA, lsB, lsC]; refine tkQ (i := 1) (oi := { dst := some 15, op := Op.nilCheck (Operand.tmp 14), type := 0, pos := "ref.go:125", after := #[{ on := 0, ground := Ground.data }], guard := none }) (v := .pointer (some ⟨x, 0, none⟩)) rfl (by kernel_rfl) (Or.inl ⟨by rfl, fun w' hSw => by clear hSw; go_simp⟩) (by assumption) ?_
  simp only [Act.put, lsA, lsB, lsC]; refine tkQ (i := 6) (oi := { dst := some 20, op := Op.binOp BinOp.add 3 (Operand.tmp 19) (Operand.const (Value.int IntKind.i64 54)) 3, type := 3, pos := "ref.go:125", after := #[{ on := 5, ground := Ground.data }], guard := none }) (v := .int .i64 ((k : Int) * 54 + 54)) rfl (by kernel_rfl) (Or.inl ⟨by rfl, fun w' hSw => by clear hSw; go_simp⟩) (by assumption) ?_; simp only [Act.put, lsA, lsB, lsC]; refine tkQ (i := 8) (oi := { dst := some 22, op := Op.nilCheck (Operand.tmp 21), type := 0, pos := "ref.go:125", after := #[{ on := 7, ground := Ground.data }], guard := none }) (v := .pointer (some ⟨x, 0, none⟩)) rfl (by kernel_rfl) (Or.inl ⟨by rfl, fun w' hSw => by clear hSw; go_simp⟩) (by assumption) ?_; simp only [Act.put, lsA, lsB, lsC]; refine tkQ (i := 2) (oi := { dst := some 16, op := Op.fieldAddr 88 (Operand.tmp 15) 4, type := 0, pos := "ref.go:125", after := #[{ on := 1, ground := Ground.data }], guard := none }) (v := .pointer (some ⟨x, 4, none⟩)) rfl (by kernel_rfl) (Or.inl ⟨by rfl, fun w' hSw => by clear hSw; go_simp⟩) (by assumption) ?_; simp only [Act.put, lsA, lsB, lsC]; refine tkQ (i := 9) (oi := { dst := some 23, op := Op.fieldAddr 88 (Operand.tmp 22) 4, type := 0, pos := "ref.go:125", after := #[{ on := 8, ground := Ground.data }], guard := none }) (v := .pointer (some ⟨x, 4, none⟩)) rfl (by kernel_rfl) (Or.inl ⟨by rfl, fun w' hSw => by clear hSw; go_simp⟩) (by assumption) ?_; simp only [Act.put, lsA, lsB, lsC]; refine tkQ (i := 3) (oi := { dst := some 17, op := Op.load 9 (Operand.tmp 16), type := 9, pos := "ref.go:125", after := #[{ on := 2, ground := Ground.data }], guard := none }) (v := .string S) rfl (by kernel_rfl) (yieldsIf_load_cell (by rfl) 9 _ rfl _ rfl (fun W hW => HC4.out W hW) (fun W hc => ld_string hc)) (by assumption) ?_
  simp only [Act.put, lsA, lsB, lsC]; refine tkQ (i := 10) (oi := { dst := some 24, op := Op.load 9 (Operand.tmp 23), type := 9, pos := "ref.go:125", after := #[{ on := 9, ground := Ground.data }], guard := none }) (v := .string S) rfl (by kernel_rfl) (yieldsIf_load_cell (by rfl) 9 _ rfl _ rfl (fun W hW => HC4.out W hW) (fun W hc => ld_string hc)) (by assumption) ?_; simp only [Act.put, lsA, lsB, lsC]; refine tkQ (i := 11) (oi := { dst := some 25, op := Op.call { callee := Callee.builtin Builtin.len, args := #[Operand.tmp 24], argTypes := #[9] }, type := 3, pos := "ref.go:125", after := #[{ on := 10, ground := Ground.data }], guard := none }) (v := .int .i64 (S.size : Int)) rfl (by kernel_rfl) (Or.inl ⟨by rfl, fun w' hSw => by clear hSw; go_simp⟩) (by assumption) ?_; simp only [Act.put, lsA, lsB, lsC]; refine tkQ (i := 12) (oi := { dst := some 26, op := Op.call { callee := Callee.builtin Builtin.min, args := #[Operand.tmp 20, Operand.tmp 25], argTypes := #[3, 3] }, type := 3, pos := "ref.go:125", after := #[{ on := 6, ground := Ground.data }, { on := 11, ground := Ground.data }], guard := none }) (v := .int .i64 M) rfl (by kernel_rfl) (Or.inl ⟨by rfl, fun w' hSw => by clear hSw; go_simp⟩) (by assumption) ?_; simp only [Act.put, lsA, lsB, lsC]; refine tkQ (i := 13) (oi := { dst := some 27, op := Op.slice 9 (Operand.tmp 17) (some (Operand.tmp 18)) (some (Operand.tmp 26)) none, type := 9, pos := "ref.go:125", after := #[{ on := 3, ground := Ground.data }, { on := 4, ground := Ground.data }, { on := 12, ground := Ground.data }], guard := none }) (v := .string R) rfl (by kernel_rfl) (Or.inl ⟨by rfl, fun w' hSw => by clear hSw; go_simp⟩) (by assumption) ?_
  simp only [Act.put, lsA, lsB, lsC]; refine tkQ (i := 14) (oi := { dst := some 4, op := Op.assign (Operand.tmp 27), type := 9, pos := "ref.go:125", after := #[{ on := 13, ground := Ground.data }, { on := 0, ground := Ground.phase }, { on := 1, ground := Ground.phase }, { on := 2, ground := Ground.phase }, { on := 3, ground := Ground.phase }, { on := 4, ground := Ground.phase }, { on := 5, ground := Ground.phase }, { on := 6, ground := Ground.phase }, { on := 7, ground := Ground.phase }, { on := 8, ground := Ground.phase }, { on := 9, ground := Ground.phase }, { on := 10, ground := Ground.phase }, { on := 11, ground := Ground.phase }, { on := 12, ground := Ground.phase }, { on := 13, ground := Ground.phase }], guard := none }) (v := .string R) rfl (by kernel_rfl) (Or.inl ⟨by rfl, fun w' hSw => by clear hSw; go_simp⟩) (by assumption) ?_; simp only [Act.put, lsA, lsB, lsC]; refine wpAnyH_done (by kernel_rfl) ?_ _; refine NoPanic.normal ?_; rw [Exit.then]
  go_wp2_with fail
  go_ret
  exact ⟨by rw [← HE.out]; rfl, Only.drew _ _⟩
set_option maxRecDepth 100000 in
set_option maxHeartbeats 1600000 in
theorem glroom_any (w : World) (x xd : Nat) (G : Lg) (base : Nat) (v8 : Value) (h : Xl w x xd G base v8) : Calls Tryz.prog 63 #[.pointer (some ⟨x, 0, none⟩)] w fun e w' => e = .returned (.int .i64 (54 * ((G.n : Int) - 2) - ((G.tail : Int) - 1))) ∧ Only (fun _ => False) w w' := by
  have HX := hide h; have b1 := h.ok.big; have b2 := h.ok.n4; have b3 := h.ok.nb
  have HT : Hid (∀ W, Only (fun _ => False) w W → Calls Tryz.prog 61 #[.pointer (some ⟨x, 0, none⟩)] W fun e w' => e = .returned (.int .i64 (G.tail : Int)) ∧ w' = W.drew) := fun W hW => gltail_any W x xd G base v8 (h.more hW)
  have k1 : IntKind.i64.wrap ((G.n : Int) - 2) = (G.n : Int) - 2 := by rw [IntKind.wrap_i64]; omega
  have k2 : IntKind.i64.wrap (54 * ((G.n : Int) - 2)) = 54 * ((G.n : Int) - 2) := by rw [IntKind.wrap_i64]; omega
  have k3 : IntKind.i64.wrap ((G.tail : Int) - 1) = (G.tail : Int) - 1 := by rw [IntKind.wrap_i64]; omega
  have k4 : IntKind.i64.wrap (54 * ((G.n : Int) - 2) - ((G.tail : Int) - 1)) = 54 * ((G.n : Int) - 2) - ((G.tail : Int) - 1) := by rw [IntKind.wrap_i64]; omega
  clear h
  go_enter Tryz.func63, Tryz.ntmps63
  go_upto_region 1 with fail
  refine wp_region_noPanic ?_; refine wp_region_held_drew (S := fun W => Only (fun _ => False) w W) (by kernel_rfl) (Only.drew _ _) (fun hHeld => ?_); refine tkQ (i := 0) (oi := { dst := some 3, op := Op.move (Operand.tmp 0), type := 33, pos := "ref.go:174", after := #[], guard := none }) (v := .pointer (some ⟨x, 0, none⟩)) rfl (by kernel_rfl) (Or.inl ⟨by rfl, fun w' hSw => by clear hSw; go_simp⟩) (by assumption) ?_; simp only [Act.put, lsA, lsB, lsC]; refine tkQ (i := 6) (oi := { dst := some 9, op := Op.move (Operand.tmp 0), type := 33, pos := "ref.go:174", after := #[], guard := none }) (v := .pointer (some ⟨x, 0, none⟩)) rfl (by kernel_rfl) (Or.inl ⟨by rfl, fun w' hSw => by clear hSw; go_simp⟩) (by assumption) ?_; simp only [Act.put, lsA, lsB, lsC]; refine tkQ (i := 8) (oi := { dst := some 11, op := Op.move (Operand.tmp 0), type := 33, pos := "ref.go:174", after := #[], guard := none }) (v := .pointer (some ⟨x, 0, none⟩)) rfl (by kernel_rfl) (Or.inl ⟨by rfl, fun w' hSw => by clear hSw; go_simp⟩) (by assumption) ?_; simp only [Act.put, lsA, lsB, lsC]; refine tkQ (i := 14) (oi := { dst := some 17, op := Op.move (Operand.tmp 0), type := 33, pos := "ref.go:174", after := #[], guard := none }) (v := .pointer (some ⟨x, 0, none⟩)) rfl (by kernel_rfl) (Or.inl ⟨by rfl, fun w' hSw => by clear hSw; go_simp⟩) (by assumption) ?_; simp only [Act.put, lsA, lsB, lsC]; refine tkQ (i := 1) (oi := { dst := some 4, op := Op.nilCheck (Operand.tmp 3), type := 0, pos := "ref.go:174", after := #[{ on := 0, ground := Ground.data }], guard := none }) (v := .pointer (some ⟨x, 0, none⟩)) rfl (by kernel_rfl) (Or.inl ⟨by rfl, fun w' hSw => by clear hSw; go_simp⟩) (by assumption) ?_
  simp only [Act.put, lsA, lsB, lsC]; refine tkQ (i := 9) (oi := { dst := some 12, op := Op.nilCheck (Operand.tmp 11), type := 0, pos := "ref.go:174", after := #[{ on := 8, ground := Ground.data }], guard := none }) (v := .pointer (some ⟨x, 0, none⟩)) rfl (by kernel_rfl) (Or.inl ⟨by rfl, fun w' hSw => by clear hSw; go_simp⟩) (by assumption) ?_; simp only [Act.put, lsA, lsB, lsC]; refine tkQ (i := 15) (oi := { dst := some 18, op := Op.nilCheck (Operand.tmp 17), type := 0, pos := "ref.go:174", after := #[{ on := 14, ground := Ground.data }], guard := none }) (v := .pointer (some ⟨x, 0, none⟩)) rfl (by kernel_rfl) (Or.inl ⟨by rfl, fun w' hSw => by clear hSw; go_simp⟩) (by assumption) ?_; simp only [Act.put, lsA, lsB, lsC]; refine tkQ (i := 2) (oi := { dst := some 5, op := Op.fieldAddr 88 (Operand.tmp 4) 2, type := 0, pos := "ref.go:174", after := #[{ on := 1, ground := Ground.data }], guard := none }) (v := .pointer (some ⟨x, 2, none⟩)) rfl (by kernel_rfl) (Or.inl ⟨by rfl, fun w' hSw => by clear hSw; go_simp⟩) (by assumption) ?_; simp only [Act.put, lsA, lsB, lsC]; refine tkQ (i := 10) (oi := { dst := some 13, op := Op.fieldAddr 88 (Operand.tmp 12) 5, type := 0, pos := "ref.go:174", after := #[{ on := 9, ground := Ground.data }], guard := none }) (v := .pointer (some ⟨x, 5, none⟩)) rfl (by kernel_rfl) (Or.inl ⟨by rfl, fun w' hSw => by clear hSw; go_simp⟩) (by assumption) ?_; simp only [Act.put, lsA, lsB, lsC]; refine tkQ (i := 16) (oi := { dst := some 19, op := Op.fieldAddr 88 (Operand.tmp 18) 7, type := 0, pos := "ref.go:174", after := #[{ on := 15, ground := Ground.data }], guard := none }) (v := .pointer (some ⟨x, 7, none⟩)) rfl (by kernel_rfl) (Or.inl ⟨by rfl, fun w' hSw => by clear hSw; go_simp⟩) (by assumption) ?_
  simp only [Act.put, lsA, lsB, lsC]; refine tkQ (i := 3) (oi := { dst := some 6, op := Op.load 3 (Operand.tmp 5), type := 3, pos := "ref.go:174", after := #[{ on := 2, ground := Ground.data }], guard := none }) (v := .int .i64 (G.n : Int)) rfl (by kernel_rfl) (yieldsIf_load_cell (by rfl) 3 _ rfl _ rfl (fun W hW => (HX.out.more hW).c2) (fun W hc => ld_int hc)) (by assumption) ?_; simp only [Act.put, lsA, lsB, lsC]; refine tkQ (i := 11) (oi := { dst := some 14, op := Op.load 3 (Operand.tmp 13), type := 3, pos := "ref.go:174", after := #[{ on := 10, ground := Ground.data }], guard := none }) (v := .int .i64 1) rfl (by kernel_rfl) (yieldsIf_load_cell (by rfl) 3 _ rfl _ rfl (fun W hW => (HX.out.more hW).c5) (fun W hc => ld_int hc)) (by assumption) ?_; simp only [Act.put, lsA, lsB, lsC]; refine tkQ (i := 17) (oi := { dst := some 20, op := Op.load 3 (Operand.tmp 19), type := 3, pos := "ref.go:174", after := #[{ on := 16, ground := Ground.data }], guard := none }) (v := .int .i64 0) rfl (by kernel_rfl) (yieldsIf_load_cell (by rfl) 3 _ rfl _ rfl (fun W hW => (HX.out.more hW).c7) (fun W hc => ld_int hc)) (by assumption) ?_; simp only [Act.put, lsA, lsB, lsC]; refine tkQ (i := 4) (oi := { dst := some 7, op := Op.binOp BinOp.sub 3 (Operand.tmp 6) (Operand.const (Value.int IntKind.i64 2)) 3, type := 3, pos := "ref.go:174", after := #[{ on := 3, ground := Ground.data }], guard := none }) (v := .int .i64 ((G.n : Int) - 2)) rfl (by kernel_rfl) (Or.inl ⟨by rfl, fun w' hSw => by clear hSw; go_simp⟩) (by assumption) ?_
  simp only [Act.put, lsA, lsB, lsC]; refine tkQ (i := 5) (oi := { dst := some 8, op := Op.binOp BinOp.mul 3 (Operand.const (Value.int IntKind.i64 54)) (Operand.tmp 7) 3, type := 3, pos := "ref.go:174", after := #[{ on := 4, ground := Ground.data }], guard := none }) (v := .int .i64 (54 * ((G.n : Int) - 2))) rfl (by kernel_rfl) (Or.inl ⟨by rfl, fun w' hSw => by clear hSw; go_simp⟩) (by assumption) ?_; simp only [Act.put, lsA, lsB, lsC]; refine wpAnyH_ready (rs := [7]) (by kernel_rfl) (by simp) ?_; refine AllReadyH.cons (o := { dst := some 10, op := Op.call { callee := Callee.value (Operand.func 61), args := #[Operand.tmp 9], argTypes := #[33] }, type := 3, pos := "ref.go:174", after := #[{ on := 6, ground := Ground.data }], guard := none }) rfl (fun K hK => ?_) (AllReadyH.nil)
  go_simp
  refine (HT.out _ (Only.drew _ _)).mono ?_; rintro e x1 ⟨rfl, hx1⟩
  have HX1 : Hid (Only (fun _ => False) w x1) := by unfold Hid; rw [hx1]; exact o2 (Only.drew _ _) (Only.drew _ _)
  clear hx1; refine hK.out _ _ (HX1.out) (fun hHeld => ?_); clear hK K
  try simp only [Act.put, lsA, lsB, lsC]
  refine tkQ (i := 12) (oi := { dst := some 15, op := Op.binOp BinOp.sub 3 (Operand.tmp 10) (Operand.tmp 14) 3, type := 3, pos := "ref.go:174", after := #[{ on := 7, ground := Ground.data }, { on := 11, ground := Ground.data }], guard := none }) (v := .int .i64 ((G.tail : Int) - 1)) rfl (by kernel_rfl) (Or.inl ⟨by rfl, fun w' hSw => by clear hSw; go_simp⟩) (by assumption) ?_; simp only [Act.put, lsA, lsB, lsC]; refine tkQ (i := 13) (oi := { dst := some 16, op := Op.binOp BinOp.sub 3 (Operand.tmp 8) (Operand.tmp 15) 3, type := 3, pos := "ref.go:174", after := #[{ on := 5, ground := Ground.data }, { on := 12, ground := Ground.data }], guard := none }) (v := .int .i64 (54 * ((G.n : Int) - 2) - ((G.tail : Int) - 1))) rfl (by kernel_rfl) (Or.inl ⟨by rfl, fun w' hSw => by clear hSw; go_simp⟩) (by assumption) ?_; simp only [Act.put, lsA, lsB, lsC]; refine tkQ (i := 18) (oi := { dst := some 21, op := Op.binOp BinOp.sub 3 (Operand.tmp 16) (Operand.tmp 20) 3, type := 3, pos := "ref.go:174", after := #[{ on := 13, ground := Ground.data }, { on := 17, ground := Ground.data }], guard := none }) (v := .int .i64 (54 * ((G.n : Int) - 2) - ((G.tail : Int) - 1))) rfl (by kernel_rfl) (Or.inl ⟨by rfl, fun w' hSw => by clear hSw; go_simp⟩) (by assumption) ?_; simp only [Act.put, lsA, lsB, lsC]; refine tkQ (i := 19) (oi := { dst := some 2, op := Op.assign (Operand.tmp 21), type := 3, pos := "ref.go:174", after := #[{ on := 18, ground := Ground.data }, { on := 7, ground := Ground.chain }, { on := 0, ground := Ground.phase }, { on := 1, ground := Ground.phase }, { on := 2, ground := Ground.phase }, { on := 3, ground := Ground.phase }, { on := 4, ground := Ground.phase }, { on := 5, ground := Ground.phase }, { on := 6, ground := Ground.phase }, { on := 7, ground := Ground.phase }, { on := 8, ground := Ground.phase }, { on := 9, ground := Ground.phase }, { on := 10, ground := Ground.phase }, { on := 11, ground := Ground.phase }, { on := 12, ground := Ground.phase }, { on := 13, ground := Ground.phase }, { on := 14, ground := Ground.phase }, { on := 15, ground := Ground.phase }, { on := 16, ground := Ground.phase }, { on := 17, ground := Ground.phase }, { on := 18, ground := Ground.phase }], guard := none }) (v := .int .i64 (54 * ((G.n : Int) - 2) - ((G.tail : Int) - 1))) rfl (by kernel_rfl) (Or.inl ⟨by rfl, fun w' hSw => by clear hSw; go_simp⟩) (by assumption) ?_
  simp only [Act.put, lsA, lsB, lsC]; refine wpAnyH_done (by kernel_rfl) ?_ _; refine NoPanic.normal ?_; rw [Exit.then]
  go_wp2_with fail
  go_ret
  exact ⟨rfl, HX1.out⟩
theorem glright_30 (w : World) (x a b c ka kb kc : Nat) (D : Dk) (h : Xd w x a b c ka kb kc D) (hD : D.old.length = 2000) : Calls Tryz.prog 43 #[.pointer (some ⟨x, 0, none⟩), .int .i64 0, .int .i64 30] w fun e w' => e = .returned (.bool true) ∧ w' = w := by
  have HS := hide (xsize_any w x a b c ka kb kc D h); rw [hD] at HS; clear h hD
  go_enter Tryz.func43, Tryz.ntmps43
  go_wp2_with (go_at_call 48; refine HS.out.mono ?_; rintro e w' ⟨rfl, hw⟩; obtain rfl := hw.symm; clear hw)
  go_ret
  exact ⟨rfl, rfl⟩
set_option maxRecDepth 100000 in
set_option maxHeartbeats 1600000 in
theorem glformat_30 (w : World) (x a b c ka kb kc : Nat) (D : Dk) (h : Xd w x a b c ka kb kc D) (hD : D.old.length = 2000) (hw2 : (D.write 0 (List.replicate 1920 0)).2 = 0) (hs2 : (D.write 0 (List.replicate 1920 0)).1.sync.2 = 0) :
    Calls Tryz.prog 7 #[.pointer (some ⟨x, 0, none⟩), .int .i64 0, .int .i64 30] w fun e w' =>
      ∃ m, e = .returned (.tuple #[.pointer (some ⟨m, 0, none⟩), .int .i64 0]) ∧ Xd w' x a b c ka kb kc (D.write 0 (List.replicate 1920 0)).1.sync.1 ∧ Xl w' m x (Lg.new 0 30) w'.heap.size (.slice none 0 0) ∧ w.heap.size ≤ m ∧ Only (xown x a b c) w w' := by
  have HX := hide h; have HRI := hide (glright_30 w x a b c ka kb kc D h hD); obtain ⟨w1, hcv, ho1, hmk⟩ := zeros_run w 1920 (by omega); obtain ⟨Z, hZ⟩ : ∃ Z, str (List.replicate 1920 0) = Z := ⟨_, rfl⟩; have hcv2 := hcv w1 (Only.refl _ _); rw [hZ] at hcv2; have hmk : (Instr.makeSlice 80 (.int .i64 1920) (.int .i64 1920)).run Tryz.prog w = .ok (.slice (some ⟨w.heap.size, 0, none⟩) 1920 1920) w1 := hmk; have HW := hide (xwrite_any w1 x a b c ka kb kc D (h.same ho1) 0 Z (by omega) (by rw [← hZ, str_size]; simp))
  have e0 : Z.data.toList = List.replicate 1920 0 := by rw [← hZ]; rfl
  rw [e0, hw2] at HW; have HO1 := hide ho1; have HS2 := hide hs2; clear hcv ho1 hZ e0 h hD hw2 hs2; obtain ⟨D1, hD1⟩ : ∃ D1, (D.write 0 (List.replicate 1920 0)).1 = D1 := ⟨_, rfl⟩; rw [hD1] at HW HS2 ⊢; clear hD1
  go_enter Tryz.func7, Tryz.ntmps7
  go_wp2_with fail
  refine HRI.out.mono ?_; rintro e w0 ⟨rfl, hw⟩; obtain rfl := hw.symm; clear hw
  go_wp2_with fail
  refine HW.out.mono ?_; rintro e w2 ⟨rfl, hx2, ho2⟩; have HX2 := hide hx2; have HO2 : Hid (Only (xown x a b c) w w2) := (HO1.out.mono (fun _ _ e => e.elim)).trans ho2 (fun _ _ e => e); clear hx2 ho2
  go_wp2_with fail
  refine (xsync_any w2 x a b c ka kb kc D1 HX2.out).mono ?_; rintro e w3 ⟨rfl, hx3, ho3⟩; rw [HS2.out]; have HX3 := hide hx3; have HO3 := hide (HO2.out.trans ho3 (fun _ _ e => e)); clear hx3 ho3
  go_wp2_with fail
  go_ret2
  refine ⟨w3.heap.size, rfl, HX3.out.same (onlyA _ _), ?_, HO3.out.size, HO3.out.trans (onlyA _ _) (fun _ _ e => e.elim)⟩; refine ⟨by simp, by simp [Lg.new], by simp [Lg.new], by simp, by simp [Lg.new, str], by simp, by simp [Lg.new], by simp, by simp, fun j => by simp, by simp, ?_, by simp [Value.ownBlock], rfl, rfl, rfl, ?_⟩
  · exact World.ownsRow_nil _ _ _ _
  · exact ⟨by decide, by decide, by decide, by decide, by decide, by decide, by decide, by decide, by decide⟩
end Go.Proofs.YtebijheonkagfaaGreatDoor
