/- What Begin does. -/
import Derived.Test.YtmcghpeamnmbpaaOFind
import Derived.Deep.RegionHeld3
namespace Go.Proofs.Ytmcghpeamnmbpaa
open Go.RowKit Go.Maps

theorem yieldsIf_load_cell {ops : Array Oper} {S : World → Prop} {op : Oper} {a : Act} {v : Value} (hw : Region.wanted op (yielded ops a.tmps) = true) (ty : TypeId) (x : Operand) (ho : op.op = .load ty x)
    (p : Addr) (hx : a.eval x = .pointer (some p)) (hS : ∀ w, S w → w.cell? p = some v) (hl : ∀ w, w.cell? p = some v → (loadVar ty p).run Try.prog w = .ok v w) : YieldsIf Try.prog ops S op v a :=
  .inl ⟨hw, fun w hw' => by
    unfold execOp
    simp only [ho, hx, Instr.loadAt, Instr.sureAddr, Sem.run_bind, Sem.run_pure, Result.andThen_ok, hl w (hS w hw')]⟩
theorem ld_txopens {w : World} {p : Addr} {v : Value} (h : w.cell? p = some v) : (loadVar 61 p).run Try.prog w = .ok v w := by simp [loadVar, go_sem, h]
theorem load_sn {w : World} {b : Nat} {v0 v1 : Value} (h : Cb w b [v0, v1]) : (loadVar 29 ⟨b, 0, none⟩).run Try.prog w = .ok (.agg #[v0, v1]) w := by
  have c0 := h.c 0 _ rfl
  have c1 := h.c 1 _ rfl
  simp [loadVar, go_sem, c0, c1]
theorem yieldsIf_load_sn {ops : Array Oper} {S : World → Prop} {op : Oper} {a : Act} {v0 v1 : Value} (hw : Region.wanted op (yielded ops a.tmps) = true) (x : Operand) (ho : op.op = .load 29 x)
    (b : Nat) (hx : a.eval x = .pointer (some ⟨b, 0, none⟩)) (hS : ∀ w, S w → Cb w b [v0, v1]) : YieldsIf Try.prog ops S op (.agg #[v0, v1]) a :=
  .inl ⟨hw, fun w hw' => by
    unfold execOp
    simp only [ho, hx, Instr.loadAt, Instr.sureAddr, Sem.run_bind, Sem.run_pure, Result.andThen_ok, load_sn (hS w hw')]⟩
theorem begin_nil (w : World) (a nx : Int) (v : Value) : Calls Try.prog 10 #[.pointer none, .int .i64 a, .agg #[.int .i64 nx, v]] w fun e w' => e = .returned (.int .i64 2) ∧ Only (fun _ => False) w w' := by
  have HO := hide (onlyA w #[.int .i64 nx, v] 29)
  go_enter Try.func10, Try.ntmps10
  go_wp2_with fail
  go_ret
  exact ⟨rfl, HO.out⟩
set_option maxRecDepth 100000 in
set_option maxHeartbeats 1600000 in
theorem begin_any (w : World) (Z : Nat → Prop) (t m n : Nat) (g : Gm) (f : Tt) (H : Tabg w Z t m n g f) (hZ : ∀ k, Z k → k < w.heap.size) (hn : n < maxLen) (a : Int) (ha : N64 a) (Q : Nat → Prop) (nx : Int) (ao : Option Addr) (cp : Nat) (L : List Int) (hL : Nm w Q ao L) :
    Calls Try.prog 10 #[.pointer (some ⟨t, 0, none⟩), .int .i64 a, .agg #[.int .i64 nx, .slice ao L.length cp]] w fun e w' => e = .returned (.int .i64 (beginE f a)) ∧ Tab w' (Zp Z w.heap.size) t m (n + 1) (beginF f a nx L) ∧ Only (fun k => k = m) w w' := by
  have HO := hide (onlyA w #[.int .i64 nx, .slice ao L.length cp] 29)
  have HSB : Hid (Cb (w.alloc (.cells #[.int .i64 nx, .slice ao L.length cp] 29)) w.heap.size [.int .i64 nx, .slice ao L.length cp]) := Cb.new w _ _
  have H1 := H.more HO.out
  unfold beginE beginF
  cases hf : f a with
  | some x =>
    obtain ⟨b, s, hg, _⟩ := H.yes hf
    have hl := (H1.own.look ha).1
    unfold Gm.v pv at hl
    rw [hg] at hl
    simp only [Option.isSome_some, if_true] at hl ⊢
    have c0 := H1.c0
    have HH := hide H1
    obtain ⟨W1, hW1⟩ : ∃ x, w.alloc (.cells #[.int .i64 nx, .slice ao L.length cp] 29) = x := ⟨_, rfl⟩
    rw [hW1] at hl c0 HH HO
    have HW1 := hide hW1
    clear H H1 hf hg hL ha hW1
    go_enter Try.func10, Try.ntmps10
    go_upto_region 1 with fail
    rw [HW1.out]
    go_wp2_with fail
    go_ret
    exact ⟨rfl, ⟨g, (HH.out.wide (fun k h => .inl h)).mono (Nat.le_succ n)⟩, HO.out.mono (fun _ _ h => h.elim)⟩
  | none =>
    have hgn := H.no hf
    have hl := (H1.own.look ha).1
    unfold Gm.v at hl
    rw [hgn] at hl
    simp only [Option.isSome_none] at hl ⊢
    have c0 := H1.c0
    have hbl := H.lt
    have hml := H.own.lt
    have HH := hide H1
    have HHW := hide H
    have HF := hide hf
    have HL := hide (hL.more HO.out)
    have HZL := hide hZ
    have HA := hide ha
    obtain ⟨W1, hW1⟩ : ∃ x, w.alloc (.cells #[.int .i64 nx, .slice ao L.length cp] 29) = x := ⟨_, rfl⟩
    rw [hW1] at hl c0 HH HO HSB HL
    have HSZ : Hid (W1.heap.size = w.heap.size + 1) := by unfold Hid; rw [← hW1]; simp
    have HW1 := hide hW1
    have he : ∀ w', (binOp .eql 61 (.map (some m)) (.map none)).run Try.prog w' = .ok (.bool false) w' := fun _ => rfl
    obtain ⟨sz, hsz⟩ : ∃ z, w.heap.size = z := ⟨_, rfl⟩
    rw [hsz] at HSB HSZ HZL
    have HSE := hide hsz
    clear H H1 hf hgn hL ha hW1 hsz hZ
    go_enter Try.func10, Try.ntmps10
    go_upto_region 1 with fail
    rw [HW1.out, HSE.out]
    go_upto_region 8 with fail
    have HCL : Hid (∀ W, Only (fun k => k = m) W1 W → W.cell? ⟨t, 0, none⟩ = some (.map (some m))) := fun W ho => (ho.cell (p := ⟨t, 0, none⟩) HH.out.lt HH.out.ne).trans HH.out.c0
    have HSL : Hid (∀ W, Only (fun k => k = m) W1 W → Cb W sz [.int .i64 nx, .slice ao L.length cp]) := fun W ho => HSB.out.kept ho (by have := HHW.out.own.lt; have := HSE.out; omega)
    have HC : Hid (∀ W, Only (fun _ => False) W1 W → Calls Try.prog 31 #[.agg #[.int .i64 nx, .slice ao L.length cp]] W fun e w' => ∃ a2 c2, e = .returned (.agg #[.int .i64 nx, .slice a2 L.length c2]) ∧ Nm w' (fun k => W.heap.size ≤ k) a2 L ∧ Fr w' W.heap.size a2 L ∧ Only (fun _ => False) W w') := fun W ho => apart_any W Q nx ao cp L (HL.out.more ho)
    clear c0 hl
    refine wp_region_noPanic ?_
    refine wp_region_held_drew (S := fun W => Only (fun k => k = m) W1 W) (by kernel_rfl) (Only.drew _ W1) (fun hHeld => ?_)
    refine wpAnyH_take (i := 0) (oi := { dst := some 30, op := Op.move (Operand.tmp 0), type := 23, pos := "txn.go:36", after := #[], guard := none }) (v := .pointer (some ⟨t, 0, none⟩)) rfl (by kernel_rfl) (by kernel_rfl) (by kernel_rfl) (fun _ _ _ h => h) (Or.inl ⟨by rfl, fun w' hSw => by clear hSw; go_simp⟩) (by assumption) ?_
    simp only [Act.put, List.setIfInBounds_toArray, List.set_cons_zero, List.set_cons_succ]
    refine wpAnyH_take (i := 4) (oi := { dst := some 34, op := Op.move (Operand.tmp 1), type := 3, pos := "txn.go:36", after := #[], guard := none }) (v := .int .i64 a) rfl (by kernel_rfl) (by kernel_rfl) (by kernel_rfl) (fun _ _ _ h => h) (Or.inl ⟨by rfl, fun w' hSw => by clear hSw; go_simp⟩) (by assumption) ?_
    simp only [Act.put, List.setIfInBounds_toArray, List.set_cons_zero, List.set_cons_succ]
    refine wpAnyH_take (i := 5) (oi := { dst := some 35, op := Op.load 29 (Operand.tmp 5), type := 29, pos := "txn.go:36", after := #[], guard := none }) (v := .agg #[.int .i64 nx, .slice ao L.length cp]) rfl (by kernel_rfl) (by kernel_rfl) (by kernel_rfl) (fun _ _ _ h => h) (yieldsIf_load_sn (by rfl) _ rfl _ rfl (fun W hW => HSL.out W hW)) (by assumption) ?_
    simp only [Act.put, List.setIfInBounds_toArray, List.set_cons_zero, List.set_cons_succ]
    refine wpAnyH_take (i := 1) (oi := { dst := some 31, op := Op.nilCheck (Operand.tmp 30), type := 0, pos := "txn.go:36", after := #[{ on := 0, ground := Ground.data }], guard := none }) (v := .pointer (some ⟨t, 0, none⟩)) rfl (by kernel_rfl) (by kernel_rfl) (by kernel_rfl) (fun _ _ _ h => h) (Or.inl ⟨by rfl, fun w' hSw => by clear hSw; go_simp⟩) (by assumption) ?_
    simp only [Act.put, List.setIfInBounds_toArray, List.set_cons_zero, List.set_cons_succ]
    refine wpAnyH_take (i := 2) (oi := { dst := some 32, op := Op.fieldAddr 63 (Operand.tmp 31) 0, type := 0, pos := "txn.go:36", after := #[{ on := 1, ground := Ground.data }], guard := none }) (v := .pointer (some ⟨t, 0, none⟩)) rfl (by kernel_rfl) (by kernel_rfl) (by kernel_rfl) (fun _ _ _ h => h) (Or.inl ⟨by rfl, fun w' hSw => by clear hSw; go_simp⟩) (by assumption) ?_
    simp only [Act.put, List.setIfInBounds_toArray, List.set_cons_zero, List.set_cons_succ]
    refine wpAnyH_take (i := 3) (oi := { dst := some 33, op := Op.load 61 (Operand.tmp 32), type := 61, pos := "txn.go:36", after := #[{ on := 2, ground := Ground.data }], guard := none }) (v := .map (some m)) rfl (by kernel_rfl) (by kernel_rfl) (by kernel_rfl) (fun _ _ _ h => h) (yieldsIf_load_cell (by rfl) 61 _ rfl _ rfl (fun W hW => HCL.out W hW) (fun W hc => ld_txopens hc)) (by assumption) ?_
    simp only [Act.put, List.setIfInBounds_toArray, List.set_cons_zero, List.set_cons_succ]
    refine wpAnyH_ready (rs := [6]) (by kernel_rfl) (by simp) ?_
    refine AllReadyH.cons (o := { dst := some 36, op := Op.call { callee := Callee.value (Operand.func 31), args := #[Operand.tmp 35], argTypes := #[29] }, type := 29, pos := "txn.go:36", after := #[{ on := 5, ground := Ground.data }], guard := none }) rfl (fun K hK => ?_) (AllReadyH.nil)
    go_simp
    refine (HC.out _ (Only.drew _ W1)).mono ?_
    rintro e x1 ⟨a2, c2, rfl, hN, hnn, hx1⟩
    have HN := hide hN
    have HX1 : Hid (Only (fun _ => False) W1 x1) := o2 (Only.drew _ W1) hx1
    have HXS : Hid (sz + 1 ≤ x1.heap.size) := by have := HX1.out.size; have := HSZ.out; unfold Hid; omega
    clear hN hnn hx1
    refine hK.out _ _ (HX1.out.mono (fun _ _ h => h.elim)) (fun hHeld => ?_)
    clear hK K
    try simp only [Act.put, List.setIfInBounds_toArray, List.set_cons_zero, List.set_cons_succ]
    refine wpAnyH_take (i := 7) (oi := { dst := some 37, op := Op.build 37 #[(0, Operand.tmp 36)], type := 37, pos := "txn.go:36", after := #[{ on := 6, ground := Ground.data }], guard := none }) (v := .agg #[.int .i64 nx, .slice a2 L.length c2, .int .i64 0, .int .i64 0, .int .i64 0, .int .i64 0]) rfl (by kernel_rfl) (by kernel_rfl) (by kernel_rfl) (fun _ _ _ h => h) (Or.inl ⟨by rfl, fun w' hSw => by clear hSw; go_simp⟩) (by assumption) ?_
    simp only [Act.put, List.setIfInBounds_toArray, List.set_cons_zero, List.set_cons_succ]
    refine wpAnyH_take (i := 8) (oi := { dst := some 38, op := Op.build 71 #[(0, Operand.tmp 37)], type := 71, pos := "txn.go:36", after := #[{ on := 7, ground := Ground.data }], guard := none }) (v := .agg #[.int .i64 nx, .slice a2 L.length c2, .int .i64 0, .int .i64 0, .int .i64 0, .int .i64 0]) rfl (by kernel_rfl) (by kernel_rfl) (by kernel_rfl) (fun _ _ _ h => h) (Or.inl ⟨by rfl, fun w' hSw => by clear hSw; go_simp⟩) (by assumption) ?_
    simp only [Act.put, List.setIfInBounds_toArray, List.set_cons_zero, List.set_cons_succ]
    refine wpAnyH_ready (rs := [9]) (by kernel_rfl) (by simp) ?_
    refine AllReadyH.cons (o := { dst := some 39, op := Op.box 71 (Operand.tmp 38), type := 67, pos := "txn.go:36", after := #[{ on := 8, ground := Ground.data }], guard := none }) rfl (fun K hK => ?_) (AllReadyH.nil)
    go_simp
    have HBX : Hid (Cb (x1.alloc (.cells #[.int .i64 nx, .slice a2 L.length c2, .int .i64 0, .int .i64 0, .int .i64 0, .int .i64 0] 71)) x1.heap.size [.int .i64 nx, .slice a2 L.length c2, .int .i64 0, .int .i64 0, .int .i64 0, .int .i64 0]) := Cb.new x1 _ _
    have HX2 : Hid (Only (fun _ => False) W1 (x1.alloc (.cells #[.int .i64 nx, .slice a2 L.length c2, .int .i64 0, .int .i64 0, .int .i64 0, .int .i64 0] 71))) := o2 HX1.out (onlyA _ _ _)
    have HXA : Hid (Only (fun _ => False) x1 (x1.alloc (.cells #[.int .i64 nx, .slice a2 L.length c2, .int .i64 0, .int .i64 0, .int .i64 0, .int .i64 0] 71))) := onlyA x1 #[.int .i64 nx, .slice a2 L.length c2, .int .i64 0, .int .i64 0, .int .i64 0, .int .i64 0] 71
    have HBB : Hid ((x1.alloc (.cells #[.int .i64 nx, .slice a2 L.length c2, .int .i64 0, .int .i64 0, .int .i64 0, .int .i64 0] 71)).heap.size = x1.heap.size + 1) := by simp [Hid]
    obtain ⟨X2, hX2⟩ : ∃ x, x1.alloc (.cells #[.int .i64 nx, .slice a2 L.length c2, .int .i64 0, .int .i64 0, .int .i64 0, .int .i64 0] 71) = x := ⟨_, rfl⟩
    rw [hX2] at HBX HX2 HXA HBB ⊢
    clear hX2
    obtain ⟨b, hb⟩ : ∃ b, x1.heap.size = b := ⟨_, rfl⟩
    rw [hb] at HBX HBB HXS ⊢
    have HBE := hide hb
    clear hb
    obtain ⟨X3, hr, hop, ho3⟩ := (HH.out.more HX2.out).own.put hn HA.out b
    have HOP := hide hop
    have HO3 := hide ho3
    clear hop ho3
    refine hK.out _ _ (HX2.out.mono (fun _ _ h => h.elim)) (fun hHeld => ?_)
    clear hK K
    try simp only [Act.put, List.setIfInBounds_toArray, List.set_cons_zero, List.set_cons_succ]
    refine wpAnyH_ready (rs := [10]) (by kernel_rfl) (by simp) ?_
    refine AllReadyH.cons (o := { dst := none, op := Op.mapUpdate 61 (Operand.tmp 33) (Operand.tmp 34) (Operand.tmp 39), type := 0, pos := "txn.go:36", after := #[{ on := 3, ground := Ground.data }, { on := 4, ground := Ground.data }, { on := 9, ground := Ground.data }, { on := 6, ground := Ground.chain }, { on := 0, ground := Ground.phase }, { on := 1, ground := Ground.phase }, { on := 2, ground := Ground.phase }, { on := 3, ground := Ground.phase }, { on := 4, ground := Ground.phase }, { on := 5, ground := Ground.phase }, { on := 6, ground := Ground.phase }, { on := 7, ground := Ground.phase }, { on := 8, ground := Ground.phase }, { on := 9, ground := Ground.phase }], guard := none }) rfl (fun K hK => ?_) (AllReadyH.nil)
    go_simp
    clear hr
    refine hK.out _ _ ((HX2.out.mono (T := fun k => k = m) (fun _ _ h => h.elim)).trans HO3.out (fun _ _ h => h)) (fun hHeld => ?_)
    clear hK K
    try simp only [Act.put, List.setIfInBounds_toArray, List.set_cons_zero, List.set_cons_succ]
    refine wpAnyH_done (by kernel_rfl) ?_ _
    refine NoPanic.normal ?_
    go_wp2_with fail
    go_ret
    have hbe := HBE.out
    obtain rfl := HSE.out
    have hxs := HXS.out
    have hlow : ∀ c d, g c = some d → d < w.heap.size := fun c d e => by
      obtain ⟨_, _, _, _, _, hz, _⟩ := HH.out.at_ c d e
      exact HZL.out d hz
    have hok := beginF_ok (HH.out.ok) HA.out nx L
    unfold beginF at hok
    rw [HF.out] at hok
    simp only [Option.isSome_none] at hok
    have hNm : Nm x1 (fun k => w.heap.size ≤ k ∧ k ≠ b) a2 L := HN.out.mono (fun k hk hq => by
      have h1 : W1.heap.size ≤ k := hq
      have := HO.out.size
      exact ⟨by omega, by omega⟩)
    have hOnly : Only (fun k => k = m) w X3 := (HO.out.mono (T := fun k => k = m) (fun _ _ h => h.elim)).trans ((HX2.out.mono (T := fun k => k = m) (fun _ _ h => h.elim)).trans HO3.out (fun _ _ h => h)) (fun _ _ h => h)
    exact ⟨rfl, ⟨_, (HH.out.more HX2.out).put (b0 := w.heap.size) (s := ⟨nx, a2, c2, L⟩) (x := Tx.new nx L) HA.out HF.out (fun k hk => .inl (HZL.out k hk)) hlow (HZL.out t HH.out.zt) (HZL.out m HH.out.zm) (by omega) HBX.out (hNm.more HXA.out) HOP.out HO3.out (Tt.Ok.mono hok (Nat.le_succ n))⟩, hOnly⟩
end Go.Proofs.Ytmcghpeamnmbpaa
