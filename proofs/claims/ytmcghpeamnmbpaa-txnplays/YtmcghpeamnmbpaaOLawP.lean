/- TxnPlays: its walk. -/
import Derived.Test.YtmcghpeamnmbpaaORefR
import Derived.Test.YtmcghpeamnmbpaaOOpen
import Derived.Deep.CutBlock
namespace Go.Proofs.Ytmcghpeamnmbpaa
open Go.RowKit Go.Maps

theorem yieldsIf_load_cellQ {ops : Array Oper} {S : World → Prop} {op : Oper} {a : Act} {v : Value} (hw : Region.wanted op (yielded ops a.tmps) = true) (ty : TypeId) (x : Operand) (ho : op.op = .load ty x)
    (p : Addr) (hx : a.eval x = .pointer (some p)) (hS : ∀ w, S w → w.cell? p = some v) (hl : ∀ w, w.cell? p = some v → (loadVar ty p).run Try.prog w = .ok v w) : YieldsIf Try.prog ops S op v a :=
  .inl ⟨hw, fun w hw' => by
    unfold execOp
    simp only [ho, hx, Instr.loadAt, Instr.sureAddr, Sem.run_bind, Sem.run_pure, Result.andThen_ok, hl w (hS w hw')]⟩
theorem ld_bool {w : World} {p : Addr} {v : Value} (h : w.cell? p = some v) : (loadVar 4 p).run Try.prog w = .ok v w := by simp [loadVar, go_sem, h]
theorem Rt.up {Y : Nat → Prop} {w : World} {r n m b : Nat} {f : Tt} (H : Rt w Y r n f) (hm : n ≤ m) : Rt w (Zp Y b) r m f := by
  obtain ⟨ao, cp, R, H⟩ := H
  exact ⟨ao, cp, R, (H.wide (fun k h => .inl h)).mono hm⟩
theorem Rt.mono {Y : Nat → Prop} {w : World} {r n m : Nat} {f : Tt} (H : Rt w Y r n f) (hm : n ≤ m) : Rt w Y r m f := by
  obtain ⟨ao, cp, R, H⟩ := H
  exact ⟨ao, cp, R, H.mono hm⟩
theorem Py.rlt {X : Nat → Prop} {w0 w : World} {t r n1 n2 : Nat} {f h : Tt} (H : Py w0 X w t r n1 n2 f h) : r < w.heap.size := by
  obtain ⟨Y, _, ⟨ao, cp, R, hr⟩, hY⟩ := H.ex
  exact (hY r hr.yr).2.1
/-- What may be written. -/
def Wrt (w : World) (ao : Option Addr) (n : Nat) : Prop := ∀ k o s, ao = some ⟨k, o, s⟩ → k < w.heap.size ∧ (∀ j, w.frozen? ⟨k, j, none⟩ = false) ∧ ∀ j, j < n → ∃ v, w.cell? ⟨k, o + j, none⟩ = some v
theorem Wrt.of {w : World} {Q : Nat → Prop} {b : Nat} {ao : Option Addr} {L : List Int} (h : Nm w Q ao L) (hf : Fr w b ao L) : Wrt w ao L.length := by
  intro k o s e
  have h1 := hf.fz k o s e
  refine ⟨h1.1, h1.2, fun j hj => ?_⟩
  obtain ⟨k2, o2, e2, _, _, hc⟩ := h.at_ (by omega)
  rw [e] at e2
  injection e2 with e2
  injection e2 with e3 e4
  subst e3
  subst e4
  exact ⟨_, hc j hj⟩
theorem Wrt.more {w w' : World} {ao : Option Addr} {n : Nat} (h : Wrt w ao n) (ho : Only (fun _ => False) w w') : Wrt w' ao n := fun k o s e =>
  ⟨Nat.lt_of_lt_of_le (h k o s e).1 ho.size, fun j => (ho.frozen (p := ⟨k, j, none⟩) (h k o s e).1 id).trans ((h k o s e).2.1 j), fun j hj => by
    obtain ⟨v, hv⟩ := (h k o s e).2.2 j hj
    exact ⟨v, (ho.cell (p := ⟨k, o + j, none⟩) (h k o s e).1 id).trans hv⟩⟩
theorem Wrt.set {w : World} {ao : Option Addr} {n k o j : Nat} (h : Wrt w ao n) (hk : ao = some ⟨k, o, none⟩) (hj : j < n) (u : Value) : Wrt (w.setCell ⟨k, o + j, none⟩ u) ao n := by
  intro k2 o2 s e
  have e9 := e
  rw [hk] at e
  injection e with e
  injection e with e3 e4
  subst e3
  subst e4
  obtain ⟨h1, h2, h3⟩ := h k o s e9
  refine ⟨by simpa [World.setCell] using h1, fun q => by rw [World.frozen?_setCell]; exact h2 q, fun q hq => ?_⟩
  by_cases eq : q = j
  · subst eq
    obtain ⟨v, hv⟩ := h3 q hq
    exact ⟨u, World.cell?_setCell_same _ _ _ hv⟩
  · obtain ⟨v, hv⟩ := h3 q hq
    exact ⟨v, (World.cell?_setCell_other _ _ _ _ (by intro e2; injection e2; omega)).trans hv⟩
set_option maxRecDepth 100000 in
set_option maxHeartbeats 12800000 in
theorem plays_law (w : World) (B cp : Nat) (ao : Option Addr) (L : List Oq) (hI : Oqs w.heap.size w B ao L) : Calls Try.prog 3 #[.slice ao L.length cp] w fun e w' => e = .returned (.bool true) ∧ Only (fun _ => False) w w' := by
  have HAW := hide (fun W => awake_any W)
  have HN := hide (lw_new w w (Nat.le_refl _) (fun _ => False) (fun _ h => h.elim))
  have hlen := hI.len
  have HI := hide hI
  clear hI
  go_enter Try.func3, Try.ntmps3
  go_wp2_with fail
  refine HN.out.mono ?_
  rintro e w1 ⟨t, rfl, h1, ho1⟩
  have HO1 := hide ho1
  have HR := hide (py_start w w1 ho1.size t h1)
  clear h1 ho1 HN
  go_wp2_with fail
  refine HR.out.mono ?_
  rintro e w2 ⟨r, rfl, hp, ho2⟩
  have HPS := hide hp
  have HO2 := hide (o2 HO1.out ho2)
  clear hp ho2 HR HO1
  go_wp2_with fail
  go_loopw [5] (fun y wr => ∃ (i : Nat) (f : Tt), i ≤ L.length ∧ y = .int .i64 (i : Int) ∧ Hid (Py w (fun _ => False) wr t r i i f f) ∧ Hid (Only (fun _ => False) w wr)) (fun y _ => L.length - (intOf y).toNat)
  case atStart => exact ⟨0, Tt.none, by omega, rfl, HPS, HO2⟩
  case round =>
    obtain ⟨i, f, hi, rfl, HP, HO⟩ := hrel
    by_cases hlt : i < L.length
    · have hIr := HI.out.more HO.out
      obtain ⟨o, rfl, hcell⟩ := hIr.at_ (by omega)
      have hok := hIr.ok L[i] (List.getElem_mem hlt)
      replace hcell := hcell i hlt
      obtain ⟨q, hq⟩ : ∃ q, L[i] = q := ⟨_, rfl⟩
      rw [hq] at hcell hok
      clear hq
      obtain ⟨⟨ask, who, cn, fl, nx, act⟩, ao, cq⟩ := q
      have k0 := hcell 0 _ rfl
      have k1 := hcell 1 _ rfl
      have k2 := hcell 2 _ rfl
      have k3 := hcell 3 _ rfl
      have k4 := hcell 4 _ rfl
      have k5 := hcell 5 _ rfl
      simp only [Nat.add_zero] at k0 k1 k2 k3 k4 k5
      have HWH : Hid (N64 who) := hok.who
      have HNM0 : Hid (Nm wr (fun k => k < w.heap.size) ao act) := hok.nm
      clear hcell hok hIr
      go_upto_region 9 with fail
      have HB6 : Hid (Cb (wr.alloc (.cells #[.int .i64 ask, .int .i64 who, .int .i64 cn, .bool fl, .int .i64 nx, .slice ao act.length cq] 31)) wr.heap.size [.int .i64 ask, .int .i64 who, .int .i64 cn, .bool fl, .int .i64 nx, .slice ao act.length cq]) := Cb.new wr _ _
      have HOA := hide (onlyA wr #[.int .i64 ask, .int .i64 who, .int .i64 cn, .bool fl, .int .i64 nx, .slice ao act.length cq] 31)
      obtain ⟨W1, hW1⟩ : ∃ x, wr.alloc (.cells #[.int .i64 ask, .int .i64 who, .int .i64 cn, .bool fl, .int .i64 nx, .slice ao act.length cq] 31) = x := ⟨_, rfl⟩
      have hs1 : W1.heap.size = wr.heap.size + 1 := by rw [← hW1]; simp
      rw [hW1] at HB6 HOA ⊢
      have HP1 : Hid (Py w (fun k => k = wr.heap.size) W1 t r i i f f) := (HP.out.fence HOA.out).less (fun k hk => .inr ⟨by omega, by omega⟩)
      have HO1 := hide (o2 HO.out HOA.out)
      have HNM := hide (HNM0.out.more HOA.out)
      obtain ⟨b6, hb6⟩ : ∃ b, wr.heap.size = b := ⟨_, rfl⟩
      have HW6 : Hid (w.heap.size ≤ b6) := by have := HO.out.size; unfold Hid; omega
      rw [hb6] at HB6 HP1 ⊢
      clear hW1 hs1 hb6 k0 k1 k2 k3 k4 k5 HP HOA HNM0 HO
      have e0 := HB6.out.c 0 _ rfl
      go_upto_block 2 with fail
      clear e0
      go_cut [7] (fun y wc => y = .bool true ∧ ∃ (f' : Tt), Hid (Py w (fun k => k = b6) wc t r (i + 1) (i + 1) f' f') ∧ Hid (Ef w (fun k => k = b6) W1 wc))
      case first =>
        have HCC : Hid (∀ W, Ef w (fun k => k = b6) W1 W → Cb W b6 [.int .i64 ask, .int .i64 who, .int .i64 cn, .bool fl, .int .i64 nx, .slice ao act.length cq]) := fun W ho => HB6.out.kept ho (fun e => e.2 rfl)
        have HBL : Hid (∀ W, Ef w (fun k => k = b6) W1 W → b6 < W.heap.size) := fun W ho => (HCC.out W ho).lt
        have HDR : Hid (Ef w (fun k => k = b6) W1 W1.drew) := Ef.of (Only.drew _ W1)
        have HPD := hide (HP1.out.more (Only.drew _ W1))
        by_cases h0 : ask = 0
        · have m0 : (ask == 0) = true := by simp [h0]
          clear h0
          as_aux_lemma =>
            have b4 := HB6.out.c 4 _ rfl
            have b5 := HB6.out.c 5 _ rfl
            go_upto_region 13 with fail
            have HB8 : Hid (Cb (W1.alloc (.cells #[.int .i64 nx, .slice none 0 0] 29)) W1.heap.size [.int .i64 nx, .slice none 0 0]) := Cb.new W1 _ _
            have HOA := hide (onlyA W1 #[.int .i64 nx, .slice none 0 0] 29)
            obtain ⟨W2, hW2⟩ : ∃ x, W1.alloc (.cells #[.int .i64 nx, .slice none 0 0] 29) = x := ⟨_, rfl⟩
            rw [hW2] at HB8 HOA ⊢
            obtain ⟨b8, hb8⟩ : ∃ b, W1.heap.size = b := ⟨_, rfl⟩
            rw [hb8] at HB8 ⊢
            have HB8E := hide hb8
            have hsrc := (HNM.out.more HOA.out).src (fun e => by
              by_cases h0 : 0 < act.length
              · obtain ⟨k, o, e2, _⟩ := HNM.out.at_ h0
                rw [e] at e2
                cases e2
              · exact List.eq_nil_of_length_eq_zero (by omega))
            have hll := HNM.out.len
            obtain ⟨v1, w3, r1, q1, g1, _⟩ := irow_append (GRow.nil W2 W2.heap.size) hsrc (by simp; omega) (Nat.le_refl _) 27 cq
            rw [List.nil_append] at q1
            obtain ⟨a1, c1, rfl⟩ := q1.form
            have p1 : Only (fun _ => False) W2 w3 := Only.grown g1 (fun k hk => by cases hk)
            have HA1 := hide r1
            have hb8l := HB8.out.lt
            have hz3 := HB8.out.more p1
            have hb6m := (HB6.out.more HOA.out)
            have d5 := hb6m.c 5 _ rfl
            have d4 := hb6m.c 4 _ rfl
            have b2 := HB8.out.c 1 _ rfl
            have b3 := hz3.c 1 _ rfl
            have f3 := hz3.f 1
            have HBB : Hid (Cb (w3.setCell ⟨b8, 1, none⟩ (.slice a1 act.length c1)) b8 [.int .i64 nx, .slice a1 act.length c1]) := hz3.set 1 (.slice a1 act.length c1)
            have hput := Only.put w3 b8 1 (.slice a1 act.length c1)
            have hrow : IRow (w3.setCell ⟨b8, 1, none⟩ (.slice a1 act.length c1)) W2.heap.size (.slice a1 act.length c1) act := GRow.kept q1 hput (fun k hk e => by have := (GRow.low q1 k hk).1; omega)
            have HROW := hide hrow
            have HN1 := hide (GRow.nm hrow hll)
            have HO14 : Hid (Only (fun _ => False) W1 (w3.setCell ⟨b8, 1, none⟩ (.slice a1 act.length c1))) := (o2 HOA.out p1).trans hput (fun k hk e => by omega)
            have HSZ2 : Hid (b8 + 1 ≤ W2.heap.size ∧ b6 < b8) := ⟨hb8l, by have := HB6.out.lt; omega⟩
            clear hW2 hb8 hsrc r1 q1 g1 p1 hz3 hb6m hput hrow b4 b5
            go_upto_region 14 with (at_builtin; go_must (refine Lib.wpList_append_run _ rfl (.tmp 44) (.tmp 47) _ _ rfl (.slice none 0 0) (.slice ao act.length cq) rfl rfl _ _ HA1.out ?_); go_frame)
            obtain ⟨W4, hW4⟩ : ∃ x, w3.setCell ⟨b8, 1, none⟩ (.slice a1 act.length c1) = x := ⟨_, rfl⟩
            rw [hW4] at HBB HROW HN1 HO14 ⊢
            clear hW4 d5 d4 b2 b3 f3 HA1 HB8 HOA hll hb8l
            have HP4 := hide (HP1.out.fence HO14.out)
            obtain ⟨X, hX⟩ : ∃ X : Nat → Prop, (fun k => k = b6 ∨ (W1.heap.size ≤ k ∧ k < W4.heap.size)) = X := ⟨_, rfl⟩
            have HXK : Hid (∀ k, X k ↔ (k = b6 ∨ (b8 ≤ k ∧ k < W4.heap.size))) := fun k => by rw [← hX, ← HB8E.out]
            rw [hX] at HP4
            clear hX
            have HB64 := hide (HB6.out.more HO14.out)
            have HC6 : Hid (∀ W, Ef w X W4 W → Cb W b6 [.int .i64 ask, .int .i64 who, .int .i64 cn, .bool fl, .int .i64 nx, .slice ao act.length cq]) := fun W ho => HB64.out.kept ho (fun e => e.2 ((HXK.out b6).2 (.inl rfl)))
            have HC8 : Hid (∀ W, Ef w X W4 W → Cb W b8 [.int .i64 nx, .slice a1 act.length c1]) := fun W ho => HBB.out.kept ho (fun e => e.2 ((HXK.out b8).2 (.inr ⟨Nat.le_refl _, HBB.out.lt⟩)))
            have HXL : Hid (∀ W, Ef w X W4 W → ∀ k, X k → k < W.heap.size) := fun W ho k hk => by
              have h1 := ho.size
              have h2 := HB64.out.lt
              rcases (HXK.out k).1 hk with h | h
              · omega
              · omega
            have HNA : Hid (∀ W, Ef w X W4 W → Nm W (fun k => W2.heap.size ≤ k) a1 act) := fun W ho => HN1.out.kept ho (fun k hk1 hk2 e => e.2 ((HXK.out k).2 (.inr ⟨by have := HSZ2.out.1; omega, hk1⟩)))
            have HNB : Hid (∀ W, Ef w X W4 W → Nm W (fun k => k < w.heap.size) ao act) := fun W ho => (HNM.out.more HO14.out).kept ho (fun k _ hk e => by have := e.1; omega)
            have HD4 : Hid (Ef w X W4 W4.drew) := Ef.of (Only.drew _ W4)
            have HPD4 := hide (HP4.out.more (Only.drew _ W4))
            refine wp_region_noPanic ?_
            refine wp_region_held_drew (S := fun W => Ef w X W4 W) (by kernel_rfl) (HD4.out) (fun hHeld => ?_)
            refine wpAnyH_take (i := 0) (oi := { dst := some 50, op := Op.move (Operand.tmp 3), type := 23, pos := "law.go:75", after := #[], guard := none }) (v := .pointer (some ⟨t, 0, none⟩)) rfl (by kernel_rfl) (by kernel_rfl) (by kernel_rfl) (fun _ _ _ h => h) (Or.inl ⟨by rfl, fun w' hSw => by clear hSw; go_simp⟩) (by assumption) ?_
            simp only [Act.put, List.setIfInBounds_toArray, List.set_cons_zero, List.set_cons_succ]
            refine wpAnyH_take (i := 1) (oi := { dst := some 51, op := Op.fieldAddr 31 (Operand.tmp 6) 1, type := 0, pos := "law.go:75", after := #[], guard := none }) (v := .pointer (some ⟨b6, 1, none⟩)) rfl (by kernel_rfl) (by kernel_rfl) (by kernel_rfl) (fun _ _ _ h => h) (Or.inl ⟨by rfl, fun w' hSw => by clear hSw; go_simp⟩) (by assumption) ?_
            simp only [Act.put, List.setIfInBounds_toArray, List.set_cons_zero, List.set_cons_succ]
            refine wpAnyH_take (i := 3) (oi := { dst := some 53, op := Op.load 29 (Operand.tmp 8), type := 29, pos := "law.go:75", after := #[], guard := none }) (v := .agg #[.int .i64 nx, .slice a1 act.length c1]) rfl (by kernel_rfl) (by kernel_rfl) (by kernel_rfl) (fun _ _ _ h => h) (yieldsIf_load_sn (by rfl) _ rfl _ rfl (fun W hW => HC8.out W hW)) (by assumption) ?_
            simp only [Act.put, List.setIfInBounds_toArray, List.set_cons_zero, List.set_cons_succ]
            refine wpAnyH_take (i := 5) (oi := { dst := some 55, op := Op.move (Operand.tmp 4), type := 25, pos := "law.go:75", after := #[], guard := none }) (v := .pointer (some ⟨r, 0, none⟩)) rfl (by kernel_rfl) (by kernel_rfl) (by kernel_rfl) (fun _ _ _ h => h) (Or.inl ⟨by rfl, fun w' hSw => by clear hSw; go_simp⟩) (by assumption) ?_
            simp only [Act.put, List.setIfInBounds_toArray, List.set_cons_zero, List.set_cons_succ]
            refine wpAnyH_take (i := 6) (oi := { dst := some 56, op := Op.fieldAddr 31 (Operand.tmp 6) 1, type := 0, pos := "law.go:75", after := #[], guard := none }) (v := .pointer (some ⟨b6, 1, none⟩)) rfl (by kernel_rfl) (by kernel_rfl) (by kernel_rfl) (fun _ _ _ h => h) (Or.inl ⟨by rfl, fun w' hSw => by clear hSw; go_simp⟩) (by assumption) ?_
            simp only [Act.put, List.setIfInBounds_toArray, List.set_cons_zero, List.set_cons_succ]
            refine wpAnyH_take (i := 8) (oi := { dst := some 58, op := Op.fieldAddr 31 (Operand.tmp 6) 4, type := 0, pos := "law.go:75", after := #[], guard := none }) (v := .pointer (some ⟨b6, 4, none⟩)) rfl (by kernel_rfl) (by kernel_rfl) (by kernel_rfl) (fun _ _ _ h => h) (Or.inl ⟨by rfl, fun w' hSw => by clear hSw; go_simp⟩) (by assumption) ?_
            simp only [Act.put, List.setIfInBounds_toArray, List.set_cons_zero, List.set_cons_succ]
            refine wpAnyH_take (i := 2) (oi := { dst := some 52, op := Op.load 3 (Operand.tmp 51), type := 3, pos := "law.go:75", after := #[{ on := 1, ground := Ground.data }], guard := none }) (v := .int .i64 who) rfl (by kernel_rfl) (by kernel_rfl) (by kernel_rfl) (fun _ _ _ h => h) (yieldsIf_load_cellQ (by rfl) 3 _ rfl _ rfl (fun W hW => (HC6.out W hW).c 1 _ rfl) (fun W hc => ld_int hc)) (by assumption) ?_
            simp only [Act.put, List.setIfInBounds_toArray, List.set_cons_zero, List.set_cons_succ]
            refine wpAnyH_take (i := 7) (oi := { dst := some 57, op := Op.load 3 (Operand.tmp 56), type := 3, pos := "law.go:75", after := #[{ on := 6, ground := Ground.data }], guard := none }) (v := .int .i64 who) rfl (by kernel_rfl) (by kernel_rfl) (by kernel_rfl) (fun _ _ _ h => h) (yieldsIf_load_cellQ (by rfl) 3 _ rfl _ rfl (fun W hW => (HC6.out W hW).c 1 _ rfl) (fun W hc => ld_int hc)) (by assumption) ?_
            simp only [Act.put, List.setIfInBounds_toArray, List.set_cons_zero, List.set_cons_succ]
            refine wpAnyH_take (i := 9) (oi := { dst := some 59, op := Op.load 29 (Operand.tmp 58), type := 29, pos := "law.go:75", after := #[{ on := 8, ground := Ground.data }], guard := none }) (v := .agg #[.int .i64 nx, .slice ao act.length cq]) rfl (by kernel_rfl) (by kernel_rfl) (by kernel_rfl) (fun _ _ _ h => h) (yieldsIf_load_snA (by rfl) _ rfl _ _ rfl (fun W hW => ⟨(HC6.out W hW).c 4 _ rfl, (HC6.out W hW).c 5 _ rfl⟩)) (by assumption) ?_
            simp only [Act.put, List.setIfInBounds_toArray, List.set_cons_zero, List.set_cons_succ]
            refine wpAnyH_ready (rs := [4]) (by kernel_rfl) (by simp) ?_
            refine AllReadyH.cons (o := { dst := some 54, op := Op.call { callee := Callee.value (Operand.func 10), args := #[Operand.tmp 50, Operand.tmp 52, Operand.tmp 53], argTypes := #[23, 3, 29] }, type := 32, pos := "law.go:75", after := #[{ on := 0, ground := Ground.data }, { on := 2, ground := Ground.data }, { on := 3, ground := Ground.data }], guard := none }) rfl (fun K hK => ?_) (AllReadyH.nil)
            go_simp
            obtain ⟨K, hl, hK, hnx⟩ := HPD4.out.code (HXL.out _ HD4.out)
            refine (lw_begin w _ K t _ _ hl hK (by unfold maxLen; omega) who HWH.out _ nx a1 c1 act (HNA.out _ HD4.out)).mono ?_
            rintro e x1 ⟨rfl, hl1, ho1⟩
            obtain ⟨hp1, he1⟩ := hnx _ _ hl1 ho1
            have HPA := hide hp1
            have HXA : Hid (Ef w X W4 x1) := HD4.out.trans he1
            clear hl hK hnx hl1 ho1 hp1 he1
            refine hK.out _ _ (HXA.out) (fun hHeld => ?_)
            clear hK K
            try simp only [Act.put, List.setIfInBounds_toArray, List.set_cons_zero, List.set_cons_succ]
            refine wpAnyH_ready (rs := [10]) (by kernel_rfl) (by simp) ?_
            refine AllReadyH.cons (o := { dst := some 60, op := Op.call { callee := Callee.value (Operand.func 11), args := #[Operand.tmp 55, Operand.tmp 57, Operand.tmp 59], argTypes := #[25, 3, 29] }, type := 32, pos := "law.go:75", after := #[{ on := 5, ground := Ground.data }, { on := 7, ground := Ground.data }, { on := 9, ground := Ground.data }, { on := 4, ground := Ground.chain }], guard := none }) rfl (fun K hK => ?_) (AllReadyH.nil)
            go_simp
            obtain ⟨Y, ad, cd, Rd, hr, hYl, hYr, hnx⟩ := HPA.out.doc (HXL.out _ HXA.out)
            refine (rbegin_any _ Y r _ _ ad cd Rd hr (by omega) who HWH.out _ nx ao cq act (HNB.out _ HXA.out)).mono ?_
            rintro e x2 ⟨rfl, hr1, ho1⟩
            obtain ⟨hp1, he1⟩ := hnx _ _ (i + 1) hr1 (ho1.mono (fun k _ e => by rw [e]; exact hYr))
            have HPB := hide hp1
            have HXB : Hid (Ef w X W4 x2) := HXA.out.trans he1
            clear hr hYl hYr hnx hr1 ho1 hp1 he1
            refine hK.out _ _ (HXB.out) (fun hHeld => ?_)
            clear hK K
            try simp only [Act.put, List.setIfInBounds_toArray, List.set_cons_zero, List.set_cons_succ]
            refine wpAnyH_take (i := 11) (oi := { dst := some 61, op := Op.binOp BinOp.eql 32 (Operand.tmp 54) (Operand.tmp 60) 32, type := 4, pos := "law.go:75", after := #[{ on := 4, ground := Ground.data }, { on := 10, ground := Ground.data }], guard := none }) (v := .bool true) rfl (by kernel_rfl) (by kernel_rfl) (by kernel_rfl) (fun _ _ _ h => h) (Or.inl ⟨by rfl, fun w' hSw => by clear hSw; go_simp⟩) (by assumption) ?_
            simp only [Act.put, List.setIfInBounds_toArray, List.set_cons_zero, List.set_cons_succ]
            refine wpAnyH_take (i := 12) (oi := { dst := some 7, op := Op.assign (Operand.tmp 61), type := 4, pos := "law.go:75", after := #[{ on := 11, ground := Ground.data }, { on := 10, ground := Ground.chain }, { on := 0, ground := Ground.phase }, { on := 1, ground := Ground.phase }, { on := 2, ground := Ground.phase }, { on := 3, ground := Ground.phase }, { on := 4, ground := Ground.phase }, { on := 5, ground := Ground.phase }, { on := 6, ground := Ground.phase }, { on := 7, ground := Ground.phase }, { on := 8, ground := Ground.phase }, { on := 9, ground := Ground.phase }, { on := 10, ground := Ground.phase }, { on := 11, ground := Ground.phase }], guard := none }) (v := .bool true) rfl (by kernel_rfl) (by kernel_rfl) (by kernel_rfl) (fun _ _ _ h => h) (Or.inl ⟨by rfl, fun w' hSw => by clear hSw; go_simp⟩) (by assumption) ?_
            simp only [Act.put, List.setIfInBounds_toArray, List.set_cons_zero, List.set_cons_succ]
            refine wpAnyH_done (by kernel_rfl) ?_ _
            refine NoPanic.normal ?_
            as_aux_lemma =>
              have HIR0 : Hid (IRow x2 W2.heap.size (.slice a1 act.length c1) act) := GRow.kept HROW.out HXB.out (fun k hk e => e.2 ((HXK.out k).2 (.inr ⟨by have := (GRow.low HROW.out k hk).1; have := HSZ2.out.1; omega, (GRow.low HROW.out k hk).2⟩)))
              have HGL : Hid (∀ k, (Value.slice a1 act.length c1).ownBlock = some k → b8 < k ∧ k < W4.heap.size) := fun k hk => ⟨by have := (GRow.low HROW.out k hk).1; have := HSZ2.out.1; omega, (GRow.low HROW.out k hk).2⟩
              have HB82 := hide (HC8.out x2 HXB.out)
              have hll : act.length ≤ 17592186043904 := HNM.out.len
              go_wp2_with fail
              go_loopw [9] (fun y wz => ∃ (j : Nat) (Lj : List Int), y = .int .i64 (j : Int) ∧ j ≤ act.length ∧ Lj.length = act.length ∧ Hid (IRow wz W2.heap.size (.slice a1 act.length c1) Lj) ∧ Hid (Only (fun k => b8 < k ∧ k < W4.heap.size) x2 wz)) (fun y _ => act.length - (intOf y).toNat)
              case atStart => exact ⟨0, act, rfl, Nat.zero_le _, rfl, HIR0, Only.refl _ _⟩
              case round =>
                obtain ⟨j, Lj, rfl, hj, hLj, HIR, HOZ⟩ := hrel
                have s1 := (HB82.out.kept HOZ.out (fun e => by have := e.1; omega)).c 1 _ rfl
                by_cases hlj : j < act.length
                ·
                  as_aux_lemma =>
                    have HLK := hide hlj
                    have hgl := HGL.out
                    rcases GRow.head (E := EI) (L := Lj) (ao := a1) (cp := c1) (by rw [hLj]; exact HIR.out) with ⟨_, e2, _⟩ | ⟨g2, rfl, _, hg2, _, _, hf, hc⟩
                    · have h9 : Lj.length = 0 := by rw [e2]; rfl
                      omega
                    · have q0 := hc j (iv Lj[j]) (by rw [fm_iv]; simp [show j < Lj.length by omega])
                      unfold iv at q0
                      have qf := hf j
                      have hgb := hgl g2 rfl
                      have hj0 : (0 : Int) ≤ (j : Int) := by omega
                      have hj1 : (j : Int) < (act.length : Int) := by omega
                      have hpk := GRow.poke (E := EI) (k := 0) (u := .int .i64 (-7)) (x := -7) HIR.out hLj (j := j) (by omega) (by decide) rfl
                      have ej : j * EI.c + 0 = j := by show j * 1 + 0 = j; omega
                      rw [ej] at hpk
                      have HPK := hide hpk
                      have HOZ2 : Hid (Only (fun k => b8 < k ∧ k < W4.heap.size) x2 (wr.setCell ⟨g2, j, none⟩ (.int .i64 (-7)))) := HOZ.out.trans (Only.put wr g2 j (.int .i64 (-7))) (fun k _ e => by rw [e]; exact hgb)
                      clear hc hf hgl hpk ej hgb
                      go_wp2_with fail
                      have hlk := HLK.out
                      refine ⟨⟨j + 1, Lj.set j (-7), by go_num, Nat.succ_le_of_lt hlk, by rw [List.length_set]; exact hLj, HPK, HOZ2⟩, ?_⟩
                      simp [intOf]
                      omega
                ·
                  as_aux_lemma =>
                    go_wp2_with fail
                    go_meet
                    have hx := HXK.out
                    have hz2 := HSZ2.out
                    refine ⟨rfl, beginF f who nx act, (HPB.out.kept HOZ.out (fun k hk => .inl ((hx k).2 (.inr ⟨Nat.le_of_lt (show b8 < k from hk.1), show k < W4.heap.size from hk.2⟩)))).less (fun k hk => (hx k).2 (.inl hk)), ?_⟩
                    have e1 : Ef w (fun k => k = b6) W1 x2 := (Ef.of HO14.out).trans (Only.mono HXB.out (fun k _ e => ⟨e.1, fun e2 => e.2 ((hx k).2 (.inl e2))⟩))
                    exact e1.trans (HOZ.out.mono (fun k _ e => ⟨by have := HW6.out; have := e.1; have := hz2.2; omega, fun e2 => by have := e.1; have := hz2.2; omega⟩))
        · have n0 : (ask == 0) = false := by simp [h0]
          clear h0
          by_cases h1 : ask = 1
          · have m1 : (ask == 1) = true := by simp [h1]
            clear h1
            as_aux_lemma =>
              go_upto_region 20 with fail
              refine wp_region_noPanic ?_
              refine wp_region_held_drew (S := fun W => Ef w (fun k => k = b6) W1 W) (by kernel_rfl) (HDR.out) (fun hHeld => ?_)
              refine wpAnyH_take (i := 0) (oi := { dst := some 75, op := Op.move (Operand.tmp 3), type := 23, pos := "law.go:80", after := #[], guard := none }) (v := .pointer (some ⟨t, 0, none⟩)) rfl (by kernel_rfl) (by kernel_rfl) (by kernel_rfl) (fun _ _ _ h => h) (Or.inl ⟨by rfl, fun w' hSw => by clear hSw; go_simp⟩) (by assumption) ?_
              simp only [Act.put, List.setIfInBounds_toArray, List.set_cons_zero, List.set_cons_succ]
              refine wpAnyH_take (i := 1) (oi := { dst := some 76, op := Op.fieldAddr 31 (Operand.tmp 6) 1, type := 0, pos := "law.go:80", after := #[], guard := none }) (v := .pointer (some ⟨b6, 1, none⟩)) rfl (by kernel_rfl) (by kernel_rfl) (by kernel_rfl) (fun _ _ _ h => h) (Or.inl ⟨by rfl, fun w' hSw => by clear hSw; go_simp⟩) (by assumption) ?_
              simp only [Act.put, List.setIfInBounds_toArray, List.set_cons_zero, List.set_cons_succ]
              refine wpAnyH_take (i := 3) (oi := { dst := some 78, op := Op.fieldAddr 31 (Operand.tmp 6) 2, type := 0, pos := "law.go:80", after := #[], guard := none }) (v := .pointer (some ⟨b6, 2, none⟩)) rfl (by kernel_rfl) (by kernel_rfl) (by kernel_rfl) (fun _ _ _ h => h) (Or.inl ⟨by rfl, fun w' hSw => by clear hSw; go_simp⟩) (by assumption) ?_
              simp only [Act.put, List.setIfInBounds_toArray, List.set_cons_zero, List.set_cons_succ]
              refine wpAnyH_take (i := 6) (oi := { dst := some 81, op := Op.move (Operand.tmp 4), type := 25, pos := "law.go:80", after := #[], guard := none }) (v := .pointer (some ⟨r, 0, none⟩)) rfl (by kernel_rfl) (by kernel_rfl) (by kernel_rfl) (fun _ _ _ h => h) (Or.inl ⟨by rfl, fun w' hSw => by clear hSw; go_simp⟩) (by assumption) ?_
              simp only [Act.put, List.setIfInBounds_toArray, List.set_cons_zero, List.set_cons_succ]
              refine wpAnyH_take (i := 7) (oi := { dst := some 82, op := Op.fieldAddr 31 (Operand.tmp 6) 1, type := 0, pos := "law.go:80", after := #[], guard := none }) (v := .pointer (some ⟨b6, 1, none⟩)) rfl (by kernel_rfl) (by kernel_rfl) (by kernel_rfl) (fun _ _ _ h => h) (Or.inl ⟨by rfl, fun w' hSw => by clear hSw; go_simp⟩) (by assumption) ?_
              simp only [Act.put, List.setIfInBounds_toArray, List.set_cons_zero, List.set_cons_succ]
              refine wpAnyH_take (i := 9) (oi := { dst := some 84, op := Op.fieldAddr 31 (Operand.tmp 6) 2, type := 0, pos := "law.go:80", after := #[], guard := none }) (v := .pointer (some ⟨b6, 2, none⟩)) rfl (by kernel_rfl) (by kernel_rfl) (by kernel_rfl) (fun _ _ _ h => h) (Or.inl ⟨by rfl, fun w' hSw => by clear hSw; go_simp⟩) (by assumption) ?_
              simp only [Act.put, List.setIfInBounds_toArray, List.set_cons_zero, List.set_cons_succ]
              refine wpAnyH_take (i := 2) (oi := { dst := some 77, op := Op.load 3 (Operand.tmp 76), type := 3, pos := "law.go:80", after := #[{ on := 1, ground := Ground.data }], guard := none }) (v := .int .i64 who) rfl (by kernel_rfl) (by kernel_rfl) (by kernel_rfl) (fun _ _ _ h => h) (yieldsIf_load_cellQ (by rfl) 3 _ rfl _ rfl (fun W hW => (HCC.out W hW).c 1 _ rfl) (fun W hc => ld_int hc)) (by assumption) ?_
              simp only [Act.put, List.setIfInBounds_toArray, List.set_cons_zero, List.set_cons_succ]
              refine wpAnyH_take (i := 4) (oi := { dst := some 79, op := Op.load 3 (Operand.tmp 78), type := 3, pos := "law.go:80", after := #[{ on := 3, ground := Ground.data }], guard := none }) (v := .int .i64 cn) rfl (by kernel_rfl) (by kernel_rfl) (by kernel_rfl) (fun _ _ _ h => h) (yieldsIf_load_cellQ (by rfl) 3 _ rfl _ rfl (fun W hW => (HCC.out W hW).c 2 _ rfl) (fun W hc => ld_int hc)) (by assumption) ?_
              simp only [Act.put, List.setIfInBounds_toArray, List.set_cons_zero, List.set_cons_succ]
              refine wpAnyH_take (i := 8) (oi := { dst := some 83, op := Op.load 3 (Operand.tmp 82), type := 3, pos := "law.go:80", after := #[{ on := 7, ground := Ground.data }], guard := none }) (v := .int .i64 who) rfl (by kernel_rfl) (by kernel_rfl) (by kernel_rfl) (fun _ _ _ h => h) (yieldsIf_load_cellQ (by rfl) 3 _ rfl _ rfl (fun W hW => (HCC.out W hW).c 1 _ rfl) (fun W hc => ld_int hc)) (by assumption) ?_
              simp only [Act.put, List.setIfInBounds_toArray, List.set_cons_zero, List.set_cons_succ]
              refine wpAnyH_take (i := 10) (oi := { dst := some 85, op := Op.load 3 (Operand.tmp 84), type := 3, pos := "law.go:80", after := #[{ on := 9, ground := Ground.data }], guard := none }) (v := .int .i64 cn) rfl (by kernel_rfl) (by kernel_rfl) (by kernel_rfl) (fun _ _ _ h => h) (yieldsIf_load_cellQ (by rfl) 3 _ rfl _ rfl (fun W hW => (HCC.out W hW).c 2 _ rfl) (fun W hc => ld_int hc)) (by assumption) ?_
              simp only [Act.put, List.setIfInBounds_toArray, List.set_cons_zero, List.set_cons_succ]
              refine wpAnyH_ready (rs := [5]) (by kernel_rfl) (by simp) ?_
              refine AllReadyH.cons (o := { dst := some 80, op := Op.call { callee := Callee.value (Operand.func 12), args := #[Operand.tmp 75, Operand.tmp 77, Operand.tmp 79], argTypes := #[23, 3, 3] }, type := 32, pos := "law.go:80", after := #[{ on := 0, ground := Ground.data }, { on := 2, ground := Ground.data }, { on := 4, ground := Ground.data }], guard := none }) rfl (fun K hK => ?_) (AllReadyH.nil)
              go_simp
              obtain ⟨K, hl, hK, hnx⟩ := HPD.out.code (fun k hk => by rw [hk]; exact HBL.out _ HDR.out)
              refine (lw_take w _ K t _ _ hl who HWH.out cn).mono ?_
              rintro e x1 ⟨rfl, hl1, ho1⟩
              obtain ⟨hp1, he1⟩ := hnx _ _ hl1 ho1
              have HPA := hide hp1
              have HXA : Hid (Ef w (fun k => k = b6) W1 x1) := HDR.out.trans he1
              clear hl hK hnx hl1 ho1 hp1 he1
              refine hK.out _ _ (HXA.out) (fun hHeld => ?_)
              clear hK K
              try simp only [Act.put, List.setIfInBounds_toArray, List.set_cons_zero, List.set_cons_succ]
              refine wpAnyH_ready (rs := [11]) (by kernel_rfl) (by simp) ?_
              refine AllReadyH.cons (o := { dst := some 86, op := Op.call { callee := Callee.value (Operand.func 13), args := #[Operand.tmp 81, Operand.tmp 83, Operand.tmp 85], argTypes := #[25, 3, 3] }, type := 32, pos := "law.go:80", after := #[{ on := 6, ground := Ground.data }, { on := 8, ground := Ground.data }, { on := 10, ground := Ground.data }, { on := 5, ground := Ground.chain }], guard := none }) rfl (fun K hK => ?_) (AllReadyH.nil)
              go_simp
              obtain ⟨Y, ad, cd, Rd, hr, hYl, hYr, hnx⟩ := HPA.out.doc (fun k hk => by rw [hk]; exact HBL.out _ HXA.out)
              refine (rtake_any _ Y r _ _ ad cd Rd hr (by omega) who cn).mono ?_
              rintro e x2 ⟨rfl, hr1, ho1⟩
              obtain ⟨hp1, he1⟩ := hnx _ _ (i + 1) (Rt.up hr1 (Nat.le_succ i)) ho1
              have HPB := hide hp1
              have HXB : Hid (Ef w (fun k => k = b6) W1 x2) := HXA.out.trans he1
              clear hr hYl hYr hnx hr1 ho1 hp1 he1
              refine hK.out _ _ (HXB.out) (fun hHeld => ?_)
              clear hK K
              try simp only [Act.put, List.setIfInBounds_toArray, List.set_cons_zero, List.set_cons_succ]
              refine wpAnyH_take (i := 12) (oi := { dst := some 87, op := Op.binOp BinOp.eql 32 (Operand.tmp 80) (Operand.tmp 86) 32, type := 4, pos := "law.go:80", after := #[{ on := 5, ground := Ground.data }, { on := 11, ground := Ground.data }], guard := none }) (v := .bool true) rfl (by kernel_rfl) (by kernel_rfl) (by kernel_rfl) (fun _ _ _ h => h) (Or.inl ⟨by rfl, fun w' hSw => by clear hSw; go_simp⟩) (by assumption) ?_
              simp only [Act.put, List.setIfInBounds_toArray, List.set_cons_zero, List.set_cons_succ]
              refine wpAnyH_take (i := 13) (oi := { dst := some 7, op := Op.assign (Operand.tmp 87), type := 4, pos := "law.go:80", after := #[{ on := 12, ground := Ground.data }, { on := 11, ground := Ground.chain }, { on := 0, ground := Ground.phase }, { on := 1, ground := Ground.phase }, { on := 2, ground := Ground.phase }, { on := 3, ground := Ground.phase }, { on := 4, ground := Ground.phase }, { on := 5, ground := Ground.phase }, { on := 6, ground := Ground.phase }, { on := 7, ground := Ground.phase }, { on := 8, ground := Ground.phase }, { on := 9, ground := Ground.phase }, { on := 10, ground := Ground.phase }, { on := 11, ground := Ground.phase }, { on := 12, ground := Ground.phase }], guard := none }) (v := .bool true) rfl (by kernel_rfl) (by kernel_rfl) (by kernel_rfl) (fun _ _ _ h => h) (Or.inl ⟨by rfl, fun w' hSw => by clear hSw; go_simp⟩) (by assumption) ?_
              simp only [Act.put, List.setIfInBounds_toArray, List.set_cons_zero, List.set_cons_succ]
              refine wpAnyH_done (by kernel_rfl) ?_ _
              refine NoPanic.normal ?_
              as_aux_lemma =>
                go_wp2_with fail
                go_meet
                exact ⟨rfl, takeF f who cn, HPB.out, HXB.out⟩
          · have n1 : (ask == 1) = false := by simp [h1]
            clear h1
            by_cases h2 : ask = 2
            · have m2 : (ask == 2) = true := by simp [h2]
              clear h2
              as_aux_lemma =>
                go_upto_region 22 with fail
                refine wp_region_noPanic ?_
                refine wp_region_held_drew (S := fun W => Ef w (fun k => k = b6) W1 W) (by kernel_rfl) (HDR.out) (fun hHeld => ?_)
                refine wpAnyH_take (i := 0) (oi := { dst := some 90, op := Op.move (Operand.tmp 3), type := 23, pos := "law.go:82", after := #[], guard := none }) (v := .pointer (some ⟨t, 0, none⟩)) rfl (by kernel_rfl) (by kernel_rfl) (by kernel_rfl) (fun _ _ _ h => h) (Or.inl ⟨by rfl, fun w' hSw => by clear hSw; go_simp⟩) (by assumption) ?_
                simp only [Act.put, List.setIfInBounds_toArray, List.set_cons_zero, List.set_cons_succ]
                refine wpAnyH_take (i := 1) (oi := { dst := some 91, op := Op.fieldAddr 31 (Operand.tmp 6) 1, type := 0, pos := "law.go:82", after := #[], guard := none }) (v := .pointer (some ⟨b6, 1, none⟩)) rfl (by kernel_rfl) (by kernel_rfl) (by kernel_rfl) (fun _ _ _ h => h) (Or.inl ⟨by rfl, fun w' hSw => by clear hSw; go_simp⟩) (by assumption) ?_
                simp only [Act.put, List.setIfInBounds_toArray, List.set_cons_zero, List.set_cons_succ]
                refine wpAnyH_take (i := 3) (oi := { dst := some 93, op := Op.fieldAddr 31 (Operand.tmp 6) 2, type := 0, pos := "law.go:82", after := #[], guard := none }) (v := .pointer (some ⟨b6, 2, none⟩)) rfl (by kernel_rfl) (by kernel_rfl) (by kernel_rfl) (fun _ _ _ h => h) (Or.inl ⟨by rfl, fun w' hSw => by clear hSw; go_simp⟩) (by assumption) ?_
                simp only [Act.put, List.setIfInBounds_toArray, List.set_cons_zero, List.set_cons_succ]
                refine wpAnyH_take (i := 5) (oi := { dst := some 95, op := Op.fieldAddr 31 (Operand.tmp 6) 3, type := 0, pos := "law.go:82", after := #[], guard := none }) (v := .pointer (some ⟨b6, 3, none⟩)) rfl (by kernel_rfl) (by kernel_rfl) (by kernel_rfl) (fun _ _ _ h => h) (Or.inl ⟨by rfl, fun w' hSw => by clear hSw; go_simp⟩) (by assumption) ?_
                simp only [Act.put, List.setIfInBounds_toArray, List.set_cons_zero, List.set_cons_succ]
                refine wpAnyH_take (i := 8) (oi := { dst := some 98, op := Op.move (Operand.tmp 4), type := 25, pos := "law.go:82", after := #[], guard := none }) (v := .pointer (some ⟨r, 0, none⟩)) rfl (by kernel_rfl) (by kernel_rfl) (by kernel_rfl) (fun _ _ _ h => h) (Or.inl ⟨by rfl, fun w' hSw => by clear hSw; go_simp⟩) (by assumption) ?_
                simp only [Act.put, List.setIfInBounds_toArray, List.set_cons_zero, List.set_cons_succ]
                refine wpAnyH_take (i := 9) (oi := { dst := some 99, op := Op.fieldAddr 31 (Operand.tmp 6) 1, type := 0, pos := "law.go:82", after := #[], guard := none }) (v := .pointer (some ⟨b6, 1, none⟩)) rfl (by kernel_rfl) (by kernel_rfl) (by kernel_rfl) (fun _ _ _ h => h) (Or.inl ⟨by rfl, fun w' hSw => by clear hSw; go_simp⟩) (by assumption) ?_
                simp only [Act.put, List.setIfInBounds_toArray, List.set_cons_zero, List.set_cons_succ]
                refine wpAnyH_take (i := 11) (oi := { dst := some 101, op := Op.fieldAddr 31 (Operand.tmp 6) 2, type := 0, pos := "law.go:82", after := #[], guard := none }) (v := .pointer (some ⟨b6, 2, none⟩)) rfl (by kernel_rfl) (by kernel_rfl) (by kernel_rfl) (fun _ _ _ h => h) (Or.inl ⟨by rfl, fun w' hSw => by clear hSw; go_simp⟩) (by assumption) ?_
                simp only [Act.put, List.setIfInBounds_toArray, List.set_cons_zero, List.set_cons_succ]
                refine wpAnyH_take (i := 13) (oi := { dst := some 103, op := Op.fieldAddr 31 (Operand.tmp 6) 3, type := 0, pos := "law.go:82", after := #[], guard := none }) (v := .pointer (some ⟨b6, 3, none⟩)) rfl (by kernel_rfl) (by kernel_rfl) (by kernel_rfl) (fun _ _ _ h => h) (Or.inl ⟨by rfl, fun w' hSw => by clear hSw; go_simp⟩) (by assumption) ?_
                simp only [Act.put, List.setIfInBounds_toArray, List.set_cons_zero, List.set_cons_succ]
                refine wpAnyH_take (i := 2) (oi := { dst := some 92, op := Op.load 3 (Operand.tmp 91), type := 3, pos := "law.go:82", after := #[{ on := 1, ground := Ground.data }], guard := none }) (v := .int .i64 who) rfl (by kernel_rfl) (by kernel_rfl) (by kernel_rfl) (fun _ _ _ h => h) (yieldsIf_load_cellQ (by rfl) 3 _ rfl _ rfl (fun W hW => (HCC.out W hW).c 1 _ rfl) (fun W hc => ld_int hc)) (by assumption) ?_
                simp only [Act.put, List.setIfInBounds_toArray, List.set_cons_zero, List.set_cons_succ]
                refine wpAnyH_take (i := 4) (oi := { dst := some 94, op := Op.load 3 (Operand.tmp 93), type := 3, pos := "law.go:82", after := #[{ on := 3, ground := Ground.data }], guard := none }) (v := .int .i64 cn) rfl (by kernel_rfl) (by kernel_rfl) (by kernel_rfl) (fun _ _ _ h => h) (yieldsIf_load_cellQ (by rfl) 3 _ rfl _ rfl (fun W hW => (HCC.out W hW).c 2 _ rfl) (fun W hc => ld_int hc)) (by assumption) ?_
                simp only [Act.put, List.setIfInBounds_toArray, List.set_cons_zero, List.set_cons_succ]
                refine wpAnyH_take (i := 6) (oi := { dst := some 96, op := Op.load 4 (Operand.tmp 95), type := 4, pos := "law.go:82", after := #[{ on := 5, ground := Ground.data }], guard := none }) (v := .bool fl) rfl (by kernel_rfl) (by kernel_rfl) (by kernel_rfl) (fun _ _ _ h => h) (yieldsIf_load_cellQ (by rfl) 4 _ rfl _ rfl (fun W hW => (HCC.out W hW).c 3 _ rfl) (fun W hc => ld_bool hc)) (by assumption) ?_
                simp only [Act.put, List.setIfInBounds_toArray, List.set_cons_zero, List.set_cons_succ]
                refine wpAnyH_take (i := 10) (oi := { dst := some 100, op := Op.load 3 (Operand.tmp 99), type := 3, pos := "law.go:82", after := #[{ on := 9, ground := Ground.data }], guard := none }) (v := .int .i64 who) rfl (by kernel_rfl) (by kernel_rfl) (by kernel_rfl) (fun _ _ _ h => h) (yieldsIf_load_cellQ (by rfl) 3 _ rfl _ rfl (fun W hW => (HCC.out W hW).c 1 _ rfl) (fun W hc => ld_int hc)) (by assumption) ?_
                simp only [Act.put, List.setIfInBounds_toArray, List.set_cons_zero, List.set_cons_succ]
                refine wpAnyH_take (i := 12) (oi := { dst := some 102, op := Op.load 3 (Operand.tmp 101), type := 3, pos := "law.go:82", after := #[{ on := 11, ground := Ground.data }], guard := none }) (v := .int .i64 cn) rfl (by kernel_rfl) (by kernel_rfl) (by kernel_rfl) (fun _ _ _ h => h) (yieldsIf_load_cellQ (by rfl) 3 _ rfl _ rfl (fun W hW => (HCC.out W hW).c 2 _ rfl) (fun W hc => ld_int hc)) (by assumption) ?_
                simp only [Act.put, List.setIfInBounds_toArray, List.set_cons_zero, List.set_cons_succ]
                refine wpAnyH_take (i := 14) (oi := { dst := some 104, op := Op.load 4 (Operand.tmp 103), type := 4, pos := "law.go:82", after := #[{ on := 13, ground := Ground.data }], guard := none }) (v := .bool fl) rfl (by kernel_rfl) (by kernel_rfl) (by kernel_rfl) (fun _ _ _ h => h) (yieldsIf_load_cellQ (by rfl) 4 _ rfl _ rfl (fun W hW => (HCC.out W hW).c 3 _ rfl) (fun W hc => ld_bool hc)) (by assumption) ?_
                simp only [Act.put, List.setIfInBounds_toArray, List.set_cons_zero, List.set_cons_succ]
                refine wpAnyH_ready (rs := [7]) (by kernel_rfl) (by simp) ?_
                refine AllReadyH.cons (o := { dst := some 97, op := Op.call { callee := Callee.value (Operand.func 14), args := #[Operand.tmp 90, Operand.tmp 92, Operand.tmp 94, Operand.tmp 96], argTypes := #[23, 3, 3, 4] }, type := 32, pos := "law.go:82", after := #[{ on := 0, ground := Ground.data }, { on := 2, ground := Ground.data }, { on := 4, ground := Ground.data }, { on := 6, ground := Ground.data }], guard := none }) rfl (fun K hK => ?_) (AllReadyH.nil)
                go_simp
                obtain ⟨K, hl, hK, hnx⟩ := HPD.out.code (fun k hk => by rw [hk]; exact HBL.out _ HDR.out)
                refine (lw_logged w _ K t _ _ hl (by unfold maxLen; omega) who HWH.out cn fl).mono ?_
                rintro e x1 ⟨rfl, hl1, ho1⟩
                obtain ⟨hp1, he1⟩ := hnx _ _ hl1 ho1
                have HPA := hide hp1
                have HXA : Hid (Ef w (fun k => k = b6) W1 x1) := HDR.out.trans he1
                clear hl hK hnx hl1 ho1 hp1 he1
                refine hK.out _ _ (HXA.out) (fun hHeld => ?_)
                clear hK K
                try simp only [Act.put, List.setIfInBounds_toArray, List.set_cons_zero, List.set_cons_succ]
                refine wpAnyH_ready (rs := [15]) (by kernel_rfl) (by simp) ?_
                refine AllReadyH.cons (o := { dst := some 105, op := Op.call { callee := Callee.value (Operand.func 15), args := #[Operand.tmp 98, Operand.tmp 100, Operand.tmp 102, Operand.tmp 104], argTypes := #[25, 3, 3, 4] }, type := 32, pos := "law.go:82", after := #[{ on := 8, ground := Ground.data }, { on := 10, ground := Ground.data }, { on := 12, ground := Ground.data }, { on := 14, ground := Ground.data }, { on := 7, ground := Ground.chain }], guard := none }) rfl (fun K hK => ?_) (AllReadyH.nil)
                go_simp
                obtain ⟨Y, ad, cd, Rd, hr, hYl, hYr, hnx⟩ := HPA.out.doc (fun k hk => by rw [hk]; exact HBL.out _ HXA.out)
                refine (rlogged_any _ Y r _ _ ad cd Rd hr (by omega) who cn fl).mono ?_
                rintro e x2 ⟨rfl, hr1, ho1⟩
                obtain ⟨hp1, he1⟩ := hnx _ _ (i + 1) (Rt.up hr1 (Nat.le_refl _)) ho1
                have HPB := hide hp1
                have HXB : Hid (Ef w (fun k => k = b6) W1 x2) := HXA.out.trans he1
                clear hr hYl hYr hnx hr1 ho1 hp1 he1
                refine hK.out _ _ (HXB.out) (fun hHeld => ?_)
                clear hK K
                try simp only [Act.put, List.setIfInBounds_toArray, List.set_cons_zero, List.set_cons_succ]
                refine wpAnyH_take (i := 16) (oi := { dst := some 106, op := Op.binOp BinOp.eql 32 (Operand.tmp 97) (Operand.tmp 105) 32, type := 4, pos := "law.go:82", after := #[{ on := 7, ground := Ground.data }, { on := 15, ground := Ground.data }], guard := none }) (v := .bool true) rfl (by kernel_rfl) (by kernel_rfl) (by kernel_rfl) (fun _ _ _ h => h) (Or.inl ⟨by rfl, fun w' hSw => by clear hSw; go_simp⟩) (by assumption) ?_
                simp only [Act.put, List.setIfInBounds_toArray, List.set_cons_zero, List.set_cons_succ]
                refine wpAnyH_take (i := 17) (oi := { dst := some 7, op := Op.assign (Operand.tmp 106), type := 4, pos := "law.go:82", after := #[{ on := 16, ground := Ground.data }, { on := 15, ground := Ground.chain }, { on := 0, ground := Ground.phase }, { on := 1, ground := Ground.phase }, { on := 2, ground := Ground.phase }, { on := 3, ground := Ground.phase }, { on := 4, ground := Ground.phase }, { on := 5, ground := Ground.phase }, { on := 6, ground := Ground.phase }, { on := 7, ground := Ground.phase }, { on := 8, ground := Ground.phase }, { on := 9, ground := Ground.phase }, { on := 10, ground := Ground.phase }, { on := 11, ground := Ground.phase }, { on := 12, ground := Ground.phase }, { on := 13, ground := Ground.phase }, { on := 14, ground := Ground.phase }, { on := 15, ground := Ground.phase }, { on := 16, ground := Ground.phase }], guard := none }) (v := .bool true) rfl (by kernel_rfl) (by kernel_rfl) (by kernel_rfl) (fun _ _ _ h => h) (Or.inl ⟨by rfl, fun w' hSw => by clear hSw; go_simp⟩) (by assumption) ?_
                simp only [Act.put, List.setIfInBounds_toArray, List.set_cons_zero, List.set_cons_succ]
                refine wpAnyH_done (by kernel_rfl) ?_ _
                refine NoPanic.normal ?_
                as_aux_lemma =>
                  go_wp2_with fail
                  go_meet
                  exact ⟨rfl, logF f who cn fl, HPB.out, HXB.out⟩
            · have n2 : (ask == 2) = false := by simp [h2]
              clear h2
              by_cases h3 : ask = 3
              · have m3 : (ask == 3) = true := by simp [h3]
                clear h3
                as_aux_lemma =>
                  obtain ⟨K, hl, hK, hnx⟩ := HP1.out.code (fun k hk => by rw [hk]; exact HB6.out.lt)
                  have HC := hide (lw_end w W1 K t i f hl who HWH.out)
                  have HNX := hide hnx
                  have e1 := HB6.out.c 1 _ rfl
                  clear hl hK hnx
                  go_wp2_with fail
                  refine HC.out.mono ?_
                  rintro e x1 ⟨⟨a2, c2, rfl, hN, _⟩, hl1, ho1⟩
                  obtain ⟨hp1, he1⟩ := HNX.out _ _ hl1 ho1
                  have HPA := hide hp1
                  have HXA := hide he1
                  have HNA := hide hN
                  unfold txv
                  clear hl1 ho1 hp1 he1 hN HC HNX e1
                  go_upto_region 25 with fail
                  obtain ⟨x, hx⟩ : ∃ x, ofT f who = x := ⟨_, rfl⟩
                  have HX := hide hx
                  rw [hx] at HNA ⊢
                  clear hx
                  have HBT : Hid (Cb (x1.alloc (.cells #[.int .i64 x.nx, .slice a2 x.act.length c2, .int .i64 x.xid, .int .i64 x.fst, .int .i64 x.lst, .int .i64 x.und] 37)) x1.heap.size [.int .i64 x.nx, .slice a2 x.act.length c2, .int .i64 x.xid, .int .i64 x.fst, .int .i64 x.lst, .int .i64 x.und]) := Cb.new x1 _ _
                  have HOA := hide (onlyA x1 #[.int .i64 x.nx, .slice a2 x.act.length c2, .int .i64 x.xid, .int .i64 x.fst, .int .i64 x.lst, .int .i64 x.und] 37)
                  have hp2 := HPA.out.fence HOA.out
                  obtain ⟨W3, hW3⟩ : ∃ y, x1.alloc (.cells #[.int .i64 x.nx, .slice a2 x.act.length c2, .int .i64 x.xid, .int .i64 x.fst, .int .i64 x.lst, .int .i64 x.und] 37) = y := ⟨_, rfl⟩
                  rw [hW3] at HBT HOA hp2 ⊢
                  have HP3 := hide hp2
                  obtain ⟨b10, hb10⟩ : ∃ b, x1.heap.size = b := ⟨_, rfl⟩
                  rw [hb10] at HBT HP3 ⊢
                  have HB10 := hide hb10
                  clear hW3 hp2 hb10
                  have hb6 := ((HCC.out x1 HXA.out).more HOA.out)
                  have HB63 := hide hb6
                  have e1 := hb6.c 1 _ rfl
                  have hXL : ∀ k, (k = b6 ∨ (b10 ≤ k ∧ k < W3.heap.size)) → k < W3.heap.size := fun k hk => hk.elim (fun h => by rw [h]; exact hb6.lt) (fun h => h.2)
                  obtain ⟨Y, ad, cd, Rd, hr, hYl, hYr, hnx⟩ := HP3.out.doc hXL
                  have HC := hide (rend_any W3 Y r i f ad cd Rd hr hYl (by omega) who)
                  have HNX := hide hnx
                  have HYR := hide hYr
                  clear hb6 hXL hr hYl hYr hnx
                  go_wp2_with fail
                  refine HC.out.mono ?_
                  rintro e x2 ⟨⟨a3, c3, rfl, hN3⟩, hr1, ho1⟩
                  obtain ⟨hp1, he1⟩ := HNX.out _ _ (i + 1) (hr1.mono (Nat.le_succ i)) (ho1.mono (fun k _ e => by rw [e]; exact HYR.out))
                  rw [HX.out] at hN3 ⊢
                  have HPB := hide hp1
                  have HN3 := hide hN3
                  have HNA2 : Hid (Nm x2 (fun _ => True) a2 x.act) := by
                    have h6 := HP1.out.rlt
                    exact ((HNA.out.more HOA.out).kept ho1 (fun k _ hk e => by omega)).mono (fun _ _ _ => trivial)
                  have HB62 := hide (HB63.out.kept he1 (fun e => e.2 (.inl rfl)))
                  have HBT2 := hide (HBT.out.kept he1 (fun e => e.2 (.inr ⟨Nat.le_refl _, HBT.out.lt⟩)))
                  have HXB : Hid (Ef w (fun k => k = b6) W1 x2) := (HXA.out.trans (Ef.of HOA.out)).trans (Only.mono he1 (fun k _ e => ⟨e.1, fun e2 => e.2 (.inl e2)⟩))
                  unfold txv
                  clear hp1 he1 hr1 ho1 hN3 HC HNX e1
                  obtain ⟨E, hE⟩ : ∃ E, endE f who = E := ⟨_, rfl⟩
                  rw [hE]
                  clear hE
                  go_upto_region 26 with fail
                  have HBU : Hid (Cb (x2.alloc (.cells #[.int .i64 x.nx, .slice a3 x.act.length c3, .int .i64 x.xid, .int .i64 x.fst, .int .i64 x.lst, .int .i64 x.und] 37)) x2.heap.size [.int .i64 x.nx, .slice a3 x.act.length c3, .int .i64 x.xid, .int .i64 x.fst, .int .i64 x.lst, .int .i64 x.und]) := Cb.new x2 _ _
                  have HOU := hide (onlyA x2 #[.int .i64 x.nx, .slice a3 x.act.length c3, .int .i64 x.xid, .int .i64 x.fst, .int .i64 x.lst, .int .i64 x.und] 37)
                  obtain ⟨W5, hW5⟩ : ∃ y, x2.alloc (.cells #[.int .i64 x.nx, .slice a3 x.act.length c3, .int .i64 x.xid, .int .i64 x.fst, .int .i64 x.lst, .int .i64 x.und] 37) = y := ⟨_, rfl⟩
                  rw [hW5] at HBU HOU ⊢
                  obtain ⟨b12, hb12⟩ : ∃ b, x2.heap.size = b := ⟨_, rfl⟩
                  rw [hb12] at HBU ⊢
                  clear hW5 hb12
                  have hbt := HBT2.out.more HOU.out
                  have u0 := hbt.c 0 _ rfl
                  have u1 := hbt.c 1 _ rfl
                  have u2 := hbt.c 2 _ rfl
                  have u3 := hbt.c 3 _ rfl
                  have u4 := hbt.c 4 _ rfl
                  have u5 := hbt.c 5 _ rfl
                  have v0 := HBU.out.c 0 _ rfl
                  have v1 := HBU.out.c 1 _ rfl
                  have v2 := HBU.out.c 2 _ rfl
                  have v3 := HBU.out.c 3 _ rfl
                  have v4 := HBU.out.c 4 _ rfl
                  have v5 := HBU.out.c 5 _ rfl
                  have hsm := rsame_eq W5 _ _ x a2 a3 c2 c3 (HNA2.out.more HOU.out) (HN3.out.more HOU.out)
                  unfold txv at hsm
                  have HSM := hide hsm
                  clear hbt hsm
                  go_wp2_with fail
                  refine HSM.out.mono ?_
                  rintro e x6 ⟨rfl, ho6⟩
                  have HO6 := hide ho6
                  clear ho6 HSM u0 u1 u2 u3 u4 u5 v0 v1 v2 v3 v4 v5
                  go_wp2_with fail
                  go_meet
                  exact ⟨rfl, f.drop who, (HPB.out.less (fun k hk => .inl hk)).more (o2 HOU.out HO6.out), HXB.out.trans (Ef.of (o2 HOU.out HO6.out))⟩
              · have n3 : (ask == 3) = false := by simp [h3]
                clear h3
                as_aux_lemma =>
                  go_wp2_with fail
                  go_meet
                  exact ⟨rfl, f, HP1.out.mono (Nat.le_succ i) (Nat.le_succ i), Only.refl _ _⟩
      case rest =>
        as_aux_lemma =>
          obtain ⟨rfl, f2, HP2, HE2⟩ := hcut
          have HB6c := hide (HB6.out.kept HE2.out (fun e => e.2 rfl))
          have HOW : Hid (Only (fun _ => False) w wc) := HO1.out.trans HE2.out (fun k hk e => by have := e.1; omega)
          have e1 := HB6c.out.c 1 _ rfl
          obtain ⟨K, hl, hK, _⟩ := HP2.out.code (fun k hk => by rw [hk]; exact HB6c.out.lt)
          have HC := hide (lw_of w wc K t (i + 1) f2 hl who HWH.out)
          clear hl hK HP1 HB6 HNM HE2 HO1
          go_wp2_with fail
          refine HC.out.mono ?_
          rintro e x3 ⟨⟨a2, c2, rfl, hN, hF⟩, ho3⟩
          have HN3 := hide hN
          have HF3 := hide hF
          have HO3 := hide ho3
          unfold txv
          obtain ⟨x, hx⟩ : ∃ x, ofT f2 who = x := ⟨_, rfl⟩
          obtain ⟨is, his⟩ : ∃ b, (f2 who).isSome = b := ⟨_, rfl⟩
          have HX := hide (And.intro hx his)
          rw [hx] at HN3 HF3 ⊢
          rw [his]
          clear hx his hN hF ho3 HC e1
          go_upto_region 28 with fail
          have HBT : Hid (Cb (x3.alloc (.cells #[.int .i64 x.nx, .slice a2 x.act.length c2, .int .i64 x.xid, .int .i64 x.fst, .int .i64 x.lst, .int .i64 x.und] 37)) x3.heap.size [.int .i64 x.nx, .slice a2 x.act.length c2, .int .i64 x.xid, .int .i64 x.fst, .int .i64 x.lst, .int .i64 x.und]) := Cb.new x3 _ _
          have HOA := hide (onlyA x3 #[.int .i64 x.nx, .slice a2 x.act.length c2, .int .i64 x.xid, .int .i64 x.fst, .int .i64 x.lst, .int .i64 x.und] 37)
          obtain ⟨W4, hW4⟩ : ∃ y, x3.alloc (.cells #[.int .i64 x.nx, .slice a2 x.act.length c2, .int .i64 x.xid, .int .i64 x.fst, .int .i64 x.lst, .int .i64 x.und] 37) = y := ⟨_, rfl⟩
          rw [hW4] at HBT HOA ⊢
          obtain ⟨b14, hb14⟩ : ∃ b, x3.heap.size = b := ⟨_, rfl⟩
          rw [hb14] at HBT ⊢
          have HB14 := hide hb14
          clear hW4 hb14
          have HO4 := hide (o2 HO3.out HOA.out)
          have e1 := (HB6c.out.more HO4.out).c 1 _ rfl
          obtain ⟨Y, ad, cd, Rd, hr, _⟩ := (HP2.out.more HO4.out).doc (fun k hk => by rw [hk]; exact (HB6c.out.more HO4.out).lt)
          have HC := hide (rof_any W4 Y r (i + 1) f2 ad cd Rd hr (by omega) who)
          clear hr
          go_wp2_with fail
          refine HC.out.mono ?_
          rintro e x5 ⟨⟨a3, c3, rfl, hN⟩, ho5⟩
          have HN5 := hide hN
          have HO5 := hide ho5
          unfold txv
          rw [HX.out.1] at HN5 ⊢
          rw [HX.out.2]
          clear hN ho5 HC e1
          go_upto_region 29 with fail
          have HBU : Hid (Cb (x5.alloc (.cells #[.int .i64 x.nx, .slice a3 x.act.length c3, .int .i64 x.xid, .int .i64 x.fst, .int .i64 x.lst, .int .i64 x.und] 37)) x5.heap.size [.int .i64 x.nx, .slice a3 x.act.length c3, .int .i64 x.xid, .int .i64 x.fst, .int .i64 x.lst, .int .i64 x.und]) := Cb.new x5 _ _
          have HOU := hide (onlyA x5 #[.int .i64 x.nx, .slice a3 x.act.length c3, .int .i64 x.xid, .int .i64 x.fst, .int .i64 x.lst, .int .i64 x.und] 37)
          obtain ⟨W6, hW6⟩ : ∃ y, x5.alloc (.cells #[.int .i64 x.nx, .slice a3 x.act.length c3, .int .i64 x.xid, .int .i64 x.fst, .int .i64 x.lst, .int .i64 x.und] 37) = y := ⟨_, rfl⟩
          rw [hW6] at HBU HOU ⊢
          obtain ⟨b16, hb16⟩ : ∃ b, x5.heap.size = b := ⟨_, rfl⟩
          rw [hb16] at HBU ⊢
          clear hW6 hb16
          have HO46 := hide (o2 HO5.out HOU.out)
          have HO36 := hide (o2 HOA.out HO46.out)
          have HO6 := hide (o2 HO3.out HO36.out)
          have hbt := HBT.out.more HO46.out
          have HBT6 := hide hbt
          have u0 := hbt.c 0 _ rfl
          have u1 := hbt.c 1 _ rfl
          have u2 := hbt.c 2 _ rfl
          have u3 := hbt.c 3 _ rfl
          have u4 := hbt.c 4 _ rfl
          have u5 := hbt.c 5 _ rfl
          have v0 := HBU.out.c 0 _ rfl
          have v1 := HBU.out.c 1 _ rfl
          have v2 := HBU.out.c 2 _ rfl
          have v3 := HBU.out.c 3 _ rfl
          have v4 := HBU.out.c 4 _ rfl
          have v5 := HBU.out.c 5 _ rfl
          have hsm := rsame_eq W6 _ _ x a2 a3 c2 c3 (HN3.out.more HO36.out) (HN5.out.more HOU.out)
          unfold txv at hsm
          have HSM := hide hsm
          have hbx : (is != is) = false := by cases is <;> rfl
          clear hbt hsm
          go_wp2_with fail
          refine HSM.out.mono ?_
          rintro e x7 ⟨rfl, ho7⟩
          have HO7 := hide (o2 HO6.out ho7)
          have HBT7 := hide (HBT6.out.more ho7)
          have hpx := HP2.out.more HO7.out
          have HSM := hide hpx
          obtain ⟨Y, hl, hr, _⟩ := hpx.ex
          have HC := hide (lsame_eq w x7 _ Y t r (i + 1) f2 hl hr (by omega))
          have HW7 : Hid (Wrt x7 a2 x.act.length) := (Wrt.of HN3.out HF3.out).more (o2 HO36.out ho7)
          clear hl hr hpx ho7 HSM u0 u1 u2 u3 u4 u5 v0 v1 v2 v3 v4 v5
          go_wp2_with fail
          refine HC.out.mono ?_
          rintro e x8 ⟨rfl, ho8⟩
          have HO8 := hide (o2 HO7.out ho8)
          have HBT8 := hide (HBT7.out.more ho8)
          have HW8 := hide (HW7.out.more ho8)
          have HP8 := hide (HP2.out.fence HO8.out)
          have HLO : Hid (∀ k o s, a2 = some ⟨k, o, s⟩ → wc.heap.size ≤ k ∧ k < b14) := fun k o s e => ⟨HF3.out.lo k o s e, by have := (HF3.out.fz k o s e).1; have := HB14.out; omega⟩
          have HNL : Hid (0 < x.act.length → ∃ k o, a2 = some ⟨k, o, none⟩) := fun h0 => by
            obtain ⟨k, o, e, _⟩ := HN3.out.at_ h0
            exact ⟨k, o, e⟩
          have hll : x.act.length ≤ 17592186043904 := HN3.out.len
          have HB8L : Hid (b14 < x8.heap.size) := HBT8.out.lt
          clear ho8 HC HN3 HF3 HBU HW7 HBT7 HBT6 HBT HOA HO3 HO4 HO5 HOU HO46 HO36 HO6 HO7 HN5
          go_wp2_with fail
          go_loopw [18] (fun y wz => ∃ (j : Nat), y = .int .i64 (j : Int) ∧ j ≤ x.act.length ∧ Hid (Wrt wz a2 x.act.length) ∧ Hid (Only (fun k => wc.heap.size ≤ k ∧ k < b14) x8 wz)) (fun y _ => x.act.length - (intOf y).toNat)
          case atStart => exact ⟨0, rfl, Nat.zero_le _, HW8, Only.refl _ _⟩
          case round =>
            obtain ⟨j, rfl, hj, HW, HOZ⟩ := hrel
            obtain ⟨wz, hwz⟩ : ∃ x, x = wr := ⟨_, rfl⟩
            subst hwz
            have s1 := (HBT8.out.kept HOZ.out (fun e => by have := e.2; omega)).c 1 _ rfl
            by_cases hlj : j < x.act.length
            ·
              as_aux_lemma =>
                have HLK := hide hlj
                obtain ⟨k, o2', e2⟩ := HNL.out (by omega)
                obtain ⟨w1', w2', w3'⟩ := HW.out k o2' none e2
                obtain ⟨v, q0⟩ := w3' j hlj
                have qf := w2' (o2' + j)
                have HWS := hide (HW.out.set e2 hlj (.int .i64 (-8)))
                have hlo := HLO.out k o2' none e2
                have HOS : Hid (Only (fun k => wc.heap.size ≤ k ∧ k < b14) x8 (wz.setCell ⟨k, o2' + j, none⟩ (.int .i64 (-8)))) := HOZ.out.trans (Only.put wz k (o2' + j) (.int .i64 (-8))) (fun q _ e => by rw [e]; exact hlo)
                have hj0 : (0 : Int) ≤ (j : Int) := by omega
                have hj1 : (j : Int) < (x.act.length : Int) := by omega
                rw [e2] at s1
                clear w1' w2' w3' hlo
                go_wp2_with fail
                have hlk := HLK.out
                refine ⟨⟨j + 1, by go_num, Nat.succ_le_of_lt hlk, HWS, HOS⟩, ?_⟩
                simp [intOf]
                omega
            ·
              as_aux_lemma =>
                have HP9 := hide (HP8.out.kept HOZ.out (fun k hk => .inl (.inr ⟨hk.1, by have := HB8L.out; have h2 : k < b14 := hk.2; omega⟩)))
                have HXL9 : Hid (∀ k, (k = b6 ∨ (wc.heap.size ≤ k ∧ k < x8.heap.size)) → k < wz.heap.size) := fun k hk => by
                  have h1 := HOZ.out.size
                  rcases hk with h | h
                  · have := HB6c.out.lt; have := HO8.out.size; omega
                  · omega
                obtain ⟨K, hl, hK, _⟩ := HP9.out.code HXL9.out
                have HC := hide (lw_snaps w wz K t (i + 1) f2 hl (by omega))
                have HOW9 : Hid (Only (fun _ => False) w wz) := (o2 HOW.out HO8.out).trans HOZ.out (fun k hk e => by have h1 := HOW.out.size; have h2 : wc.heap.size ≤ k := e.1; omega)
                clear hl hK
                go_wp2_with fail
                refine HC.out.mono ?_
                clear s1
                rintro e x10 ⟨⟨aS, cS, SS, rfl, hS, _, hSl, _⟩, ho10⟩
                have HS := hide hS
                have HP10 := hide (HP9.out.fence ho10)
                have HO10 := hide (o2 HOW9.out ho10)
                have hsl2 : SS.length ≤ 4398046511103 := by omega
                have HGS : Hid (∀ k, (Value.slice aS SS.length cS).ownBlock = some k → wz.heap.size ≤ k ∧ k < x10.heap.size) := fun k hk => GRow.low hS k hk
                clear hS ho10 HC hSl
                go_wp2_with fail
                go_loopw [20] (fun y wy => ∃ (j : Nat) (Sj : List Sp), y = .int .i64 (j : Int) ∧ j ≤ SS.length ∧ Sj.length = SS.length ∧ Hid (SRow wy wz.heap.size (.slice aS SS.length cS) Sj) ∧ Hid (Only (fun k => wz.heap.size ≤ k ∧ k < x10.heap.size) x10 wy)) (fun y _ => SS.length - (intOf y).toNat)
                case atStart => exact ⟨0, SS, rfl, Nat.zero_le _, rfl, HS, Only.refl _ _⟩
                case round =>
                  obtain ⟨j, Sj, rfl, hj, hSj, HSR, HOY⟩ := hrel
                  by_cases hlj : j < SS.length
                  ·
                    as_aux_lemma =>
                      have HLK := hide hlj
                      have hgs := HGS.out
                      rcases GRow.head (E := ES) (L := Sj) (ao := aS) (cp := cS) (by rw [hSj]; exact HSR.out) with ⟨_, e2, _⟩ | ⟨g2, rfl, _, _, _, _, hf, hc⟩
                      · have h9 : Sj.length = 0 := by rw [e2]; rfl
                        omega
                      · have q0 : wr.cell? ⟨g2, j * 2 + 0, none⟩ = some (.int .i64 (Sj[j]'(by omega)).nx) := by
                          have := hc (j * 2 + 0) (iv (Sj[j]'(by omega)).nx)
                          refine this ?_
                          exact (Lay.get ES (j := j) (i := 0) (by omega) (by decide)).trans rfl
                        rw [Nat.add_zero] at q0
                        have qf := hf (j * 2)
                        have hgb := hgs g2 rfl
                        have hj0 : (0 : Int) ≤ (j : Int) := by omega
                        have hj1 : (j : Int) < (SS.length : Int) := by omega
                        have hpk := GRow.poke (E := ES) (k := 0) (u := .int .i64 (-9)) (x := { (Sj[j]'(by omega)) with nx := -9 }) HSR.out hSj (j := j) (by omega) (by decide) rfl
                        have ej : j * ES.c + 0 = j * 2 := rfl
                        rw [ej] at hpk
                        have HPK := hide hpk
                        have HOY2 : Hid (Only (fun k => wz.heap.size ≤ k ∧ k < x10.heap.size) x10 (wr.setCell ⟨g2, j * 2, none⟩ (.int .i64 (-9)))) := HOY.out.trans (Only.put wr g2 (j * 2) (.int .i64 (-9))) (fun k _ e => by rw [e]; exact hgb)
                        obtain ⟨S2, hS2⟩ : ∃ S2, Sj.set j { (Sj[j]'(by omega)) with nx := -9 } = S2 := ⟨_, rfl⟩
                        have hS2l : S2.length = SS.length := by rw [← hS2, List.length_set]; exact hSj
                        rw [hS2] at HPK
                        have HS2L := hide hS2l
                        clear hc hf hgs hpk ej hgb hS2 hS2l
                        go_wp2_with fail
                        have hlk := HLK.out
                        refine ⟨⟨j + 1, S2, by go_num, Nat.succ_le_of_lt hlk, HS2L.out, HPK, HOY2⟩, ?_⟩
                        simp [intOf]
                        omega
                  ·
                    as_aux_lemma =>
                      have hp11 := HP10.out.kept HOY.out (fun k hk => .inl (.inr hk))
                      have HP11 := hide hp11
                      obtain ⟨Y, hl, hr, _⟩ := hp11.ex
                      have HC := hide (lsame_eq w wr _ Y t r (i + 1) f2 hl hr (by omega))
                      have HO11 : Hid (Only (fun _ => False) w wr) := HO10.out.trans HOY.out (fun k hk e => by have h1 := HOW9.out.size; have h2 : wz.heap.size ≤ k := e.1; omega)
                      clear hl hr hp11
                      go_wp2_with fail
                      refine HC.out.mono ?_
                      rintro e x12 ⟨rfl, ho12⟩
                      have HP12 := hide ((HP11.out.more ho12).less (X' := fun _ => False) (fun _ h => h.elim))
                      have HO12 := hide (o2 HO11.out ho12)
                      clear ho12 HC
                      go_wp2_with fail
                      exact ⟨⟨i + 1, f2, by omega, by go_num, HP12, HO12⟩, by simp [intOf]; omega⟩
    ·
      as_aux_lemma =>
        go_wp2_with fail
        refine (HAW.out _).mono ?_
        rintro e w16 ⟨rfl, ho16⟩
        have HO16 := hide (o2 HO.out ho16)
        clear ho16
        go_wp2_with fail
        go_ret
        exact ⟨rfl, HO16.out⟩
end Go.Proofs.Ytmcghpeamnmbpaa
