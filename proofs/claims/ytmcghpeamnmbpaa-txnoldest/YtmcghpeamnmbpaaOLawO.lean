/- TxnOldest: its walk. -/
import Derived.Test.YtmcghpeamnmbpaaOOpen
import Derived.Deep.RegionHeld3
namespace Go.Proofs.Ytmcghpeamnmbpaa
open Go.RowKit Go.Maps

theorem yieldsIf_load_cellO {ops : Array Oper} {S : World → Prop} {op : Oper} {a : Act} {v : Value} (hw : Region.wanted op (yielded ops a.tmps) = true) (ty : TypeId) (x : Operand) (ho : op.op = .load ty x)
    (p : Addr) (hx : a.eval x = .pointer (some p)) (hS : ∀ w, S w → w.cell? p = some v) (hl : ∀ w, w.cell? p = some v → (loadVar ty p).run Try.prog w = .ok v w) : YieldsIf Try.prog ops S op v a :=
  .inl ⟨hw, fun w hw' => by
    unfold execOp
    simp only [ho, hx, Instr.loadAt, Instr.sureAddr, Sem.run_bind, Sem.run_pure, Result.andThen_ok, hl w (hS w hw')]⟩
theorem ol_le {f : Tt} {x : Int} (h : OlIs f x) {a : Int} {t : Tx} (hf : f a = some t) (h0 : t.fst ≠ 0) : x ≤ t.fst := by
  by_cases e : x = 0
  · exact absurd (h.no e a t hf) h0
  · exact (h.is e).2 a t hf h0
set_option maxRecDepth 100000 in
set_option maxHeartbeats 6400000 in
theorem oldest_law (w : World) (B cp : Nat) (ao : Option Addr) (L : List Oq) (hI : Oqs w.heap.size w B ao L) : Calls Try.prog 5 #[.slice ao L.length cp] w fun e w' => e = .returned (.bool true) ∧ Only (fun _ => False) w w' := by
  have HAW := hide (fun W => awake_any W)
  have HN := hide (lw_new w w (Nat.le_refl _) (fun _ => False) (fun _ h => h.elim))
  have hlen := hI.len
  have HI := hide hI
  clear hI
  go_enter Try.func5, Try.ntmps5
  go_wp2_with fail
  refine HN.out.mono ?_
  rintro e w1 ⟨t, rfl, h1, ho1⟩
  have HT1 := hide h1
  have HO1 := hide ho1
  clear h1 ho1 HN
  go_wp2_with fail
  go_loopw [4] (fun y wr => ∃ (i : Nat) (f : Tt), i ≤ L.length ∧ y = .int .i64 (i : Int) ∧ Hid (Lw w (fun _ => False) wr t f i) ∧ Hid (Only (fun _ => False) w wr)) (fun y _ => L.length - (intOf y).toNat)
  case atStart => exact ⟨0, Tt.none, by omega, rfl, HT1, HO1⟩
  case round =>
    obtain ⟨i, f, hi, rfl, HT, HO⟩ := hrel
    by_cases hlt : i < L.length
    · have hIr := HI.out.more HO.out
      obtain ⟨o, rfl, hcell⟩ := hIr.at_ (by omega)
      have hok := hIr.ok L[i] (List.getElem_mem hlt)
      replace hcell := hcell i hlt
      obtain ⟨q, hq⟩ : ∃ q, L[i] = q := ⟨_, rfl⟩
      rw [hq] at hcell hok
      clear hq
      obtain ⟨c, ao, cq⟩ := q
      have k0 := hcell 0 _ rfl
      have k1 := hcell 1 _ rfl
      have k2 := hcell 2 _ rfl
      have k3 := hcell 3 _ rfl
      have k4 := hcell 4 _ rfl
      have k5 := hcell 5 _ rfl
      simp only [Nat.add_zero] at k0
      have HWH : Hid (N64 c.who) := hok.who
      have HD := hide (does_any w wr (fun _ => False) t i f HT.out (fun _ h => h.elim) (by unfold maxLen; omega) c hok.who (fun k => k < w.heap.size) ao cq hok.nm)
      unfold clv at HD
      have HIR := hide hIr
      clear hcell hok hIr
      go_wp2_with fail
      refine HD.out.mono ?_
      rintro e w2 ⟨rfl, h2, ho2⟩
      have HT2 := hide h2
      have HO2 : Hid (Only (fun _ => False) w w2) := HO.out.trans ho2 (fun k hk h => by have := h.1; omega)
      have k1 := (HI.out.more HO2.out)
      have hBl := HIR.out.lt (by omega)
      have k1 : w2.cell? ⟨B, o + i * 6 + 1, none⟩ = some (.int .i64 c.who) := (ho2.cell (p := ⟨B, o + i * 6 + 1, none⟩) hBl.2 (fun h => by have h1 : w.heap.size ≤ B := h.1; omega)).trans ‹wr.cell? ⟨B, o + i * 6 + 1, none⟩ = some (.int .i64 c.who)›
      obtain ⟨f2, hf2⟩ : ∃ g, doF f c = g := ⟨_, rfl⟩
      rw [hf2] at h2 HT2
      have HF := hide (lw_of w w2 (fun _ => False) t (i + 1) f2 h2 c.who HWH.out)
      clear h2 ho2 HD k0 k2 k3 k4 k5 hf2 HT HIR hBl
      go_wp2_with fail
      refine HF.out.mono ?_
      rintro e w3 ⟨⟨a2, c2, rfl, _, _⟩, ho3⟩
      unfold txv
      have HT3 := hide (HT2.out.more ho3)
      have HO3 := hide (o2 HO2.out ho3)
      clear ho3 HF k1 HT2 HO2
      cases hf : f2 c.who with
      | none =>
        simp only [Option.isSome_none]
        have HT4 : Hid (∀ vs ty, Lw w (fun _ => False) (w3.alloc (.cells vs ty)) t f2 (i + 1)) := fun vs ty => HT3.out.more (onlyA _ _ _)
        have HO4 : Hid (∀ vs ty, Only (fun _ => False) w (w3.alloc (.cells vs ty))) := fun vs ty => o2 HO3.out (onlyA _ _ _)
        go_wp2_with fail
        exact ⟨⟨i + 1, f2, by omega, by go_num, HT4.out _ _, HO4.out _ _⟩, by simp [intOf]; omega⟩
      | some x =>
        have hT := HT3.out.ok
        have hfl := hT.fl _ x hf
        have hun := hT.und _ x hf
        have hofx : ofT f2 c.who = x := by unfold ofT; rw [hf]; rfl
        rw [hofx]
        simp only [Option.isSome_some]
        have HF := hide hf
        obtain ⟨nx, act, xi, fi, la, un⟩ := x
        simp only at hfl hun ⊢
        obtain ⟨hfl1, hfl2, hfl3⟩ := hfl
        obtain ⟨hun1, _⟩ := hun
        clear hT hofx hf
        go_upto_region 9 with fail
        have HB : Hid (Cb (w3.alloc (.cells #[.int .i64 nx, .slice a2 act.length c2, .int .i64 xi, .int .i64 fi, .int .i64 la, .int .i64 un] 37)) w3.heap.size [.int .i64 nx, .slice a2 act.length c2, .int .i64 xi, .int .i64 fi, .int .i64 la, .int .i64 un]) := Cb.new w3 _ _
        have HT4 := hide (HT3.out.more (onlyA w3 #[.int .i64 nx, .slice a2 act.length c2, .int .i64 xi, .int .i64 fi, .int .i64 la, .int .i64 un] 37))
        have HO4 := hide (o2 HO3.out (onlyA w3 #[.int .i64 nx, .slice a2 act.length c2, .int .i64 xi, .int .i64 fi, .int .i64 la, .int .i64 un] 37))
        obtain ⟨W4, hW4⟩ : ∃ x, w3.alloc (.cells #[.int .i64 nx, .slice a2 act.length c2, .int .i64 xi, .int .i64 fi, .int .i64 la, .int .i64 un] 37) = x := ⟨_, rfl⟩
        rw [hW4] at HB HT4 HO4 ⊢
        obtain ⟨b5, hb5⟩ : ∃ b, w3.heap.size = b := ⟨_, rfl⟩
        rw [hb5] at HB ⊢
        clear hW4 hb5 HT3 HO3
        go_upto_region 10 with fail
        have HC3 : Hid (∀ W, Only (fun _ => False) W4 W → W.cell? ⟨b5, 3, none⟩ = some (.int .i64 fi)) := fun W ho => (HB.out.more ho).c 3 _ rfl
        have HC4 : Hid (∀ W, Only (fun _ => False) W4 W → W.cell? ⟨b5, 4, none⟩ = some (.int .i64 la)) := fun W ho => (HB.out.more ho).c 4 _ rfl
        have HC5 : Hid (∀ W, Only (fun _ => False) W4 W → W.cell? ⟨b5, 5, none⟩ = some (.int .i64 un)) := fun W ho => (HB.out.more ho).c 5 _ rfl
        have HOD : Hid (∀ W, Only (fun _ => False) W4 W → Calls Try.prog 26 #[.pointer (some ⟨t, 0, none⟩)] W fun e w' => RN e (OlIs f2) ∧ Only (fun _ => False) W w') := fun W ho => lw_old w W (fun _ => False) t (i + 1) f2 (HT4.out.more ho)
        have n1 : ¬ la < fi := by omega
        have n2 : ¬ un < 0 := by omega
        by_cases h0 : fi = 0
        · have h00 : la = 0 := by
            by_cases hl : la = 0
            · exact hl
            · exact absurd h0 (hfl3 hl)
          subst h0
          subst h00
          clear hfl1 hfl2 hfl3
          refine wp_region_noPanic ?_
          refine wp_region_held_drew (S := fun W => Only (fun _ => False) W4 W) (by kernel_rfl) (Only.drew _ W4) (fun hHeld => ?_)
          refine wpAnyH_take (i := 0) (oi := { dst := some 36, op := Op.fieldAddr 37 (Operand.tmp 5) 2, type := 0, pos := "law.go:156", after := #[], guard := none }) (v := .pointer (some ⟨b5, 3, none⟩)) rfl (by kernel_rfl) (by kernel_rfl) (by kernel_rfl) (fun _ _ _ h => h) (Or.inl ⟨by rfl, fun w' hSw => by clear hSw; go_simp⟩) (by assumption) ?_
          simp only [Act.put, List.setIfInBounds_toArray, List.set_cons_zero, List.set_cons_succ]
          refine wpAnyH_take (i := 2) (oi := { dst := some 38, op := Op.fieldAddr 37 (Operand.tmp 5) 3, type := 0, pos := "law.go:156", after := #[], guard := none }) (v := .pointer (some ⟨b5, 4, none⟩)) rfl (by kernel_rfl) (by kernel_rfl) (by kernel_rfl) (fun _ _ _ h => h) (Or.inl ⟨by rfl, fun w' hSw => by clear hSw; go_simp⟩) (by assumption) ?_
          simp only [Act.put, List.setIfInBounds_toArray, List.set_cons_zero, List.set_cons_succ]
          refine wpAnyH_take (i := 1) (oi := { dst := some 37, op := Op.load 3 (Operand.tmp 36), type := 3, pos := "law.go:156", after := #[{ on := 0, ground := Ground.data }], guard := none }) (v := .int .i64 0) rfl (by kernel_rfl) (by kernel_rfl) (by kernel_rfl) (fun _ _ _ h => h) (yieldsIf_load_cellO (by rfl) 3 _ rfl _ rfl (fun W hW => HC3.out W hW) (fun W hc => ld_int hc)) (by assumption) ?_
          simp only [Act.put, List.setIfInBounds_toArray, List.set_cons_zero, List.set_cons_succ]
          refine wpAnyH_take (i := 3) (oi := { dst := some 39, op := Op.load 3 (Operand.tmp 38), type := 3, pos := "law.go:156", after := #[{ on := 2, ground := Ground.data }], guard := none }) (v := .int .i64 0) rfl (by kernel_rfl) (by kernel_rfl) (by kernel_rfl) (fun _ _ _ h => h) (yieldsIf_load_cellO (by rfl) 3 _ rfl _ rfl (fun W hW => HC4.out W hW) (fun W hc => ld_int hc)) (by assumption) ?_
          simp only [Act.put, List.setIfInBounds_toArray, List.set_cons_zero, List.set_cons_succ]
          refine wpAnyH_take (i := 4) (oi := { dst := some 40, op := Op.binOp BinOp.gtr 3 (Operand.tmp 37) (Operand.tmp 39) 3, type := 4, pos := "law.go:156", after := #[{ on := 1, ground := Ground.data }, { on := 3, ground := Ground.data }], guard := none }) (v := .bool false) rfl (by kernel_rfl) (by kernel_rfl) (by kernel_rfl) (fun _ _ _ h => h) (Or.inl ⟨by rfl, fun w' hSw => by clear hSw; go_simp⟩) (by assumption) ?_
          simp only [Act.put, List.setIfInBounds_toArray, List.set_cons_zero, List.set_cons_succ]
          refine wpAnyH_take (i := 5) (oi := { dst := some 41, op := Op.move (Operand.tmp 40), type := 4, pos := "law.go:156", after := #[{ on := 4, ground := Ground.data }], guard := none }) (v := .bool false) rfl (by kernel_rfl) (by kernel_rfl) (by kernel_rfl) (fun _ _ _ h => h) (Or.inl ⟨by rfl, fun w' hSw => by clear hSw; go_simp⟩) (by assumption) ?_
          simp only [Act.put, List.setIfInBounds_toArray, List.set_cons_zero, List.set_cons_succ]
          refine wpAnyH_take (i := 6) (oi := { dst := some 42, op := Op.fieldAddr 37 (Operand.tmp 5) 2, type := 0, pos := "law.go:156", after := #[{ on := 5, ground := Ground.guard }], guard := some (5, false) }) (v := .pointer (some ⟨b5, 3, none⟩)) rfl (by kernel_rfl) (by kernel_rfl) (by kernel_rfl) (fun _ _ _ h => h) (Or.inl ⟨by rfl, fun w' hSw => by clear hSw; go_simp⟩) (by assumption) ?_
          simp only [Act.put, List.setIfInBounds_toArray, List.set_cons_zero, List.set_cons_succ]
          refine wpAnyH_take (i := 7) (oi := { dst := some 43, op := Op.load 3 (Operand.tmp 42), type := 3, pos := "law.go:156", after := #[{ on := 6, ground := Ground.data }, { on := 5, ground := Ground.guard }], guard := some (5, false) }) (v := .int .i64 0) rfl (by kernel_rfl) (by kernel_rfl) (by kernel_rfl) (fun _ _ _ h => h) (yieldsIf_load_cellO (by rfl) 3 _ rfl _ rfl (fun W hW => HC3.out W hW) (fun W hc => ld_int hc)) (by assumption) ?_
          simp only [Act.put, List.setIfInBounds_toArray, List.set_cons_zero, List.set_cons_succ]
          refine wpAnyH_take (i := 8) (oi := { dst := some 44, op := Op.binOp BinOp.neq 3 (Operand.tmp 43) (Operand.const (Value.int IntKind.i64 0)) 3, type := 4, pos := "law.go:156", after := #[{ on := 7, ground := Ground.data }, { on := 5, ground := Ground.guard }], guard := some (5, false) }) (v := .bool false) rfl (by kernel_rfl) (by kernel_rfl) (by kernel_rfl) (fun _ _ _ h => h) (Or.inl ⟨by rfl, fun w' hSw => by clear hSw; go_simp⟩) (by assumption) ?_
          simp only [Act.put, List.setIfInBounds_toArray, List.set_cons_zero, List.set_cons_succ]
          refine wpAnyH_take (i := 9) (oi := { dst := some 45, op := Op.move (Operand.tmp 44), type := 4, pos := "law.go:156", after := #[{ on := 8, ground := Ground.data }, { on := 5, ground := Ground.chain }, { on := 5, ground := Ground.guard }], guard := some (5, false) }) (v := .bool false) rfl (by kernel_rfl) (by kernel_rfl) (by kernel_rfl) (fun _ _ _ h => h) (Or.inl ⟨by rfl, fun w' hSw => by clear hSw; go_simp⟩) (by assumption) ?_
          simp only [Act.put, List.setIfInBounds_toArray, List.set_cons_zero, List.set_cons_succ]
          refine wpAnyH_take (i := 10) (oi := { dst := some 46, op := Op.fieldAddr 37 (Operand.tmp 5) 2, type := 0, pos := "law.go:156", after := #[{ on := 9, ground := Ground.guard }], guard := some (9, true) }) (v := undef) rfl (by kernel_rfl) (by kernel_rfl) (by kernel_rfl) (fun _ _ _ h => h) (Or.inr ⟨by rfl, rfl⟩) (by assumption) ?_
          simp only [Act.put, List.setIfInBounds_toArray, List.set_cons_zero, List.set_cons_succ]
          refine wpAnyH_take (i := 12) (oi := { dst := some 48, op := Op.move (Operand.tmp 3), type := 23, pos := "law.go:156", after := #[{ on := 9, ground := Ground.guard }], guard := some (9, true) }) (v := undef) rfl (by kernel_rfl) (by kernel_rfl) (by kernel_rfl) (fun _ _ _ h => h) (Or.inr ⟨by rfl, rfl⟩) (by assumption) ?_
          simp only [Act.put, List.setIfInBounds_toArray, List.set_cons_zero, List.set_cons_succ]
          refine wpAnyH_take (i := 11) (oi := { dst := some 47, op := Op.load 3 (Operand.tmp 46), type := 3, pos := "law.go:156", after := #[{ on := 10, ground := Ground.data }, { on := 9, ground := Ground.guard }], guard := some (9, true) }) (v := undef) rfl (by kernel_rfl) (by kernel_rfl) (by kernel_rfl) (fun _ _ _ h => h) (Or.inr ⟨by rfl, rfl⟩) (by assumption) ?_
          simp only [Act.put, List.setIfInBounds_toArray, List.set_cons_zero, List.set_cons_succ]
          refine wpAnyH_take (i := 13) (oi := { dst := some 49, op := Op.call { callee := Callee.value (Operand.func 26), args := #[Operand.tmp 48], argTypes := #[23] }, type := 3, pos := "law.go:156", after := #[{ on := 12, ground := Ground.data }, { on := 9, ground := Ground.chain }, { on := 9, ground := Ground.guard }], guard := some (9, true) }) (v := undef) rfl (by kernel_rfl) (by kernel_rfl) (by kernel_rfl) (fun _ _ _ h => h) (Or.inr ⟨by rfl, rfl⟩) (by assumption) ?_
          simp only [Act.put, List.setIfInBounds_toArray, List.set_cons_zero, List.set_cons_succ]
          refine wpAnyH_take (i := 14) (oi := { dst := some 50, op := Op.binOp BinOp.lss 3 (Operand.tmp 47) (Operand.tmp 49) 3, type := 4, pos := "law.go:156", after := #[{ on := 11, ground := Ground.data }, { on := 13, ground := Ground.data }, { on := 9, ground := Ground.guard }], guard := some (9, true) }) (v := undef) rfl (by kernel_rfl) (by kernel_rfl) (by kernel_rfl) (fun _ _ _ h => h) (Or.inr ⟨by rfl, rfl⟩) (by assumption) ?_
          simp only [Act.put, List.setIfInBounds_toArray, List.set_cons_zero, List.set_cons_succ]
          refine wpAnyH_take (i := 15) (oi := { dst := some 51, op := Op.pick (Operand.tmp 45) (Operand.tmp 50) (Operand.const (Value.bool false)), type := 4, pos := "law.go:156", after := #[{ on := 9, ground := Ground.data }, { on := 14, ground := Ground.data }, { on := 5, ground := Ground.guard }], guard := some (5, false) }) (v := .bool false) rfl (by kernel_rfl) (by kernel_rfl) (by kernel_rfl) (fun _ _ _ h => h) (Or.inl ⟨by rfl, fun w' hSw => by clear hSw; go_simp⟩) (by assumption) ?_
          simp only [Act.put, List.setIfInBounds_toArray, List.set_cons_zero, List.set_cons_succ]
          refine wpAnyH_take (i := 16) (oi := { dst := some 52, op := Op.pick (Operand.tmp 41) (Operand.const (Value.bool true)) (Operand.tmp 51), type := 4, pos := "law.go:156", after := #[{ on := 5, ground := Ground.data }, { on := 15, ground := Ground.data }], guard := none }) (v := .bool false) rfl (by kernel_rfl) (by kernel_rfl) (by kernel_rfl) (fun _ _ _ h => h) (Or.inl ⟨by rfl, fun w' hSw => by clear hSw; go_simp⟩) (by assumption) ?_
          simp only [Act.put, List.setIfInBounds_toArray, List.set_cons_zero, List.set_cons_succ]
          refine wpAnyH_take (i := 17) (oi := { dst := some 53, op := Op.move (Operand.tmp 52), type := 4, pos := "law.go:156", after := #[{ on := 16, ground := Ground.data }, { on := 13, ground := Ground.chain }], guard := none }) (v := .bool false) rfl (by kernel_rfl) (by kernel_rfl) (by kernel_rfl) (fun _ _ _ h => h) (Or.inl ⟨by rfl, fun w' hSw => by clear hSw; go_simp⟩) (by assumption) ?_
          simp only [Act.put, List.setIfInBounds_toArray, List.set_cons_zero, List.set_cons_succ]
          refine wpAnyH_take (i := 18) (oi := { dst := some 54, op := Op.fieldAddr 37 (Operand.tmp 5) 2, type := 0, pos := "law.go:156", after := #[{ on := 17, ground := Ground.guard }], guard := some (17, false) }) (v := .pointer (some ⟨b5, 3, none⟩)) rfl (by kernel_rfl) (by kernel_rfl) (by kernel_rfl) (fun _ _ _ h => h) (Or.inl ⟨by rfl, fun w' hSw => by clear hSw; go_simp⟩) (by assumption) ?_
          simp only [Act.put, List.setIfInBounds_toArray, List.set_cons_zero, List.set_cons_succ]
          refine wpAnyH_take (i := 21) (oi := { dst := some 57, op := Op.fieldAddr 37 (Operand.tmp 5) 3, type := 0, pos := "law.go:156", after := #[{ on := 17, ground := Ground.guard }], guard := some (17, false) }) (v := .pointer (some ⟨b5, 4, none⟩)) rfl (by kernel_rfl) (by kernel_rfl) (by kernel_rfl) (fun _ _ _ h => h) (Or.inl ⟨by rfl, fun w' hSw => by clear hSw; go_simp⟩) (by assumption) ?_
          simp only [Act.put, List.setIfInBounds_toArray, List.set_cons_zero, List.set_cons_succ]
          refine wpAnyH_take (i := 19) (oi := { dst := some 55, op := Op.load 3 (Operand.tmp 54), type := 3, pos := "law.go:156", after := #[{ on := 18, ground := Ground.data }, { on := 17, ground := Ground.guard }], guard := some (17, false) }) (v := .int .i64 0) rfl (by kernel_rfl) (by kernel_rfl) (by kernel_rfl) (fun _ _ _ h => h) (yieldsIf_load_cellO (by rfl) 3 _ rfl _ rfl (fun W hW => HC3.out W hW) (fun W hc => ld_int hc)) (by assumption) ?_
          simp only [Act.put, List.setIfInBounds_toArray, List.set_cons_zero, List.set_cons_succ]
          refine wpAnyH_take (i := 22) (oi := { dst := some 58, op := Op.load 3 (Operand.tmp 57), type := 3, pos := "law.go:156", after := #[{ on := 21, ground := Ground.data }, { on := 17, ground := Ground.guard }], guard := some (17, false) }) (v := .int .i64 0) rfl (by kernel_rfl) (by kernel_rfl) (by kernel_rfl) (fun _ _ _ h => h) (yieldsIf_load_cellO (by rfl) 3 _ rfl _ rfl (fun W hW => HC4.out W hW) (fun W hc => ld_int hc)) (by assumption) ?_
          simp only [Act.put, List.setIfInBounds_toArray, List.set_cons_zero, List.set_cons_succ]
          refine wpAnyH_take (i := 20) (oi := { dst := some 56, op := Op.binOp BinOp.eql 3 (Operand.tmp 55) (Operand.const (Value.int IntKind.i64 0)) 3, type := 4, pos := "law.go:156", after := #[{ on := 19, ground := Ground.data }, { on := 17, ground := Ground.guard }], guard := some (17, false) }) (v := .bool true) rfl (by kernel_rfl) (by kernel_rfl) (by kernel_rfl) (fun _ _ _ h => h) (Or.inl ⟨by rfl, fun w' hSw => by clear hSw; go_simp⟩) (by assumption) ?_
          simp only [Act.put, List.setIfInBounds_toArray, List.set_cons_zero, List.set_cons_succ]
          refine wpAnyH_take (i := 23) (oi := { dst := some 59, op := Op.binOp BinOp.eql 3 (Operand.tmp 58) (Operand.const (Value.int IntKind.i64 0)) 3, type := 4, pos := "law.go:156", after := #[{ on := 22, ground := Ground.data }, { on := 17, ground := Ground.guard }], guard := some (17, false) }) (v := .bool true) rfl (by kernel_rfl) (by kernel_rfl) (by kernel_rfl) (fun _ _ _ h => h) (Or.inl ⟨by rfl, fun w' hSw => by clear hSw; go_simp⟩) (by assumption) ?_
          simp only [Act.put, List.setIfInBounds_toArray, List.set_cons_zero, List.set_cons_succ]
          refine wpAnyH_take (i := 24) (oi := { dst := some 60, op := Op.binOp BinOp.neq 4 (Operand.tmp 56) (Operand.tmp 59) 4, type := 4, pos := "law.go:156", after := #[{ on := 20, ground := Ground.data }, { on := 23, ground := Ground.data }, { on := 17, ground := Ground.guard }], guard := some (17, false) }) (v := .bool false) rfl (by kernel_rfl) (by kernel_rfl) (by kernel_rfl) (fun _ _ _ h => h) (Or.inl ⟨by rfl, fun w' hSw => by clear hSw; go_simp⟩) (by assumption) ?_
          simp only [Act.put, List.setIfInBounds_toArray, List.set_cons_zero, List.set_cons_succ]
          refine wpAnyH_take (i := 25) (oi := { dst := some 61, op := Op.pick (Operand.tmp 53) (Operand.const (Value.bool true)) (Operand.tmp 60), type := 4, pos := "law.go:156", after := #[{ on := 17, ground := Ground.data }, { on := 24, ground := Ground.data }], guard := none }) (v := .bool false) rfl (by kernel_rfl) (by kernel_rfl) (by kernel_rfl) (fun _ _ _ h => h) (Or.inl ⟨by rfl, fun w' hSw => by clear hSw; go_simp⟩) (by assumption) ?_
          simp only [Act.put, List.setIfInBounds_toArray, List.set_cons_zero, List.set_cons_succ]
          refine wpAnyH_take (i := 26) (oi := { dst := some 62, op := Op.move (Operand.tmp 61), type := 4, pos := "law.go:156", after := #[{ on := 25, ground := Ground.data }, { on := 17, ground := Ground.chain }], guard := none }) (v := .bool false) rfl (by kernel_rfl) (by kernel_rfl) (by kernel_rfl) (fun _ _ _ h => h) (Or.inl ⟨by rfl, fun w' hSw => by clear hSw; go_simp⟩) (by assumption) ?_
          simp only [Act.put, List.setIfInBounds_toArray, List.set_cons_zero, List.set_cons_succ]
          refine wpAnyH_take (i := 27) (oi := { dst := some 63, op := Op.fieldAddr 37 (Operand.tmp 5) 4, type := 0, pos := "law.go:156", after := #[{ on := 26, ground := Ground.guard }], guard := some (26, false) }) (v := .pointer (some ⟨b5, 5, none⟩)) rfl (by kernel_rfl) (by kernel_rfl) (by kernel_rfl) (fun _ _ _ h => h) (Or.inl ⟨by rfl, fun w' hSw => by clear hSw; go_simp⟩) (by assumption) ?_
          simp only [Act.put, List.setIfInBounds_toArray, List.set_cons_zero, List.set_cons_succ]
          refine wpAnyH_take (i := 28) (oi := { dst := some 64, op := Op.load 3 (Operand.tmp 63), type := 3, pos := "law.go:156", after := #[{ on := 27, ground := Ground.data }, { on := 26, ground := Ground.guard }], guard := some (26, false) }) (v := .int .i64 un) rfl (by kernel_rfl) (by kernel_rfl) (by kernel_rfl) (fun _ _ _ h => h) (yieldsIf_load_cellO (by rfl) 3 _ rfl _ rfl (fun W hW => HC5.out W hW) (fun W hc => ld_int hc)) (by assumption) ?_
          simp only [Act.put, List.setIfInBounds_toArray, List.set_cons_zero, List.set_cons_succ]
          refine wpAnyH_take (i := 29) (oi := { dst := some 65, op := Op.binOp BinOp.lss 3 (Operand.tmp 64) (Operand.const (Value.int IntKind.i64 0)) 3, type := 4, pos := "law.go:156", after := #[{ on := 28, ground := Ground.data }, { on := 26, ground := Ground.guard }], guard := some (26, false) }) (v := .bool false) rfl (by kernel_rfl) (by kernel_rfl) (by kernel_rfl) (fun _ _ _ h => h) (Or.inl ⟨by rfl, fun w' hSw => by clear hSw; go_simp⟩) (by assumption) ?_
          simp only [Act.put, List.setIfInBounds_toArray, List.set_cons_zero, List.set_cons_succ]
          refine wpAnyH_take (i := 30) (oi := { dst := some 66, op := Op.pick (Operand.tmp 62) (Operand.const (Value.bool true)) (Operand.tmp 65), type := 4, pos := "law.go:156", after := #[{ on := 26, ground := Ground.data }, { on := 29, ground := Ground.data }], guard := none }) (v := .bool false) rfl (by kernel_rfl) (by kernel_rfl) (by kernel_rfl) (fun _ _ _ h => h) (Or.inl ⟨by rfl, fun w' hSw => by clear hSw; go_simp⟩) (by assumption) ?_
          simp only [Act.put, List.setIfInBounds_toArray, List.set_cons_zero, List.set_cons_succ]
          refine wpAnyH_done (by kernel_rfl) ?_ _
          refine NoPanic.normal ?_
          have HT5 := hide (HT4.out.more (Only.drew _ W4))
          have HO5 := hide (o2 HO4.out (Only.drew _ W4))
          have HR := hide (lw_run w W4.drew (fun _ => False) t (i + 1) f2 HT5.out (by omega))
          clear HT4 HO4 HOD HC3 HC4 HC5 HB n1 n2
          go_wp2_with fail
          refine HR.out.mono ?_
          rintro e w6 ⟨⟨aB, cB, M, rfl, hM, hBg, hMl⟩, ho6⟩
          have HM := hide hM
          have HG := hide hBg
          have HT6 := hide (HT5.out.more ho6)
          have HO6 := hide (o2 HO5.out ho6)
          clear hM hBg ho6 HR HT5 HO5
          go_wp2_with fail
          go_loopw [8] (fun y wr => ∃ (j : Nat), y = .int .i64 (((j + 1 : Nat)) : Int) ∧ j ≤ M.length ∧ Hid (Only (fun _ => False) w6 wr)) (fun y _ => M.length + 1 - (intOf y).toNat)
          case atStart => exact ⟨0, rfl, by omega, Only.refl _ _⟩
          case round =>
            obtain ⟨j, rfl, hj, HO7⟩ := hrel
            by_cases hjl : j + 1 < M.length
            · obtain ⟨p0, p1, hp0, hp1⟩ : ∃ p0 p1, M[j] = p0 ∧ M[j + 1] = p1 := ⟨_, _, rfl, rfl⟩
              have hlt2 : p0.1 < p1.1 := by
                rw [← hp0, ← hp1]
                exact List.pairwise_iff_getElem.1 HG.out.up j (j + 1) (by omega) hjl (by omega)
              have hMr := HM.out.more HO7.out
              obtain ⟨gM, rfl, hc⟩ : ∃ gM, aB = some ⟨gM, 0, none⟩ ∧ ∀ k (hk : k < M.length), wr.cell? ⟨gM, k, none⟩ = some (.int .i64 M[k].1) := by
                rcases GRow.head (E := EI) (L := M.map (·.1)) (ao := aB) (cp := cB) (by rw [List.length_map]; exact hMr) with ⟨_, e2, _⟩ | ⟨gM, e2, _, _, _, _, _, hc⟩
                · have hM0 : M = [] := by simpa using e2
                  have hMz : M.length = 0 := by rw [hM0]; rfl
                  omega
                · refine ⟨gM, e2, fun k hk => hc k _ ?_⟩
                  rw [fm_iv]
                  simp [hk, iv]
              have q0 := hc j (by omega)
              have q1 := hc (j + 1) hjl
              rw [hp0] at q0
              rw [hp1] at q1
              obtain ⟨x0, hx0⟩ : ∃ z, p0.1 = z := ⟨_, rfl⟩
              obtain ⟨x1, hx1⟩ : ∃ z, p1.1 = z := ⟨_, rfl⟩
              rw [hx0] at q0 hlt2
              rw [hx1] at q1 hlt2
              have n4 : ¬ x1 ≤ x0 := by omega
              have hj0 : (0 : Int) ≤ (j : Int) := by omega
              have hj1 : (j : Int) < (M.length : Int) := by omega
              have hj2 : (j : Int) + 1 < (M.length : Int) := by omega
              clear hp0 hp1 hMr hc hx0 hx1 hlt2
              go_wp2_with fail
              go_region
              go_wp2_with fail
              exact ⟨⟨j + 1, by go_num, by omega, o2 HO7.out (Only.drew _ _)⟩, by simp [intOf]; omega⟩
            · go_wp2_with fail
              exact ⟨⟨i + 1, f2, by omega, by go_num, HT6.out.more HO7.out, o2 HO6.out HO7.out⟩, by simp [intOf]; omega⟩
        · have h00 : la ≠ 0 := by omega
          have m1 : (fi != 0) = true := by simp [h0]
          have m2 : (fi == 0) = false := by simp [h0]
          have m3 : (la == 0) = false := by simp [h00]
          refine wp_region_noPanic ?_
          refine wp_region_held_drew (S := fun W => Only (fun _ => False) W4 W) (by kernel_rfl) (Only.drew _ W4) (fun hHeld => ?_)
          refine wpAnyH_take (i := 0) (oi := { dst := some 36, op := Op.fieldAddr 37 (Operand.tmp 5) 2, type := 0, pos := "law.go:156", after := #[], guard := none }) (v := .pointer (some ⟨b5, 3, none⟩)) rfl (by kernel_rfl) (by kernel_rfl) (by kernel_rfl) (fun _ _ _ h => h) (Or.inl ⟨by rfl, fun w' hSw => by clear hSw; go_simp⟩) (by assumption) ?_
          simp only [Act.put, List.setIfInBounds_toArray, List.set_cons_zero, List.set_cons_succ]
          refine wpAnyH_take (i := 2) (oi := { dst := some 38, op := Op.fieldAddr 37 (Operand.tmp 5) 3, type := 0, pos := "law.go:156", after := #[], guard := none }) (v := .pointer (some ⟨b5, 4, none⟩)) rfl (by kernel_rfl) (by kernel_rfl) (by kernel_rfl) (fun _ _ _ h => h) (Or.inl ⟨by rfl, fun w' hSw => by clear hSw; go_simp⟩) (by assumption) ?_
          simp only [Act.put, List.setIfInBounds_toArray, List.set_cons_zero, List.set_cons_succ]
          refine wpAnyH_take (i := 1) (oi := { dst := some 37, op := Op.load 3 (Operand.tmp 36), type := 3, pos := "law.go:156", after := #[{ on := 0, ground := Ground.data }], guard := none }) (v := .int .i64 fi) rfl (by kernel_rfl) (by kernel_rfl) (by kernel_rfl) (fun _ _ _ h => h) (yieldsIf_load_cellO (by rfl) 3 _ rfl _ rfl (fun W hW => HC3.out W hW) (fun W hc => ld_int hc)) (by assumption) ?_
          simp only [Act.put, List.setIfInBounds_toArray, List.set_cons_zero, List.set_cons_succ]
          refine wpAnyH_take (i := 3) (oi := { dst := some 39, op := Op.load 3 (Operand.tmp 38), type := 3, pos := "law.go:156", after := #[{ on := 2, ground := Ground.data }], guard := none }) (v := .int .i64 la) rfl (by kernel_rfl) (by kernel_rfl) (by kernel_rfl) (fun _ _ _ h => h) (yieldsIf_load_cellO (by rfl) 3 _ rfl _ rfl (fun W hW => HC4.out W hW) (fun W hc => ld_int hc)) (by assumption) ?_
          simp only [Act.put, List.setIfInBounds_toArray, List.set_cons_zero, List.set_cons_succ]
          refine wpAnyH_take (i := 4) (oi := { dst := some 40, op := Op.binOp BinOp.gtr 3 (Operand.tmp 37) (Operand.tmp 39) 3, type := 4, pos := "law.go:156", after := #[{ on := 1, ground := Ground.data }, { on := 3, ground := Ground.data }], guard := none }) (v := .bool false) rfl (by kernel_rfl) (by kernel_rfl) (by kernel_rfl) (fun _ _ _ h => h) (Or.inl ⟨by rfl, fun w' hSw => by clear hSw; go_simp⟩) (by assumption) ?_
          simp only [Act.put, List.setIfInBounds_toArray, List.set_cons_zero, List.set_cons_succ]
          refine wpAnyH_take (i := 5) (oi := { dst := some 41, op := Op.move (Operand.tmp 40), type := 4, pos := "law.go:156", after := #[{ on := 4, ground := Ground.data }], guard := none }) (v := .bool false) rfl (by kernel_rfl) (by kernel_rfl) (by kernel_rfl) (fun _ _ _ h => h) (Or.inl ⟨by rfl, fun w' hSw => by clear hSw; go_simp⟩) (by assumption) ?_
          simp only [Act.put, List.setIfInBounds_toArray, List.set_cons_zero, List.set_cons_succ]
          refine wpAnyH_take (i := 6) (oi := { dst := some 42, op := Op.fieldAddr 37 (Operand.tmp 5) 2, type := 0, pos := "law.go:156", after := #[{ on := 5, ground := Ground.guard }], guard := some (5, false) }) (v := .pointer (some ⟨b5, 3, none⟩)) rfl (by kernel_rfl) (by kernel_rfl) (by kernel_rfl) (fun _ _ _ h => h) (Or.inl ⟨by rfl, fun w' hSw => by clear hSw; go_simp⟩) (by assumption) ?_
          simp only [Act.put, List.setIfInBounds_toArray, List.set_cons_zero, List.set_cons_succ]
          refine wpAnyH_take (i := 7) (oi := { dst := some 43, op := Op.load 3 (Operand.tmp 42), type := 3, pos := "law.go:156", after := #[{ on := 6, ground := Ground.data }, { on := 5, ground := Ground.guard }], guard := some (5, false) }) (v := .int .i64 fi) rfl (by kernel_rfl) (by kernel_rfl) (by kernel_rfl) (fun _ _ _ h => h) (yieldsIf_load_cellO (by rfl) 3 _ rfl _ rfl (fun W hW => HC3.out W hW) (fun W hc => ld_int hc)) (by assumption) ?_
          simp only [Act.put, List.setIfInBounds_toArray, List.set_cons_zero, List.set_cons_succ]
          refine wpAnyH_take (i := 8) (oi := { dst := some 44, op := Op.binOp BinOp.neq 3 (Operand.tmp 43) (Operand.const (Value.int IntKind.i64 0)) 3, type := 4, pos := "law.go:156", after := #[{ on := 7, ground := Ground.data }, { on := 5, ground := Ground.guard }], guard := some (5, false) }) (v := .bool true) rfl (by kernel_rfl) (by kernel_rfl) (by kernel_rfl) (fun _ _ _ h => h) (Or.inl ⟨by rfl, fun w' hSw => by clear hSw; go_simp⟩) (by assumption) ?_
          simp only [Act.put, List.setIfInBounds_toArray, List.set_cons_zero, List.set_cons_succ]
          refine wpAnyH_take (i := 9) (oi := { dst := some 45, op := Op.move (Operand.tmp 44), type := 4, pos := "law.go:156", after := #[{ on := 8, ground := Ground.data }, { on := 5, ground := Ground.chain }, { on := 5, ground := Ground.guard }], guard := some (5, false) }) (v := .bool true) rfl (by kernel_rfl) (by kernel_rfl) (by kernel_rfl) (fun _ _ _ h => h) (Or.inl ⟨by rfl, fun w' hSw => by clear hSw; go_simp⟩) (by assumption) ?_
          simp only [Act.put, List.setIfInBounds_toArray, List.set_cons_zero, List.set_cons_succ]
          refine wpAnyH_take (i := 10) (oi := { dst := some 46, op := Op.fieldAddr 37 (Operand.tmp 5) 2, type := 0, pos := "law.go:156", after := #[{ on := 9, ground := Ground.guard }], guard := some (9, true) }) (v := .pointer (some ⟨b5, 3, none⟩)) rfl (by kernel_rfl) (by kernel_rfl) (by kernel_rfl) (fun _ _ _ h => h) (Or.inl ⟨by rfl, fun w' hSw => by clear hSw; go_simp⟩) (by assumption) ?_
          simp only [Act.put, List.setIfInBounds_toArray, List.set_cons_zero, List.set_cons_succ]
          refine wpAnyH_take (i := 12) (oi := { dst := some 48, op := Op.move (Operand.tmp 3), type := 23, pos := "law.go:156", after := #[{ on := 9, ground := Ground.guard }], guard := some (9, true) }) (v := .pointer (some ⟨t, 0, none⟩)) rfl (by kernel_rfl) (by kernel_rfl) (by kernel_rfl) (fun _ _ _ h => h) (Or.inl ⟨by rfl, fun w' hSw => by clear hSw; go_simp⟩) (by assumption) ?_
          simp only [Act.put, List.setIfInBounds_toArray, List.set_cons_zero, List.set_cons_succ]
          refine wpAnyH_take (i := 11) (oi := { dst := some 47, op := Op.load 3 (Operand.tmp 46), type := 3, pos := "law.go:156", after := #[{ on := 10, ground := Ground.data }, { on := 9, ground := Ground.guard }], guard := some (9, true) }) (v := .int .i64 fi) rfl (by kernel_rfl) (by kernel_rfl) (by kernel_rfl) (fun _ _ _ h => h) (yieldsIf_load_cellO (by rfl) 3 _ rfl _ rfl (fun W hW => HC3.out W hW) (fun W hc => ld_int hc)) (by assumption) ?_
          simp only [Act.put, List.setIfInBounds_toArray, List.set_cons_zero, List.set_cons_succ]
          refine wpAnyH_ready (rs := [13]) (by kernel_rfl) (by simp) ?_
          refine AllReadyH.cons (o := { dst := some 49, op := Op.call { callee := Callee.value (Operand.func 26), args := #[Operand.tmp 48], argTypes := #[23] }, type := 3, pos := "law.go:156", after := #[{ on := 12, ground := Ground.data }, { on := 9, ground := Ground.chain }, { on := 9, ground := Ground.guard }], guard := some (9, true) }) rfl (fun K hK => ?_) (AllReadyH.nil)
          go_simp
          refine (HOD.out _ (Only.drew _ W4)).mono ?_
          rintro e x1 ⟨⟨x, rfl, hx⟩, hx1⟩
          have HX1 : Hid (Only (fun _ => False) W4 x1) := o2 (Only.drew _ W4) hx1
          have hxl : x ≤ fi := ol_le hx HF.out h0
          have n3 : ¬ fi < x := by omega
          clear hx hx1
          refine hK.out _ _ (HX1.out) (fun hHeld => ?_)
          clear hK K
          try simp only [Act.put, List.setIfInBounds_toArray, List.set_cons_zero, List.set_cons_succ]
          refine wpAnyH_take (i := 14) (oi := { dst := some 50, op := Op.binOp BinOp.lss 3 (Operand.tmp 47) (Operand.tmp 49) 3, type := 4, pos := "law.go:156", after := #[{ on := 11, ground := Ground.data }, { on := 13, ground := Ground.data }, { on := 9, ground := Ground.guard }], guard := some (9, true) }) (v := .bool false) rfl (by kernel_rfl) (by kernel_rfl) (by kernel_rfl) (fun _ _ _ h => h) (Or.inl ⟨by rfl, fun w' hSw => by clear hSw; go_simp⟩) (by assumption) ?_
          simp only [Act.put, List.setIfInBounds_toArray, List.set_cons_zero, List.set_cons_succ]
          refine wpAnyH_take (i := 15) (oi := { dst := some 51, op := Op.pick (Operand.tmp 45) (Operand.tmp 50) (Operand.const (Value.bool false)), type := 4, pos := "law.go:156", after := #[{ on := 9, ground := Ground.data }, { on := 14, ground := Ground.data }, { on := 5, ground := Ground.guard }], guard := some (5, false) }) (v := .bool false) rfl (by kernel_rfl) (by kernel_rfl) (by kernel_rfl) (fun _ _ _ h => h) (Or.inl ⟨by rfl, fun w' hSw => by clear hSw; go_simp⟩) (by assumption) ?_
          simp only [Act.put, List.setIfInBounds_toArray, List.set_cons_zero, List.set_cons_succ]
          refine wpAnyH_take (i := 16) (oi := { dst := some 52, op := Op.pick (Operand.tmp 41) (Operand.const (Value.bool true)) (Operand.tmp 51), type := 4, pos := "law.go:156", after := #[{ on := 5, ground := Ground.data }, { on := 15, ground := Ground.data }], guard := none }) (v := .bool false) rfl (by kernel_rfl) (by kernel_rfl) (by kernel_rfl) (fun _ _ _ h => h) (Or.inl ⟨by rfl, fun w' hSw => by clear hSw; go_simp⟩) (by assumption) ?_
          simp only [Act.put, List.setIfInBounds_toArray, List.set_cons_zero, List.set_cons_succ]
          refine wpAnyH_take (i := 17) (oi := { dst := some 53, op := Op.move (Operand.tmp 52), type := 4, pos := "law.go:156", after := #[{ on := 16, ground := Ground.data }, { on := 13, ground := Ground.chain }], guard := none }) (v := .bool false) rfl (by kernel_rfl) (by kernel_rfl) (by kernel_rfl) (fun _ _ _ h => h) (Or.inl ⟨by rfl, fun w' hSw => by clear hSw; go_simp⟩) (by assumption) ?_
          simp only [Act.put, List.setIfInBounds_toArray, List.set_cons_zero, List.set_cons_succ]
          refine wpAnyH_take (i := 18) (oi := { dst := some 54, op := Op.fieldAddr 37 (Operand.tmp 5) 2, type := 0, pos := "law.go:156", after := #[{ on := 17, ground := Ground.guard }], guard := some (17, false) }) (v := .pointer (some ⟨b5, 3, none⟩)) rfl (by kernel_rfl) (by kernel_rfl) (by kernel_rfl) (fun _ _ _ h => h) (Or.inl ⟨by rfl, fun w' hSw => by clear hSw; go_simp⟩) (by assumption) ?_
          simp only [Act.put, List.setIfInBounds_toArray, List.set_cons_zero, List.set_cons_succ]
          refine wpAnyH_take (i := 21) (oi := { dst := some 57, op := Op.fieldAddr 37 (Operand.tmp 5) 3, type := 0, pos := "law.go:156", after := #[{ on := 17, ground := Ground.guard }], guard := some (17, false) }) (v := .pointer (some ⟨b5, 4, none⟩)) rfl (by kernel_rfl) (by kernel_rfl) (by kernel_rfl) (fun _ _ _ h => h) (Or.inl ⟨by rfl, fun w' hSw => by clear hSw; go_simp⟩) (by assumption) ?_
          simp only [Act.put, List.setIfInBounds_toArray, List.set_cons_zero, List.set_cons_succ]
          refine wpAnyH_take (i := 19) (oi := { dst := some 55, op := Op.load 3 (Operand.tmp 54), type := 3, pos := "law.go:156", after := #[{ on := 18, ground := Ground.data }, { on := 17, ground := Ground.guard }], guard := some (17, false) }) (v := .int .i64 fi) rfl (by kernel_rfl) (by kernel_rfl) (by kernel_rfl) (fun _ _ _ h => h) (yieldsIf_load_cellO (by rfl) 3 _ rfl _ rfl (fun W hW => HC3.out W hW) (fun W hc => ld_int hc)) (by assumption) ?_
          simp only [Act.put, List.setIfInBounds_toArray, List.set_cons_zero, List.set_cons_succ]
          refine wpAnyH_take (i := 22) (oi := { dst := some 58, op := Op.load 3 (Operand.tmp 57), type := 3, pos := "law.go:156", after := #[{ on := 21, ground := Ground.data }, { on := 17, ground := Ground.guard }], guard := some (17, false) }) (v := .int .i64 la) rfl (by kernel_rfl) (by kernel_rfl) (by kernel_rfl) (fun _ _ _ h => h) (yieldsIf_load_cellO (by rfl) 3 _ rfl _ rfl (fun W hW => HC4.out W hW) (fun W hc => ld_int hc)) (by assumption) ?_
          simp only [Act.put, List.setIfInBounds_toArray, List.set_cons_zero, List.set_cons_succ]
          refine wpAnyH_take (i := 20) (oi := { dst := some 56, op := Op.binOp BinOp.eql 3 (Operand.tmp 55) (Operand.const (Value.int IntKind.i64 0)) 3, type := 4, pos := "law.go:156", after := #[{ on := 19, ground := Ground.data }, { on := 17, ground := Ground.guard }], guard := some (17, false) }) (v := .bool false) rfl (by kernel_rfl) (by kernel_rfl) (by kernel_rfl) (fun _ _ _ h => h) (Or.inl ⟨by rfl, fun w' hSw => by clear hSw; go_simp⟩) (by assumption) ?_
          simp only [Act.put, List.setIfInBounds_toArray, List.set_cons_zero, List.set_cons_succ]
          refine wpAnyH_take (i := 23) (oi := { dst := some 59, op := Op.binOp BinOp.eql 3 (Operand.tmp 58) (Operand.const (Value.int IntKind.i64 0)) 3, type := 4, pos := "law.go:156", after := #[{ on := 22, ground := Ground.data }, { on := 17, ground := Ground.guard }], guard := some (17, false) }) (v := .bool false) rfl (by kernel_rfl) (by kernel_rfl) (by kernel_rfl) (fun _ _ _ h => h) (Or.inl ⟨by rfl, fun w' hSw => by clear hSw; go_simp⟩) (by assumption) ?_
          simp only [Act.put, List.setIfInBounds_toArray, List.set_cons_zero, List.set_cons_succ]
          refine wpAnyH_take (i := 24) (oi := { dst := some 60, op := Op.binOp BinOp.neq 4 (Operand.tmp 56) (Operand.tmp 59) 4, type := 4, pos := "law.go:156", after := #[{ on := 20, ground := Ground.data }, { on := 23, ground := Ground.data }, { on := 17, ground := Ground.guard }], guard := some (17, false) }) (v := .bool false) rfl (by kernel_rfl) (by kernel_rfl) (by kernel_rfl) (fun _ _ _ h => h) (Or.inl ⟨by rfl, fun w' hSw => by clear hSw; go_simp⟩) (by assumption) ?_
          simp only [Act.put, List.setIfInBounds_toArray, List.set_cons_zero, List.set_cons_succ]
          refine wpAnyH_take (i := 25) (oi := { dst := some 61, op := Op.pick (Operand.tmp 53) (Operand.const (Value.bool true)) (Operand.tmp 60), type := 4, pos := "law.go:156", after := #[{ on := 17, ground := Ground.data }, { on := 24, ground := Ground.data }], guard := none }) (v := .bool false) rfl (by kernel_rfl) (by kernel_rfl) (by kernel_rfl) (fun _ _ _ h => h) (Or.inl ⟨by rfl, fun w' hSw => by clear hSw; go_simp⟩) (by assumption) ?_
          simp only [Act.put, List.setIfInBounds_toArray, List.set_cons_zero, List.set_cons_succ]
          refine wpAnyH_take (i := 26) (oi := { dst := some 62, op := Op.move (Operand.tmp 61), type := 4, pos := "law.go:156", after := #[{ on := 25, ground := Ground.data }, { on := 17, ground := Ground.chain }], guard := none }) (v := .bool false) rfl (by kernel_rfl) (by kernel_rfl) (by kernel_rfl) (fun _ _ _ h => h) (Or.inl ⟨by rfl, fun w' hSw => by clear hSw; go_simp⟩) (by assumption) ?_
          simp only [Act.put, List.setIfInBounds_toArray, List.set_cons_zero, List.set_cons_succ]
          refine wpAnyH_take (i := 27) (oi := { dst := some 63, op := Op.fieldAddr 37 (Operand.tmp 5) 4, type := 0, pos := "law.go:156", after := #[{ on := 26, ground := Ground.guard }], guard := some (26, false) }) (v := .pointer (some ⟨b5, 5, none⟩)) rfl (by kernel_rfl) (by kernel_rfl) (by kernel_rfl) (fun _ _ _ h => h) (Or.inl ⟨by rfl, fun w' hSw => by clear hSw; go_simp⟩) (by assumption) ?_
          simp only [Act.put, List.setIfInBounds_toArray, List.set_cons_zero, List.set_cons_succ]
          refine wpAnyH_take (i := 28) (oi := { dst := some 64, op := Op.load 3 (Operand.tmp 63), type := 3, pos := "law.go:156", after := #[{ on := 27, ground := Ground.data }, { on := 26, ground := Ground.guard }], guard := some (26, false) }) (v := .int .i64 un) rfl (by kernel_rfl) (by kernel_rfl) (by kernel_rfl) (fun _ _ _ h => h) (yieldsIf_load_cellO (by rfl) 3 _ rfl _ rfl (fun W hW => HC5.out W hW) (fun W hc => ld_int hc)) (by assumption) ?_
          simp only [Act.put, List.setIfInBounds_toArray, List.set_cons_zero, List.set_cons_succ]
          refine wpAnyH_take (i := 29) (oi := { dst := some 65, op := Op.binOp BinOp.lss 3 (Operand.tmp 64) (Operand.const (Value.int IntKind.i64 0)) 3, type := 4, pos := "law.go:156", after := #[{ on := 28, ground := Ground.data }, { on := 26, ground := Ground.guard }], guard := some (26, false) }) (v := .bool false) rfl (by kernel_rfl) (by kernel_rfl) (by kernel_rfl) (fun _ _ _ h => h) (Or.inl ⟨by rfl, fun w' hSw => by clear hSw; go_simp⟩) (by assumption) ?_
          simp only [Act.put, List.setIfInBounds_toArray, List.set_cons_zero, List.set_cons_succ]
          refine wpAnyH_take (i := 30) (oi := { dst := some 66, op := Op.pick (Operand.tmp 62) (Operand.const (Value.bool true)) (Operand.tmp 65), type := 4, pos := "law.go:156", after := #[{ on := 26, ground := Ground.data }, { on := 29, ground := Ground.data }], guard := none }) (v := .bool false) rfl (by kernel_rfl) (by kernel_rfl) (by kernel_rfl) (fun _ _ _ h => h) (Or.inl ⟨by rfl, fun w' hSw => by clear hSw; go_simp⟩) (by assumption) ?_
          simp only [Act.put, List.setIfInBounds_toArray, List.set_cons_zero, List.set_cons_succ]
          refine wpAnyH_done (by kernel_rfl) ?_ _
          refine NoPanic.normal ?_
          have HT5 := hide (HT4.out.more HX1.out)
          have HO5 := hide (o2 HO4.out HX1.out)
          have HR := hide (lw_run w x1 (fun _ => False) t (i + 1) f2 HT5.out (by omega))
          clear HT4 HO4 HOD HC3 HC4 HC5 HB n1 n2
          go_wp2_with fail
          refine HR.out.mono ?_
          rintro e w6 ⟨⟨aB, cB, M, rfl, hM, hBg, hMl⟩, ho6⟩
          have HM := hide hM
          have HG := hide hBg
          have HT6 := hide (HT5.out.more ho6)
          have HO6 := hide (o2 HO5.out ho6)
          clear hM hBg ho6 HR HT5 HO5
          go_wp2_with fail
          go_loopw [8] (fun y wr => ∃ (j : Nat), y = .int .i64 (((j + 1 : Nat)) : Int) ∧ j ≤ M.length ∧ Hid (Only (fun _ => False) w6 wr)) (fun y _ => M.length + 1 - (intOf y).toNat)
          case atStart => exact ⟨0, rfl, by omega, Only.refl _ _⟩
          case round =>
            obtain ⟨j, rfl, hj, HO7⟩ := hrel
            by_cases hjl : j + 1 < M.length
            · obtain ⟨p0, p1, hp0, hp1⟩ : ∃ p0 p1, M[j] = p0 ∧ M[j + 1] = p1 := ⟨_, _, rfl, rfl⟩
              have hlt2 : p0.1 < p1.1 := by
                rw [← hp0, ← hp1]
                exact List.pairwise_iff_getElem.1 HG.out.up j (j + 1) (by omega) hjl (by omega)
              have hMr := HM.out.more HO7.out
              obtain ⟨gM, rfl, hc⟩ : ∃ gM, aB = some ⟨gM, 0, none⟩ ∧ ∀ k (hk : k < M.length), wr.cell? ⟨gM, k, none⟩ = some (.int .i64 M[k].1) := by
                rcases GRow.head (E := EI) (L := M.map (·.1)) (ao := aB) (cp := cB) (by rw [List.length_map]; exact hMr) with ⟨_, e2, _⟩ | ⟨gM, e2, _, _, _, _, _, hc⟩
                · have hM0 : M = [] := by simpa using e2
                  have hMz : M.length = 0 := by rw [hM0]; rfl
                  omega
                · refine ⟨gM, e2, fun k hk => hc k _ ?_⟩
                  rw [fm_iv]
                  simp [hk, iv]
              have q0 := hc j (by omega)
              have q1 := hc (j + 1) hjl
              rw [hp0] at q0
              rw [hp1] at q1
              obtain ⟨x0, hx0⟩ : ∃ z, p0.1 = z := ⟨_, rfl⟩
              obtain ⟨x1, hx1⟩ : ∃ z, p1.1 = z := ⟨_, rfl⟩
              rw [hx0] at q0 hlt2
              rw [hx1] at q1 hlt2
              have n4 : ¬ x1 ≤ x0 := by omega
              have hj0 : (0 : Int) ≤ (j : Int) := by omega
              have hj1 : (j : Int) < (M.length : Int) := by omega
              have hj2 : (j : Int) + 1 < (M.length : Int) := by omega
              clear hp0 hp1 hMr hc hx0 hx1 hlt2
              go_wp2_with fail
              go_region
              go_wp2_with fail
              exact ⟨⟨j + 1, by go_num, by omega, o2 HO7.out (Only.drew _ _)⟩, by simp [intOf]; omega⟩
            · go_wp2_with fail
              exact ⟨⟨i + 1, f2, by omega, by go_num, HT6.out.more HO7.out, o2 HO6.out HO7.out⟩, by simp [intOf]; omega⟩
    · go_wp2_with fail
      refine (HAW.out _).mono ?_
      rintro e w9 ⟨rfl, ho9⟩
      have HO9 := hide (o2 HO.out ho9)
      clear ho9
      go_wp2_with fail
      go_ret
      exact ⟨rfl, HO9.out⟩
end Go.Proofs.Ytmcghpeamnmbpaa
