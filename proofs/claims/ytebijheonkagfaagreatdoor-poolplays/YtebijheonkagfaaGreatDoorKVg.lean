/- The document's pool: Fetch of a page that is read. -/
import Derived.Test.YtebijheonkagfaaGreatDoorKVe
namespace Go.Proofs.YtebijheonkagfaaGreatDoor
open Go.RowKit
set_option maxRecDepth 100000 in
set_option maxHeartbeats 3200000 in
theorem gpfetch_out (w : World) (p xd a b c ka kb kc x fb cf tb : Nat) (ta : Option Addr) (tc base : Nat) (v8 : Value) (P : Pl) (D : Dk) (G : Lg) (tl : List (Int × Int)) (N : Nat → Prop) (h : Xh w p xd a b c ka kb kc x fb cf tb ta tc base v8 P D G tl N) (n pick : Int) (hn : n < 0 ∨ (P.pages : Int) ≤ n) :
    Calls Tryz.prog 12 #[.pointer (some ⟨p, 0, none⟩), .int .i64 n, .int .i64 pick] w fun e w' => XfR w w' e p xd a b c ka kb kc x fb cf base v8 N ⟨4, P, D, G⟩ Pg.none := by
  have c3 := (h.more (onlyA w (.cells #[.int .i64 0, .int .i64 0, .int .i64 0, .int .i64 0, .string ⟨#[]⟩, .slice Option.none 0 0] 45))).pl.c3; have HX := hide (h.more (onlyA w (.cells #[.int .i64 0, .int .i64 0, .int .i64 0, .int .i64 0, .string ⟨#[]⟩, .slice Option.none 0 0] 45))); have HP := hide (Pag.new w (.int .i64 0) (.int .i64 0) (.int .i64 0) (.int .i64 0) (.string ⟨#[]⟩) (.slice Option.none 0 0)); have hnp := h.pl.np.2
  have HF : Hid (XfR w (w.alloc (.cells #[.int .i64 0, .int .i64 0, .int .i64 0, .int .i64 0, .string ⟨#[]⟩, .slice Option.none 0 0] 45)) (.returned (.tuple #[.agg #[.int .i64 0, .int .i64 0, .int .i64 0, .int .i64 0, .string ⟨#[]⟩, .slice Option.none 0 0], .int .i64 4])) p xd a b c ka kb kc x fb cf base v8 N ⟨4, P, D, G⟩ Pg.none) :=
    ⟨0, Option.none, 0, rfl, Strs.nil _ _ _, ⟨fun _ => rfl, by simp [Pg.none], by simp⟩, fun h => absurd h (by simp [Pg.none]), ⟨_, _, _, _, HX.out⟩, Only.alloc _ _ _⟩
  clear h
  rcases hn with h0 | h1
  · go_enter Tryz.func12, Tryz.ntmps12
    go_wp2_with fail
    refine bodyPost_ret (results_page rfl rfl HP.out) rfl ?_
    exact HF.out
  · have h0 : ¬ n < 0 := by omega
    go_enter Tryz.func12, Tryz.ntmps12
    go_wp2_with fail
    refine bodyPost_ret (results_page rfl rfl HP.out) rfl ?_
    exact HF.out
theorem only_eight (W : World) (fb o : Nat) (v0 v1 v2 v3 v4 v5 v6 v7 : Value) : Only (fun k => k = fb) W ((((((((W.setCell ⟨fb, o, none⟩ v0).setCell ⟨fb, o + 1, none⟩ v1).setCell ⟨fb, o + 2, none⟩ v2).setCell ⟨fb, o + 3, none⟩ v3).setCell ⟨fb, o + 4, none⟩ v4).setCell ⟨fb, o + 5, none⟩ v5).setCell ⟨fb, o + 6, none⟩ v6).setCell ⟨fb, o + 7, none⟩ v7) := by
  rw [← setCells8]
  exact only_cells8 fb _ o W
theorem Fx.page {w W : World} {p xd a b c ka kb kc x fb cf tb : Nat} {ta : Option Addr} {tc base : Nat} {v8 : Value} {P : Pl} {D : Dk} {G : Lg} {tl : List (Int × Int)} {N : Nat → Prop} (h : Fx w W p xd a b c ka kb kc x fb cf tb ta tc base v8 P D G tl N) (k : Int) (pg : Pg) (Bq cq : Nat) (aq : Option Addr) (h1 : Strs W Bq aq pg.items) (h2 : Fit aq pg.items.length cq) (h3 : 0 < pg.items.length → w.heap.size < Bq) : XfR w ((((((W.setCell ⟨w.heap.size, 0, none⟩ (.int .i64 pg.lsn)).setCell ⟨w.heap.size, 1, none⟩ (.int .i64 pg.kind)).setCell ⟨w.heap.size, 2, none⟩ (.int .i64 pg.level)).setCell ⟨w.heap.size, 3, none⟩ (.int .i64 pg.right)).setCell ⟨w.heap.size, 4, none⟩ (.string pg.high)).setCell ⟨w.heap.size, 5, none⟩ (.slice aq pg.items.length cq)) (.returned (.tuple #[.agg #[.int .i64 pg.lsn, .int .i64 pg.kind, .int .i64 pg.level, .int .i64 pg.right, .string pg.high, .slice aq pg.items.length cq], .int .i64 k])) p xd a b c ka kb kc x fb cf base v8 N ⟨k, P, D, G⟩ pg :=
  ⟨Bq, aq, cq, rfl, h1.kept (Only.six W w.heap.size _ _ _ _ _ _) (fun h0 e => by have := h3 h0; omega), h2, h3, ⟨_, _, _, _, (h.fin _ _ _ _ _ _).1⟩, (h.fin _ _ _ _ _ _).2⟩
set_option maxRecDepth 100000 in
set_option maxHeartbeats 3200000 in
theorem gpfetch_held (w : World) (p xd a b c ka kb kc x fb cf tb : Nat) (ta : Option Addr) (tc base : Nat) (v8 : Value) (P : Pl) (D : Dk) (G : Lg) (tl : List (Int × Int)) (N : Nat → Prop) (h : Xh w p xd a b c ka kb kc x fb cf tb ta tc base v8 P D G tl N) (n pick : Int) (h0 : 0 ≤ n) (h1 : n < (P.pages : Int)) (i : Nat) (hi : P.idx n = some i) :
    Calls Tryz.prog 12 #[.pointer (some ⟨p, 0, none⟩), .int .i64 n, .int .i64 pick] w fun e w' => XfR w w' e p xd a b c ka kb kc x fb cf base v8 N ⟨0, P, D, G⟩ (P.get i).pg := by
  have HFX := hide (Fx.start h); obtain ⟨W1, hW1⟩ : ∃ W1, w.alloc (.cells #[.int .i64 0, .int .i64 0, .int .i64 0, .int .i64 0, .string ⟨#[]⟩, .slice Option.none 0 0] 45) = W1 := ⟨_, rfl⟩
  have hsz : W1.heap.size = w.heap.size + 1 := by rw [← hW1]; simp
  rw [hW1] at HFX; have HSZ := hide hsz; have HW1 := hide hW1; have HAT := hide (gpat_any W1 p xd x fb cf tb ta tc P tl _ HFX.out.xh.pl n); rw [hi] at HAT; unfold idxI at HAT
  simp only at HAT
  obtain ⟨i1, i2⟩ := idx_lt hi; have hfr : XfAt W1 fb (i * 8) (P.get i) _ := HFX.out.xh.pl.frame i i1 (P.get i) (get_at i1); obtain ⟨F, hF⟩ : ∃ F, P.get i = F := ⟨_, rfl⟩; rw [hF] at hfr ⊢; obtain ⟨B0, a0, q0, hc0, hS0, hF0, _⟩ := hfr.ex; have d1 := hc0 1 _ rfl; have d2 := hc0 2 _ rfl; have d3 := hc0 3 _ rfl; have d4 := hc0 4 _ rfl; have d5 := hc0 5 _ rfl; have d6 := hc0 6 _ rfl; have HCO := hide (gpcopied_any W1 F.pg B0 q0 a0 hS0 hF0); have c3 := (h.more (onlyA w (.cells #[.int .i64 0, .int .i64 0, .int .i64 0, .int .i64 0, .string ⟨#[]⟩, .slice Option.none 0 0] 45))).pl.c3; have c4 := HFX.out.xh.pl.c4; have hnp := h.pl.np.2; have hnf := h.pl.nf.2
  have hil : (i : Int) < (P.fs.length : Int) := by omega
  clear h hi i2 hF hfr hc0 hS0 hF0 hW1 hsz
  go_enter Tryz.func12, Tryz.ntmps12
  go_wp2_with fail
  rw [HW1.out]; clear c3; refine HAT.out.mono ?_; rintro e w1 ⟨rfl, hw⟩; obtain rfl := hw.symm; clear hw
  go_wp2_with fail
  refine HCO.out.mono ?_; rintro e w2 ⟨B5, a5, q5, rfl, hS5, hF5, ho5, hB5⟩; have HF2 := hide (HFX.out.more ho5); have HA := hide (And.intro hS5 (And.intro hF5 (fun h0 : 0 < F.pg.items.length => (by have := hB5 h0; have := HSZ.out; omega : w.heap.size < B5)))); obtain ⟨p0, p1, p2, p3, p4, p5, g0, g1, g2, g3, g4, g5, gl⟩ := HF2.out.res; clear hS5 hF5 ho5 hB5 d1 d2 d3 d4 d5 d6 c4
  go_wp2_with fail
  refine bodyPost_ret (results_page rfl rfl (Pag.six HF2.out.res _ _ _ _ _ _)) rfl ?_
  exact HF2.out.page 0 F.pg B5 q5 a5 HA.out.1 HA.out.2.1 HA.out.2.2
set_option maxRecDepth 100000 in
set_option maxHeartbeats 6400000 in
theorem gpfetch_read (w : World) (p xd a b c ka kb kc x fb cf tb : Nat) (ta : Option Addr) (tc base : Nat) (v8 : Value) (P : Pl) (D : Dk) (G : Lg) (tl : List (Int × Int)) (N : Nat → Prop) (h : Xh w p xd a b c ka kb kc x fb cf tb ta tc base v8 P D G tl N) (hu : P.Ux) (hok : P.Ok) (n pick : Int) (h0 : 0 ≤ n) (h1 : n < (P.pages : Int)) (hi : P.idx n = Option.none) (R : Wo × Pg)
    (hR : R = if (D.page (P.frm + 8 * n.toNat)).2 ≠ 0 then (⟨(D.page (P.frm + 8 * n.toNat)).2, P, D, G⟩, .none) else match (P.take D G pick).2 with | some i => (⟨0, (P.take D G pick).1.P.setF i ⟨(D.page (P.frm + 8 * n.toNat)).1, n, false⟩, (P.take D G pick).1.D, (P.take D G pick).1.G⟩, (D.page (P.frm + 8 * n.toNat)).1) | Option.none => ((P.take D G pick).1, .none)) :
    Calls Tryz.prog 12 #[.pointer (some ⟨p, 0, none⟩), .int .i64 n, .int .i64 pick] w fun e w' => XfR w w' e p xd a b c ka kb kc x fb cf base v8 N R.1 R.2 := by
  have HFX := hide (Fx.start h); obtain ⟨W1, hW1⟩ : ∃ W1, w.alloc (.cells #[.int .i64 0, .int .i64 0, .int .i64 0, .int .i64 0, .string ⟨#[]⟩, .slice Option.none 0 0] 45) = W1 := ⟨_, rfl⟩
  have hsz : W1.heap.size = w.heap.size + 1 := by rw [← hW1]; simp
  rw [hW1] at HFX; have HSZ := hide hsz; have HW1 := hide hW1; have HAT := hide (gpat_any W1 p xd x fb cf tb ta tc P tl _ HFX.out.xh.pl n); rw [hi] at HAT; unfold idxI at HAT
  simp only at HAT
  have HU := hide hu; have HOK := hide hok; have c3 := (h.more (onlyA w (.cells #[.int .i64 0, .int .i64 0, .int .i64 0, .int .i64 0, .string ⟨#[]⟩, .slice Option.none 0 0] 45))).pl.c3; have hnp := h.pl.np.2
  have hfrm : (P.frm : Int) ≤ 65536 := by have := h.pl.nm; omega
  have kk1 : IntKind.i64.wrap (8 * n) = 8 * n := by rw [IntKind.wrap_i64]; omega
  have kk2 : IntKind.i64.wrap ((P.frm : Int) + 8 * n) = (P.frm : Int) + 8 * n := by rw [IntKind.wrap_i64]; omega
  have HSEC : Hid ((P.frm : Int) + 8 * n = ((P.frm + 8 * n.toNat : Nat) : Int)) := by unfold Hid; omega
  have HN1 : Hid (0 ≤ n ∧ n < (P.pages : Int)) := ⟨h0, h1⟩; obtain ⟨A, hA⟩ : ∃ A, P.frm + 8 * n.toNat = A := ⟨_, rfl⟩; rw [hA] at hR HSEC; have HPB := hide (page_bd D A)
  have HRD : Hid (∀ W, Only (fun _ => False) W1 W → Calls Tryz.prog 29 #[.pointer (some ⟨xd, 0, none⟩), .int .i64 ((P.frm : Int) + 8 * n), .int .i64 8] W fun e w' => e = .returned (.tuple #[.string (str (D.read (A : Int) 8).1), .int .i64 (D.read (A : Int) 8).2]) ∧ Only (fun _ => False) W w') := fun W hW => by
    rw [HSEC.out]
    exact xread_any W xd a b c ka kb kc D (HFX.out.xh.more hW).ww.dk (A : Int) 8 ⟨by omega, by have := HSEC.out; omega⟩
  have HPG : Hid (D.page A = if (D.read (A : Int) 8).2 ≠ 0 then (.none, (D.read (A : Int) 8).2) else if (dec (D.read (A : Int) 8).1).2 ≠ 0 then (.none, 60) else ((dec (D.read (A : Int) 8).1).1, 0)) := rfl; obtain ⟨V, hV⟩ : ∃ V, D.read (A : Int) 8 = V := ⟨_, rfl⟩; rw [hV] at HRD HPG; obtain ⟨K, hK⟩ : ∃ K, dec V.1 = K := ⟨_, rfl⟩; rw [hK] at HPG
  have HDE : Hid (∀ W, Calls Tryz.prog 57 #[.string (str V.1)] W fun e w' => Res W w' e K.1 K.2) := fun W => by
    rw [← hK]
    exact ydecode_any W (str V.1)
  obtain ⟨SS, hSS⟩ : ∃ S, str V.1 = S := ⟨_, rfl⟩; rw [hSS] at HRD HDE; obtain ⟨Y, hY⟩ : ∃ Y, P.take D G pick = Y := ⟨_, rfl⟩; have HTS := hide (fun i => take_some (P := P) (D := D) (G := G) (pick := pick) (i := i) h.pl.nf.1); have HTN := hide (take_none (P := P) (D := D) (G := G) (pick := pick)); rw [hY] at HTS HTN hR; have HY := hide hY; have HR := hide hR
  have L0 : Hid (∀ W, Only (fun _ => False) W1 W → W.cell? ⟨p, 0, none⟩ = some (.pointer (some ⟨xd, 0, none⟩))) := fun W hW => (HFX.out.xh.more hW).pl.c0
  have L2 : Hid (∀ W, Only (fun _ => False) W1 W → W.cell? ⟨p, 2, none⟩ = some (.int .i64 (P.frm : Int))) := fun W hW => (HFX.out.xh.more hW).pl.c2
  have HIN := hide hi; clear h hi hW1 hsz hu hok hA hV hK hSS hY hR
  go_enter Tryz.func12, Tryz.ntmps12
  go_wp2_with fail
  rw [HW1.out]; clear c3; refine HAT.out.mono ?_; rintro e w1 ⟨rfl, hw⟩; obtain rfl := hw.symm; clear hw
  go_upto_region 6 with fail
  refine wp_region_noPanic ?_; refine wp_region_held_drew (S := fun W => Only (fun _ => False) W1 W) (by kernel_rfl) (Only.drew _ _) (fun hHeld => ?_); refine tkQ (i := 0) (oi := { dst := some 38, op := Op.move (Operand.tmp 0), type := 39, pos := "ref.go:105", after := #[], guard := none }) (v := .pointer (some ⟨p, 0, none⟩)) rfl (by kernel_rfl) (Or.inl ⟨by rfl, fun w' hSw => by clear hSw; go_simp⟩) (by assumption) ?_; simp only [Act.put, lsA, lsB, lsC]; refine tkQ (i := 4) (oi := { dst := some 42, op := Op.move (Operand.tmp 0), type := 39, pos := "ref.go:105", after := #[], guard := none }) (v := .pointer (some ⟨p, 0, none⟩)) rfl (by kernel_rfl) (Or.inl ⟨by rfl, fun w' hSw => by clear hSw; go_simp⟩) (by assumption) ?_; simp only [Act.put, lsA, lsB, lsC]; refine tkQ (i := 8) (oi := { dst := some 46, op := Op.move (Operand.tmp 1), type := 3, pos := "ref.go:105", after := #[], guard := none }) (v := .int .i64 n) rfl (by kernel_rfl) (Or.inl ⟨by rfl, fun w' hSw => by clear hSw; go_simp⟩) (by assumption) ?_; simp only [Act.put, lsA, lsB, lsC]; refine tkQ (i := 1) (oi := { dst := some 39, op := Op.nilCheck (Operand.tmp 38), type := 0, pos := "ref.go:105", after := #[{ on := 0, ground := Ground.data }], guard := none }) (v := .pointer (some ⟨p, 0, none⟩)) rfl (by kernel_rfl) (Or.inl ⟨by rfl, fun w' hSw => by clear hSw; go_simp⟩) (by assumption) ?_; simp only [Act.put, lsA, lsB, lsC]; refine tkQ (i := 5) (oi := { dst := some 43, op := Op.nilCheck (Operand.tmp 42), type := 0, pos := "ref.go:105", after := #[{ on := 4, ground := Ground.data }], guard := none }) (v := .pointer (some ⟨p, 0, none⟩)) rfl (by kernel_rfl) (Or.inl ⟨by rfl, fun w' hSw => by clear hSw; go_simp⟩) (by assumption) ?_
  simp only [Act.put, lsA, lsB, lsC]; refine tkQ (i := 9) (oi := { dst := some 47, op := Op.binOp BinOp.mul 3 (Operand.const (Value.int IntKind.i64 8)) (Operand.tmp 46) 3, type := 3, pos := "ref.go:105", after := #[{ on := 8, ground := Ground.data }], guard := none }) (v := .int .i64 (8 * n)) rfl (by kernel_rfl) (Or.inl ⟨by rfl, fun w' hSw => by clear hSw; go_simp⟩) (by assumption) ?_; simp only [Act.put, lsA, lsB, lsC]; refine tkQ (i := 2) (oi := { dst := some 40, op := Op.fieldAddr 99 (Operand.tmp 39) 0, type := 0, pos := "ref.go:105", after := #[{ on := 1, ground := Ground.data }], guard := none }) (v := .pointer (some ⟨p, 0, none⟩)) rfl (by kernel_rfl) (Or.inl ⟨by rfl, fun w' hSw => by clear hSw; go_simp⟩) (by assumption) ?_; simp only [Act.put, lsA, lsB, lsC]; refine tkQ (i := 6) (oi := { dst := some 44, op := Op.fieldAddr 99 (Operand.tmp 43) 2, type := 0, pos := "ref.go:105", after := #[{ on := 5, ground := Ground.data }], guard := none }) (v := .pointer (some ⟨p, 2, none⟩)) rfl (by kernel_rfl) (Or.inl ⟨by rfl, fun w' hSw => by clear hSw; go_simp⟩) (by assumption) ?_; simp only [Act.put, lsA, lsB, lsC]; refine tkQ (i := 3) (oi := { dst := some 41, op := Op.load 27 (Operand.tmp 40), type := 27, pos := "ref.go:105", after := #[{ on := 2, ground := Ground.data }], guard := none }) (v := .pointer (some ⟨xd, 0, none⟩)) rfl (by kernel_rfl) (yieldsIf_load_cell (by rfl) 27 _ rfl _ rfl (fun W hW => L0.out W hW) (fun W hc => ld_pXD hc)) (by assumption) ?_; simp only [Act.put, lsA, lsB, lsC]
  refine tkQ (i := 7) (oi := { dst := some 45, op := Op.load 3 (Operand.tmp 44), type := 3, pos := "ref.go:105", after := #[{ on := 6, ground := Ground.data }], guard := none }) (v := .int .i64 (P.frm : Int)) rfl (by kernel_rfl) (yieldsIf_load_cell (by rfl) 3 _ rfl _ rfl (fun W hW => L2.out W hW) (fun W hc => ld_int hc)) (by assumption) ?_; simp only [Act.put, lsA, lsB, lsC]; refine tkQ (i := 10) (oi := { dst := some 48, op := Op.binOp BinOp.add 3 (Operand.tmp 45) (Operand.tmp 47) 3, type := 3, pos := "ref.go:105", after := #[{ on := 7, ground := Ground.data }, { on := 9, ground := Ground.data }], guard := none }) (v := .int .i64 ((P.frm : Int) + 8 * n)) rfl (by kernel_rfl) (Or.inl ⟨by rfl, fun w' hSw => by clear hSw; go_simp⟩) (by assumption) ?_; simp only [Act.put, lsA, lsB, lsC]; refine wpAnyH_ready (rs := [11]) (by kernel_rfl) (by simp) ?_; refine AllReadyH.cons (o := { dst := some 49, op := Op.call { callee := Callee.value (Operand.func 29), args := #[Operand.tmp 41, Operand.tmp 48, Operand.const (Value.int IntKind.i64 8)], argTypes := #[27, 3, 3] }, type := 67, pos := "ref.go:105", after := #[{ on := 3, ground := Ground.data }, { on := 10, ground := Ground.data }], guard := none }) rfl (fun K hK => ?_) (AllReadyH.nil)
  go_simp
  refine (HRD.out _ (Only.drew _ _)).mono ?_; rintro e y1 ⟨rfl, hy1⟩; have HY1 := hide (o2 (Only.drew _ _) hy1); clear hy1; refine hK.out _ _ (HY1.out) (fun hHeld => ?_); clear hK K
  try simp only [Act.put, lsA, lsB, lsC]
  refine tkQ (i := 12) (oi := { dst := some 37, op := Op.move (Operand.tmp 49), type := 67, pos := "ref.go:105", after := #[{ on := 11, ground := Ground.data }], guard := none }) (v := .tuple #[.string SS, .int .i64 V.2]) rfl (by kernel_rfl) (Or.inl ⟨by rfl, fun w' hSw => by clear hSw; go_simp⟩) (by assumption) ?_; simp only [Act.put, lsA, lsB, lsC]; refine tkQ (i := 13) (oi := { dst := some 50, op := Op.extract (Operand.tmp 37) 0, type := 9, pos := "ref.go:105", after := #[{ on := 12, ground := Ground.data }], guard := none }) (v := .string SS) rfl (by kernel_rfl) (Or.inl ⟨by rfl, fun w' hSw => by clear hSw; go_simp⟩) (by assumption) ?_; simp only [Act.put, lsA, lsB, lsC]; refine tkQ (i := 14) (oi := { dst := some 51, op := Op.extract (Operand.tmp 37) 1, type := 24, pos := "ref.go:105", after := #[{ on := 12, ground := Ground.data }, { on := 15, ground := Ground.gcOnly Departure.lateStores }], guard := none }) (v := .int .i64 V.2) rfl (by kernel_rfl) (Or.inl ⟨by rfl, fun w' hSw => by clear hSw; go_simp⟩) (by assumption) ?_; simp only [Act.put, lsA, lsB, lsC]; refine tkQ (i := 15) (oi := { dst := some 9, op := Op.assign (Operand.tmp 50), type := 9, pos := "ref.go:105", after := #[{ on := 13, ground := Ground.data }, { on := 11, ground := Ground.chain }, { on := 0, ground := Ground.phase }, { on := 1, ground := Ground.phase }, { on := 2, ground := Ground.phase }, { on := 3, ground := Ground.phase }, { on := 4, ground := Ground.phase }, { on := 5, ground := Ground.phase }, { on := 6, ground := Ground.phase }, { on := 7, ground := Ground.phase }, { on := 8, ground := Ground.phase }, { on := 9, ground := Ground.phase }, { on := 10, ground := Ground.phase }, { on := 11, ground := Ground.phase }, { on := 12, ground := Ground.phase }, { on := 13, ground := Ground.phase }, { on := 14, ground := Ground.textOnly Departure.lateStores }], guard := none }) (v := .string SS) rfl (by kernel_rfl) (Or.inl ⟨by rfl, fun w' hSw => by clear hSw; go_simp⟩) (by assumption) ?_
  simp only [Act.put, lsA, lsB, lsC]; refine tkQ (i := 16) (oi := { dst := some 10, op := Op.assign (Operand.tmp 51), type := 24, pos := "ref.go:105", after := #[{ on := 14, ground := Ground.data }, { on := 15, ground := Ground.chain }, { on := 0, ground := Ground.phase }, { on := 1, ground := Ground.phase }, { on := 2, ground := Ground.phase }, { on := 3, ground := Ground.phase }, { on := 4, ground := Ground.phase }, { on := 5, ground := Ground.phase }, { on := 6, ground := Ground.phase }, { on := 7, ground := Ground.phase }, { on := 8, ground := Ground.phase }, { on := 9, ground := Ground.phase }, { on := 10, ground := Ground.phase }, { on := 11, ground := Ground.phase }, { on := 12, ground := Ground.phase }, { on := 13, ground := Ground.phase }, { on := 14, ground := Ground.phase }, { on := 15, ground := Ground.phase }], guard := none }) (v := .int .i64 V.2) rfl (by kernel_rfl) (Or.inl ⟨by rfl, fun w' hSw => by clear hSw; go_simp⟩) (by assumption) ?_; simp only [Act.put, lsA, lsB, lsC]; refine wpAnyH_done (by kernel_rfl) ?_ _; refine NoPanic.normal ?_; rw [Exit.then]; have H1 := hide (HFX.out.more HY1.out)
  have HS1 : Hid (w.heap.size < y1.heap.size) := by have e1 := HSZ.out; have e2 := HY1.out.size; unfold Hid; omega
  clear hHeld L0 L2
  by_cases hv : V.2 = 0
  · have hv' : (V.2 != 0) = false := by simp [hv]
    rw [if_neg (fun e => e hv)] at HPG; clear hv
    go_wp2_with fail
    refine (HDE.out _).mono ?_; rintro e y2 ⟨B5, a5, q5, rfl, hS5, hF5, ho5, hB5⟩; have H2 := hide (H1.out.more ho5); have HA := hide (And.intro hS5 (And.intro hF5 (fun h0 : 0 < K.1.items.length => (by have := hB5 h0; have := HS1.out; omega : w.heap.size < B5))))
    have HS2 : Hid (w.heap.size < y2.heap.size) := by have e1 := HS1.out; have e2 := ho5.size; unfold Hid; omega
    clear hS5 hF5 ho5 hB5
    by_cases hk : K.2 = 0
    · have hk' : (K.2 != 0) = false := by simp [hk]
      rw [if_neg (fun e => e hk)] at HPG; clear hk; have HVP := hide (Pag.new y2 (.int .i64 K.1.lsn) (.int .i64 K.1.kind) (.int .i64 K.1.level) (.int .i64 K.1.right) (.string K.1.high) (.slice a5 K.1.items.length q5)); have H3 := hide (H2.out.more (onlyA y2 (.cells #[.int .i64 K.1.lsn, .int .i64 K.1.kind, .int .i64 K.1.level, .int .i64 K.1.right, .string K.1.high, .slice a5 K.1.items.length q5] 45))); have HFR := hide (H2.out.xh.fresh y2.heap.size (Nat.le_refl _)); have HST := hide (HA.out.1.more (onlyA y2 (.cells #[.int .i64 K.1.lsn, .int .i64 K.1.kind, .int .i64 K.1.level, .int .i64 K.1.right, .string K.1.high, .slice a5 K.1.items.length q5] 45)))
      go_wp2_with fail
      have HTK := hide (gptake_any _ p xd a b c ka kb kc x fb cf tb ta tc base v8 P D G tl _ H3.out.xh HU.out HOK.out pick); rw [HY.out] at HTK; refine HTK.out.mono ?_; rintro e y4 ⟨rfl, ⟨tb4, ta4, tc4, tl4, hx4⟩, ho4⟩; have H4 := hide (H3.out.step ho4 hx4); obtain ⟨v11, hv11⟩ : ∃ k, y2.heap.size = k := ⟨_, rfl⟩; rw [hv11] at HVP HFR ⊢
      have nv : ¬ (xown xd a b c v11 ∨ v11 = x ∨ v11 = p ∨ v11 = fb) := fun e => by rcases e with e | e | e | e; exact HFR.out.2.2.1 e; exact HFR.out.2.2.2.1 e; exact HFR.out.1 e; exact HFR.out.2.1 e
      have HV4 := hide (HVP.out.kept ho4 nv)
      have HB5 : Hid (0 < K.1.items.length → ¬ (xown xd a b c B5 ∨ B5 = x ∨ B5 = p ∨ B5 = fb)) := fun h0 e => by
        have q1 := HA.out.2.2 h0; have q2 := H1.out.new B5 (by omega)
        rcases e with e | e | e | e
        · exact (H1.out.n7 B5 q2).1 e
        · exact (H1.out.n7 B5 q2).2 e
        · exact H1.out.n1 (e ▸ q2)
        · exact H1.out.n2 (e ▸ q2)
      have HS4 := hide (HST.out.kept ho4 (fun h0 => HB5.out h0)); clear hx4 ho4 hv11 nv HTK HST HVP H3 H2
      by_cases hy : Y.1.c = 0
      · have hy' : (Y.1.c != 0) = false := by simp [hy]
        obtain ⟨i, hYi⟩ : ∃ i, Y.2 = some i := by
          cases e : Y.2 with
          | some i => exact ⟨i, rfl⟩
          | none => exact absurd hy (HTN.out e)
        have hty := HTS.out i hYi; have hHR := HR.out; rw [HPG.out, if_neg (fun e => e rfl), hYi] at hHR
        simp only at hHR
        have HRR := hide hHR; rw [hYi]; unfold tkI
        simp only
        have hil : (i : Int) < (Y.1.P.fs.length : Int) := by have := hty.2.1; omega
        have HIL := hide hty.2.1; have HYP := hide hty.2.2; have hYn := H4.out.xh.pl.nf.2; obtain ⟨u0, u1, u2, u3, u4, u5, u6, u7, ⟨e0, e1, e2, e3, e4, e5, e6, e7⟩, ⟨g0, g1, g2, g3, g4, g5, g6, g7⟩⟩ := H4.out.xh.pl.slots i hty.2.1
        have L4 : Hid (∀ W, Only (fun k => k = fb) y4 W → W.cell? ⟨p, 4, none⟩ = some (.slice (some ⟨fb, 0, none⟩) Y.1.P.fs.length cf)) := fun W hW => (hW.cell (p := ⟨p, 4, none⟩) H4.out.xh.pl.lt H4.out.xh.pl.n1).trans H4.out.xh.pl.c4
        have LV : Hid (∀ W, Only (fun k => k = fb) y4 W → Pag W v11 (.int .i64 K.1.lsn) (.int .i64 K.1.kind) (.int .i64 K.1.level) (.int .i64 K.1.right) (.string K.1.high) (.slice a5 K.1.items.length q5)) := fun W hW => HV4.out.kept hW HFR.out.2.1
        clear hy hYi hty hHR
        go_upto_region 15 with fail
        refine wp_region_noPanic ?_; refine wp_region_held_drew (S := fun W => Only (fun k => k = fb) y4 W) (by kernel_rfl) (Only.drew _ _) (fun hHeld => ?_); refine tkQ (i := 0) (oi := { dst := some 74, op := Op.move (Operand.tmp 0), type := 39, pos := "ref.go:117", after := #[], guard := none }) (v := .pointer (some ⟨p, 0, none⟩)) rfl (by kernel_rfl) (Or.inl ⟨by rfl, fun w' hSw => by clear hSw; go_simp⟩) (by assumption) ?_; simp only [Act.put, lsA, lsB, lsC]; refine tkQ (i := 4) (oi := { dst := some 78, op := Op.move (Operand.tmp 8), type := 3, pos := "ref.go:117", after := #[], guard := none }) (v := .int .i64 (i : Int)) rfl (by kernel_rfl) (Or.inl ⟨by rfl, fun w' hSw => by clear hSw; go_simp⟩) (by assumption) ?_; simp only [Act.put, lsA, lsB, lsC]; refine tkQ (i := 5) (oi := { dst := some 79, op := Op.move (Operand.tmp 1), type := 3, pos := "ref.go:117", after := #[], guard := none }) (v := .int .i64 n) rfl (by kernel_rfl) (Or.inl ⟨by rfl, fun w' hSw => by clear hSw; go_simp⟩) (by assumption) ?_; simp only [Act.put, lsA, lsB, lsC]; refine tkQ (i := 6) (oi := { dst := some 80, op := Op.load 45 (Operand.tmp 11), type := 45, pos := "ref.go:117", after := #[], guard := none }) (v := .agg #[.int .i64 K.1.lsn, .int .i64 K.1.kind, .int .i64 K.1.level, .int .i64 K.1.right, .string K.1.high, .slice a5 K.1.items.length q5]) rfl (by kernel_rfl) (yieldsIf_load_page (by rfl) _ rfl _ rfl (fun W hW => LV.out W hW)) (by assumption) ?_; simp only [Act.put, lsA, lsB, lsC]; refine tkQ (i := 1) (oi := { dst := some 75, op := Op.nilCheck (Operand.tmp 74), type := 0, pos := "ref.go:117", after := #[{ on := 0, ground := Ground.data }], guard := none }) (v := .pointer (some ⟨p, 0, none⟩)) rfl (by kernel_rfl) (Or.inl ⟨by rfl, fun w' hSw => by clear hSw; go_simp⟩) (by assumption) ?_
        simp only [Act.put, lsA, lsB, lsC]; refine tkQ (i := 7) (oi := { dst := some 81, op := Op.build 101 #[(0, Operand.tmp 79), (1, Operand.tmp 80)], type := 101, pos := "ref.go:117", after := #[{ on := 5, ground := Ground.data }, { on := 6, ground := Ground.data }], guard := none }) (v := .agg #[.int .i64 n, .int .i64 K.1.lsn, .int .i64 K.1.kind, .int .i64 K.1.level, .int .i64 K.1.right, .string K.1.high, .slice a5 K.1.items.length q5, .bool false]) rfl (by kernel_rfl) (Or.inl ⟨by rfl, fun w' hSw => by clear hSw; go_simp⟩) (by assumption) ?_; simp only [Act.put, lsA, lsB, lsC]; refine tkQ (i := 2) (oi := { dst := some 76, op := Op.fieldAddr 99 (Operand.tmp 75) 4, type := 0, pos := "ref.go:117", after := #[{ on := 1, ground := Ground.data }], guard := none }) (v := .pointer (some ⟨p, 4, none⟩)) rfl (by kernel_rfl) (Or.inl ⟨by rfl, fun w' hSw => by clear hSw; go_simp⟩) (by assumption) ?_; simp only [Act.put, lsA, lsB, lsC]; refine tkQ (i := 3) (oi := { dst := some 77, op := Op.load 97 (Operand.tmp 76), type := 97, pos := "ref.go:117", after := #[{ on := 2, ground := Ground.data }], guard := none }) (v := .slice (some ⟨fb, 0, none⟩) Y.1.P.fs.length cf) rfl (by kernel_rfl) (yieldsIf_load_cell (by rfl) 97 _ rfl _ rfl (fun W hW => L4.out W hW) (fun W hc => ld_xframes hc)) (by assumption) ?_; simp only [Act.put, lsA, lsB, lsC]; refine tkQ (i := 8) (oi := { dst := some 82, op := Op.indexAddr 97 (Operand.tmp 77) (Operand.tmp 78), type := 0, pos := "ref.go:117", after := #[{ on := 3, ground := Ground.data }, { on := 4, ground := Ground.data }, { on := 0, ground := Ground.phase }, { on := 1, ground := Ground.phase }, { on := 2, ground := Ground.phase }, { on := 3, ground := Ground.phase }, { on := 4, ground := Ground.phase }, { on := 5, ground := Ground.phase }, { on := 6, ground := Ground.phase }, { on := 7, ground := Ground.phase }], guard := none }) (v := .pointer (some ⟨fb, i * 8, none⟩)) rfl (by kernel_rfl) (Or.inl ⟨by rfl, fun w' hSw => by clear hSw; go_simp⟩) (by assumption) ?_
        simp only [Act.put, lsA, lsB, lsC]; refine wpAnyH_ready (rs := [9]) (by kernel_rfl) (by simp) ?_; refine AllReadyH.cons (o := { dst := none, op := Op.store 101 (Operand.tmp 82) (Operand.tmp 81), type := 0, pos := "ref.go:117", after := #[{ on := 8, ground := Ground.data }, { on := 7, ground := Ground.data }, { on := 0, ground := Ground.phase }, { on := 1, ground := Ground.phase }, { on := 2, ground := Ground.phase }, { on := 3, ground := Ground.phase }, { on := 4, ground := Ground.phase }, { on := 5, ground := Ground.phase }, { on := 6, ground := Ground.phase }, { on := 7, ground := Ground.phase }], guard := none }) rfl (fun K hK => ?_) (AllReadyH.nil)
        go_simp
        refine hK.out _ _ ((only_eight _ _ _ _ _ _ _ _ _ _ _).trans (Only.drew (fun _ => False) _) (fun _ _ e => e.elim)) (fun hHeld => ?_); clear hK K
        try simp only [Act.put, lsA, lsB, lsC]
        refine wpAnyH_done (by kernel_rfl) ?_ _; refine NoPanic.normal ?_; rw [Exit.then]; obtain ⟨z1, z2⟩ := H4.out.xh.pl.lay i HIL.out ⟨K.1, n, false⟩ B5 a5 q5 HS4.out HA.out.2.1 (fun h0 => ⟨H1.out.new B5 (by have := HA.out.2.2 h0; omega), by have := HA.out.2.2 h0; omega⟩) (by have := HPB.out.1; rwa [HPG.out] at this) (by have := HPB.out.2; rwa [HPG.out] at this) (.inr (by rw [HYP.out]; exact HN1.out)); rw [show Fm.xl ⟨K.1, n, false⟩ a5 q5 = [.int .i64 n, .int .i64 K.1.lsn, .int .i64 K.1.kind, .int .i64 K.1.level, .int .i64 K.1.right, .string K.1.high, .slice a5 K.1.items.length q5, .bool false] from rfl, setCells8] at z1 z2; have H5 := hide ((H4.out.step (z2.mono (fun _ _ e => .inr (.inr (.inr e)))) (H4.out.xh.pool (z2.mono (fun _ _ e => .inr e)) z1)).more (Only.drew _ _)); have HV5 := hide ((HV4.out.kept z2 HFR.out.2.1).more (Only.drew _ _)); have HS5 := hide ((HS4.out.kept z2 (fun h0 e => HB5.out h0 (.inr (.inr (.inr e))))).more (Only.drew _ _)); clear z1 z2 hHeld e0 e1 e2 e3 e4 e5 e6 e7 g0 g1 g2 g3 g4 g5 g6 g7; obtain ⟨y5, hy5⟩ : ∃ y, ((((((((y4.setCell ⟨fb, i * 8, none⟩ (.int .i64 n)).setCell ⟨fb, i * 8 + 1, none⟩ (.int .i64 K.1.lsn)).setCell ⟨fb, i * 8 + 2, none⟩ (.int .i64 K.1.kind)).setCell ⟨fb, i * 8 + 3, none⟩ (.int .i64 K.1.level)).setCell ⟨fb, i * 8 + 4, none⟩ (.int .i64 K.1.right)).setCell ⟨fb, i * 8 + 5, none⟩ (.string K.1.high)).setCell ⟨fb, i * 8 + 6, none⟩ (.slice a5 K.1.items.length q5)).setCell ⟨fb, i * 8 + 7, none⟩ (.bool false)).drew = y := ⟨_, rfl⟩; rw [hy5] at H5 HV5 HS5 ⊢
        clear hy5; have HCO := hide (gpcopied_any y5 K.1 B5 q5 a5 HS5.out HA.out.2.1); obtain ⟨r0, r1, r2, r3, r4, r5, s0, s1, s2, s3, s4, s5, sl⟩ := HV5.out
        go_wp2_with fail
        refine HCO.out.mono ?_; rintro e y6 ⟨B6, a6, q6, rfl, hS6, hF6, ho6, hB6⟩; have H6 := hide (H5.out.more ho6); have HA6 := hide (And.intro hS6 (And.intro hF6 (fun h0 : 0 < K.1.items.length => (by have q1 := hB6 h0; have q2 := H5.out.res.lt; omega : w.heap.size < B6)))); clear hS6 hF6 ho6 hB6 r0 r1 r2 r3 r4 r5 s0 s1 s2 s3 s4 s5 sl; obtain ⟨p0, p1, p2, p3, p4, p5, g0, g1, g2, g3, g4, g5, gl⟩ := H6.out.res
        go_wp2_with fail
        refine bodyPost_ret (results_page rfl rfl (Pag.six H6.out.res _ _ _ _ _ _)) rfl ?_; rw [HRR.out]
        exact H6.out.page 0 K.1 B6 q6 a6 HA6.out.1 HA6.out.2.1 HA6.out.2.2
      · have hy' : (Y.1.c != 0) = true := by simpa using hy
        have hYi : Y.2 = none := by
          cases e : Y.2 with
          | some i => exact absurd (HTS.out i e).1 hy
          | none => rfl
        have hHR := HR.out; rw [HPG.out, if_neg (fun e => e rfl), hYi] at hHR
        simp only at hHR
        have HRR := hide hHR; rw [hYi]; clear hy hYi hHR; obtain ⟨p0, p1, p2, p3, p4, p5, g0, g1, g2, g3, g4, g5, gl⟩ := H4.out.res
        go_wp2_with fail
        refine bodyPost_ret (results_page rfl rfl (Pag.six H4.out.res _ _ _ _ _ _)) rfl ?_; rw [HRR.out]
        exact H4.out.zero _
    · have hk' : (K.2 != 0) = true := by simpa using hk
      rw [if_pos hk] at HPG; clear hk; have H3 := hide (H2.out.more (onlyA y2 (.cells #[.int .i64 K.1.lsn, .int .i64 K.1.kind, .int .i64 K.1.level, .int .i64 K.1.right, .string K.1.high, .slice a5 K.1.items.length q5] 45))); obtain ⟨y3, hy3⟩ : ∃ y, y2.alloc (.cells #[.int .i64 K.1.lsn, .int .i64 K.1.kind, .int .i64 K.1.level, .int .i64 K.1.right, .string K.1.high, .slice a5 K.1.items.length q5] 45) = y := ⟨_, rfl⟩; rw [hy3] at H3; have HY3 := hide hy3; have hHR := HR.out; rw [HPG.out, if_pos (by decide)] at hHR; have HRR := hide hHR; clear hHR
      go_upto_region 10 with fail
      clear hy3; obtain ⟨p0, p1, p2, p3, p4, p5, g0, g1, g2, g3, g4, g5, gl⟩ := H3.out.res
      go_wp2_with fail
      refine bodyPost_ret (results_page rfl rfl (Pag.six H3.out.res _ _ _ _ _ _)) rfl ?_; rw [HRR.out]
      exact H3.out.zero _
  · have hv' : (V.2 != 0) = true := by simpa using hv
    rw [if_pos hv] at HPG; have hHR := HR.out; rw [HPG.out, if_pos hv] at hHR; have HRR := hide hHR; clear hv hHR; obtain ⟨p0, p1, p2, p3, p4, p5, g0, g1, g2, g3, g4, g5, gl⟩ := H1.out.res
    go_wp2_with fail
    refine bodyPost_ret (results_page rfl rfl (Pag.six H1.out.res _ _ _ _ _ _)) rfl ?_; rw [HRR.out]
    exact H1.out.zero _
theorem gpfetch_any (w : World) (p xd a b c ka kb kc x fb cf tb : Nat) (ta : Option Addr) (tc base : Nat) (v8 : Value) (P : Pl) (D : Dk) (G : Lg) (tl : List (Int × Int)) (N : Nat → Prop) (h : Xh w p xd a b c ka kb kc x fb cf tb ta tc base v8 P D G tl N) (hu : P.Ux) (hok : P.Ok) (n pick : Int) :
    Calls Tryz.prog 12 #[.pointer (some ⟨p, 0, none⟩), .int .i64 n, .int .i64 pick] w fun e w' => XfR w w' e p xd a b c ka kb kc x fb cf base v8 N (P.fetch D G n pick).1 (P.fetch D G n pick).2 := by
  by_cases hn : 0 ≤ n ∧ n < (P.pages : Int)
  · have hC : P.hasC n = 0 := by unfold Pl.hasC; rw [if_pos hn]
    cases hi : P.idx n with
    | some i =>
      unfold Pl.fetch; rw [hC, if_neg (by decide), hi]
      exact gpfetch_held w p xd a b c ka kb kc x fb cf tb ta tc base v8 P D G tl N h n pick hn.1 hn.2 i hi
    | none =>
      refine gpfetch_read w p xd a b c ka kb kc x fb cf tb ta tc base v8 P D G tl N h hu hok n pick hn.1 hn.2 hi _ ?_; unfold Pl.fetch; rw [hC, if_neg (by decide), hi]
      rfl
  · have hC : P.hasC n = 4 := by unfold Pl.hasC; rw [if_neg hn]
    unfold Pl.fetch; rw [hC, if_pos (by decide)]
    exact gpfetch_out w p xd a b c ka kb kc x fb cf tb ta tc base v8 P D G tl N h n pick (by omega)
end Go.Proofs.YtebijheonkagfaaGreatDoor
