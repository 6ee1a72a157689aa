/- What the document's Logged does. -/
import Derived.Test.YtmcghpeamnmbpaaORefT
namespace Go.Proofs.Ytmcghpeamnmbpaa
open Go.RowKit Go.Maps

theorem sixg (W : World) (g p : Nat) (v1 v2 v3 v4 v5 v6 : Value) : Only (fun k => k = g) W ((((((W.setCell ⟨g, p, none⟩ v1).setCell ⟨g, p + 1, none⟩ v2).setCell ⟨g, p + 2, none⟩ v3).setCell ⟨g, p + 3, none⟩ v4).setCell ⟨g, p + 4, none⟩ v5).setCell ⟨g, p + 5, none⟩ v6).drew :=
  ((((((Only.put W g _ v1).puts _ v2).puts _ v3).puts _ v4).puts _ v5).puts _ v6).trans (Only.drew _ _) (fun _ _ h => h)
theorem rpoke6 {W : World} {g n cp i : Nat} {R : List Rw} (h : RRow W 0 (.slice (some ⟨g, 0, none⟩) n cp) R) (hn : R.length = n) (hi : i < R.length) (x : Rw) (hw : x.who = R[i].who) : RRow (((((((W.setCell ⟨g, i * 7 + 1, none⟩ (.int .i64 x.s.nx)).setCell ⟨g, i * 7 + 1 + 1, none⟩ (.slice x.s.ao x.s.act.length x.s.cp)).setCell ⟨g, i * 7 + 1 + 2, none⟩ (.int .i64 x.xid)).setCell ⟨g, i * 7 + 1 + 3, none⟩ (.int .i64 x.fst)).setCell ⟨g, i * 7 + 1 + 4, none⟩ (.int .i64 x.lst)).setCell ⟨g, i * 7 + 1 + 5, none⟩ (.int .i64 x.und)).drew) 0 (.slice (some ⟨g, 0, none⟩) n cp) (R.set i x) := by
  obtain ⟨q, hq⟩ : ∃ q, R[i] = q := ⟨_, rfl⟩
  rw [hq] at hw
  have h0 : RRow W 0 (.slice (some ⟨g, 0, none⟩) n cp) (R.set i q) := by rw [← hq, List.set_getElem_self]; exact h
  clear h hq
  obtain ⟨qw, ⟨qn, qa, qc, qact⟩, qx, qf, ql, qu⟩ := q
  obtain ⟨xw, ⟨xn, xa, xc, xact⟩, xx, xf, xl, xu⟩ := x
  obtain rfl : xw = qw := hw
  have h1 := GRow.poke2 (E := ER) (k := 1) (u := .int .i64 xn) ⟨xw, ⟨qn, qa, qc, qact⟩, qx, qf, ql, qu⟩ ⟨xw, ⟨xn, qa, qc, qact⟩, qx, qf, ql, qu⟩ h0 hn hi (by decide) rfl
  have h2 := GRow.poke2 (E := ER) (k := 2) (u := .slice xa xact.length xc) ⟨xw, ⟨xn, qa, qc, qact⟩, qx, qf, ql, qu⟩ ⟨xw, ⟨xn, xa, xc, xact⟩, qx, qf, ql, qu⟩ h1 hn hi (by decide) rfl
  have h3 := GRow.poke2 (E := ER) (k := 3) (u := .int .i64 xx) ⟨xw, ⟨xn, xa, xc, xact⟩, qx, qf, ql, qu⟩ ⟨xw, ⟨xn, xa, xc, xact⟩, xx, qf, ql, qu⟩ h2 hn hi (by decide) rfl
  have h4 := GRow.poke2 (E := ER) (k := 4) (u := .int .i64 xf) ⟨xw, ⟨xn, xa, xc, xact⟩, xx, qf, ql, qu⟩ ⟨xw, ⟨xn, xa, xc, xact⟩, xx, xf, ql, qu⟩ h3 hn hi (by decide) rfl
  have h5 := GRow.poke2 (E := ER) (k := 5) (u := .int .i64 xl) ⟨xw, ⟨xn, xa, xc, xact⟩, xx, xf, ql, qu⟩ ⟨xw, ⟨xn, xa, xc, xact⟩, xx, xf, xl, qu⟩ h4 hn hi (by decide) rfl
  exact GRow.more (GRow.poke2 (E := ER) (k := 6) (u := .int .i64 xu) ⟨xw, ⟨xn, xa, xc, xact⟩, xx, xf, xl, qu⟩ ⟨xw, ⟨xn, xa, xc, xact⟩, xx, xf, xl, xu⟩ h5 hn hi (by decide) rfl) (Only.drew _ _)
set_option maxRecDepth 100000 in
set_option maxHeartbeats 3200000 in
theorem rlogged_any (w : World) (Y : Nat → Prop) (r n : Nat) (f : Tt) (ao : Option Addr) (cp : Nat) (R : List Rw) (H : Rm w Y r n f ao cp R) (hn : n ≤ 4398046511104) (a l : Int) (u : Bool) : Calls Try.prog 15 #[.pointer (some ⟨r, 0, none⟩), .int .i64 a, .int .i64 l, .bool u] w fun e w' =>
    e = .returned (.int .i64 (logE f a l)) ∧ Rt w' Y r (n + 1) (logF f a l u) ∧ Only Y w w' := by
  have hlen := H.hn
  have HC := hide (rat_any w Y r n f ao cp R H hn a)
  have HH := hide H
  have HFO := hide (logF_ok H.ok a l u)
  clear H
  go_enter Try.func15, Try.ntmps15
  go_wp2_with fail
  refine HC.out.mono ?_
  rintro e w2 ⟨⟨i, has, rfl, hA⟩, hO⟩
  have HA := hide hA
  have HOY : Hid (Only Y w w2) := hO.mono (fun _ _ h => h.elim)
  have hr := HH.out.more hO
  have HR2 := hide hr
  have c0 := hr.c0
  clear hA hO hr HC
  cases has with
  | false =>
    have HV := hide (log_none l u (HH.out.hi.none HA.out))
    clear HFO
    go_wp2_with fail
    go_ret
    rw [HV.out.1, HV.out.2]
    exact ⟨rfl, ⟨_, _, _, HR2.out.mono (Nat.le_succ n)⟩, HOY.out⟩
  | true =>
    obtain ⟨hi, hwi, hf⟩ := HH.out.hi.some HA.out
    have hund := HH.out.ok.und a _ hf
    obtain ⟨g, rfl, hyg, hgr, hgl, hcp, _, k1, k2, k3, k4, k5, k6⟩ := HR2.out.row hi
    have HGR := hide hgr
    have HGL := hide hgl
    have HWI := hide hwi
    have HYG := hide hyg
    obtain ⟨x, hx⟩ : ∃ x, R[i] = x := ⟨_, rfl⟩
    have HX := hide hx
    rw [hx] at k1 k2 k3 k4 k5 k6 hf hund
    obtain ⟨xw, ⟨nx, xa, xc, act⟩, xi, fi, la, un⟩ := x
    unfold Rw.tx at hf hund
    simp only at k1 k2 k3 k4 k5 k6 hf hund
    have HF := hide hf
    obtain ⟨hu1, hu2⟩ := hund
    have hj0 : (0 : Int) ≤ (i : Int) := by omega
    have hj1 : (i : Int) < (R.length : Int) := by omega
    clear hx hwi hyg hgr hgl hf
    by_cases h0 : xi = 0
    · have hb : (xi == 0) = true := by simp [h0]
      have HV := hide (log_bad (l := l) u HF.out (.inl h0))
      clear HFO h0
      go_wp2_with fail
      go_ret
      rw [HV.out.1, HV.out.2]
      exact ⟨rfl, ⟨_, _, _, (HR2.out.more (onlyA _ _ _)).mono (Nat.le_succ n)⟩, HOY.out.trans ((onlyA _ _ _).mono (fun _ _ h => h.elim)) (fun _ _ h => h)⟩
    · have hb : (xi == 0) = false := by simp [h0]
      have H0 := hide h0
      clear h0
      by_cases hl : l ≤ la
      · have HV := hide (log_bad (l := l) u HF.out (.inr hl))
        clear HFO
        go_wp2_with fail
        go_ret
        rw [HV.out.1, HV.out.2]
        exact ⟨rfl, ⟨_, _, _, (HR2.out.more (onlyA _ _ _)).mono (Nat.le_succ n)⟩, HOY.out.trans ((onlyA _ _ _).mono (fun _ _ h => h.elim)) (fun _ _ h => h)⟩
      · have hv := log_ok (l := l) u HF.out (fun e => e.elim H0.out hl)
        unfold Tx.log at hv
        simp only at hv
        have hfo := HFO.out
        rw [hv.2] at hfo
        clear HFO
        by_cases h0 : fi = 0
        · have hb2 : (fi == 0) = true := by simp [h0]
          simp only [if_pos h0] at hv hfo
          subst h0
          clear hb2
          cases u with
          | false =>
            simp only [Bool.false_eq_true, if_false] at hv hfo
            have HV := hide hv
            have HFO := hide hfo
            clear hv hfo
            go_upto_region 12 with fail
            have HB : Hid (Cb (w2.alloc (.cells #[.int .i64 nx, .slice xa act.length xc, .int .i64 xi, .int .i64 l, .int .i64 l, .int .i64 un] 37)) w2.heap.size [.int .i64 nx, .slice xa act.length xc, .int .i64 xi, .int .i64 l, .int .i64 l, .int .i64 un]) := Cb.new w2 _ _
            have HOB := hide (onlyA w2 #[.int .i64 nx, .slice xa act.length xc, .int .i64 xi, .int .i64 l, .int .i64 l, .int .i64 un] 37)
            have HR3 := hide (HR2.out.more HOB.out)
            obtain ⟨W3, hW3⟩ : ∃ x, w2.alloc (.cells #[.int .i64 nx, .slice xa act.length xc, .int .i64 xi, .int .i64 l, .int .i64 l, .int .i64 un] 37) = x := ⟨_, rfl⟩
            rw [hW3] at HB HOB HR3 ⊢
            obtain ⟨b, hb⟩ : ∃ b, w2.heap.size = b := ⟨_, rfl⟩
            have HBE := hide hb
            have HGB : Hid (g ≠ w2.heap.size) := by have := HGL.out; unfold Hid; omega
            rw [hb] at HB ⊢
            clear hW3 hb c0 k1 k2 k3 k4 k5 k6
            obtain ⟨g9, eg, _, _, _, _, _, k1, k2, k3, k4, k5, k6⟩ := HR3.out.row hi
            injection eg with eg
            injection eg with eg
            subst eg
            have f1 : W3.frozen? ⟨g, i * 7 + 1, none⟩ = false := World.ownsRow.frozenAt HR3.out.h _
            have f2 : W3.frozen? ⟨g, i * 7 + 2, none⟩ = false := World.ownsRow.frozenAt HR3.out.h _
            have f3 : W3.frozen? ⟨g, i * 7 + 3, none⟩ = false := World.ownsRow.frozenAt HR3.out.h _
            have f4 : W3.frozen? ⟨g, i * 7 + 4, none⟩ = false := World.ownsRow.frozenAt HR3.out.h _
            have f5 : W3.frozen? ⟨g, i * 7 + 5, none⟩ = false := World.ownsRow.frozenAt HR3.out.h _
            have f6 : W3.frozen? ⟨g, i * 7 + 6, none⟩ = false := World.ownsRow.frozenAt HR3.out.h _
            have HCL : Hid (∀ W, Only (fun k => k = g) W3 W → W.cell? ⟨r, 0, none⟩ = some (.slice (some ⟨g, 0, none⟩) R.length cp)) := fun W ho => (ho.cell (p := ⟨r, 0, none⟩) HR3.out.lt (fun e => HGR.out e.symm)).trans HR3.out.c0
            have HBL : Hid (∀ W, Only (fun k => k = g) W3 W → Cb W b [.int .i64 nx, .slice xa act.length xc, .int .i64 xi, .int .i64 l, .int .i64 l, .int .i64 un]) := fun W ho => HB.out.kept ho (fun e => HGB.out (e.symm.trans HBE.out.symm))
            refine wp_region_noPanic ?_
            refine wp_region_held_drew (S := fun W => Only (fun k => k = g) W3 W) (by kernel_rfl) (Only.drew _ W3) (fun hHeld => ?_)
            refine wpAnyH_take (i := 0) (oi := { dst := some 49, op := Op.move (Operand.tmp 0), type := 25, pos := "ref.go:79", after := #[], guard := none }) (v := .pointer (some ⟨r, 0, none⟩)) rfl (by kernel_rfl) (by kernel_rfl) (by kernel_rfl) (fun _ _ _ h => h) (Or.inl ⟨by rfl, fun w' hSw => by clear hSw; go_simp⟩) (by assumption) ?_
            simp only [Act.put, List.setIfInBounds_toArray, List.set_cons_zero, List.set_cons_succ]
            refine wpAnyH_take (i := 4) (oi := { dst := some 53, op := Op.move (Operand.tmp 9), type := 3, pos := "ref.go:79", after := #[], guard := none }) (v := .int .i64 (i : Int)) rfl (by kernel_rfl) (by kernel_rfl) (by kernel_rfl) (fun _ _ _ h => h) (Or.inl ⟨by rfl, fun w' hSw => by clear hSw; go_simp⟩) (by assumption) ?_
            simp only [Act.put, List.setIfInBounds_toArray, List.set_cons_zero, List.set_cons_succ]
            refine wpAnyH_take (i := 5) (oi := { dst := some 54, op := Op.load 37 (Operand.tmp 11), type := 37, pos := "ref.go:79", after := #[], guard := none }) (v := .agg #[.int .i64 nx, .slice xa act.length xc, .int .i64 xi, .int .i64 l, .int .i64 l, .int .i64 un]) rfl (by kernel_rfl) (by kernel_rfl) (by kernel_rfl) (fun _ _ _ h => h) (yieldsIf_load_tx (by rfl) _ rfl _ rfl (fun W hW => HBL.out W hW)) (by assumption) ?_
            simp only [Act.put, List.setIfInBounds_toArray, List.set_cons_zero, List.set_cons_succ]
            refine wpAnyH_take (i := 1) (oi := { dst := some 50, op := Op.nilCheck (Operand.tmp 49), type := 0, pos := "ref.go:79", after := #[{ on := 0, ground := Ground.data }], guard := none }) (v := .pointer (some ⟨r, 0, none⟩)) rfl (by kernel_rfl) (by kernel_rfl) (by kernel_rfl) (fun _ _ _ h => h) (Or.inl ⟨by rfl, fun w' hSw => by clear hSw; go_simp⟩) (by assumption) ?_
            simp only [Act.put, List.setIfInBounds_toArray, List.set_cons_zero, List.set_cons_succ]
            refine wpAnyH_take (i := 2) (oi := { dst := some 51, op := Op.fieldAddr 66 (Operand.tmp 50) 0, type := 0, pos := "ref.go:79", after := #[{ on := 1, ground := Ground.data }], guard := none }) (v := .pointer (some ⟨r, 0, none⟩)) rfl (by kernel_rfl) (by kernel_rfl) (by kernel_rfl) (fun _ _ _ h => h) (Or.inl ⟨by rfl, fun w' hSw => by clear hSw; go_simp⟩) (by assumption) ?_
            simp only [Act.put, List.setIfInBounds_toArray, List.set_cons_zero, List.set_cons_succ]
            refine wpAnyH_take (i := 3) (oi := { dst := some 52, op := Op.load 64 (Operand.tmp 51), type := 64, pos := "ref.go:79", after := #[{ on := 2, ground := Ground.data }], guard := none }) (v := .slice (some ⟨g, 0, none⟩) R.length cp) rfl (by kernel_rfl) (by kernel_rfl) (by kernel_rfl) (fun _ _ _ h => h) (yieldsIf_load_cellT (by rfl) 64 _ rfl _ rfl (fun W hW => HCL.out W hW) (fun W hc => ld_rxrows hc)) (by assumption) ?_
            simp only [Act.put, List.setIfInBounds_toArray, List.set_cons_zero, List.set_cons_succ]
            refine wpAnyH_take (i := 6) (oi := { dst := some 55, op := Op.indexAddr 64 (Operand.tmp 52) (Operand.tmp 53), type := 0, pos := "ref.go:79", after := #[{ on := 3, ground := Ground.data }, { on := 4, ground := Ground.data }, { on := 0, ground := Ground.phase }, { on := 1, ground := Ground.phase }, { on := 2, ground := Ground.phase }, { on := 3, ground := Ground.phase }, { on := 4, ground := Ground.phase }, { on := 5, ground := Ground.phase }], guard := none }) (v := .pointer (some ⟨g, (i * 7), none⟩)) rfl (by kernel_rfl) (by kernel_rfl) (by kernel_rfl) (fun _ _ _ h => h) (Or.inl ⟨by rfl, fun w' hSw => by clear hSw; go_simp⟩) (by assumption) ?_
            simp only [Act.put, List.setIfInBounds_toArray, List.set_cons_zero, List.set_cons_succ]
            refine wpAnyH_take (i := 7) (oi := { dst := some 56, op := Op.fieldAddr 75 (Operand.tmp 55) 1, type := 0, pos := "ref.go:79", after := #[{ on := 6, ground := Ground.data }, { on := 0, ground := Ground.phase }, { on := 1, ground := Ground.phase }, { on := 2, ground := Ground.phase }, { on := 3, ground := Ground.phase }, { on := 4, ground := Ground.phase }, { on := 5, ground := Ground.phase }], guard := none }) (v := .pointer (some ⟨g, i * 7 + 1, none⟩)) rfl (by kernel_rfl) (by kernel_rfl) (by kernel_rfl) (fun _ _ _ h => h) (Or.inl ⟨by rfl, fun w' hSw => by clear hSw; go_simp⟩) (by assumption) ?_
            simp only [Act.put, List.setIfInBounds_toArray, List.set_cons_zero, List.set_cons_succ]
            refine wpAnyH_ready (rs := [8]) (by kernel_rfl) (by simp) ?_
            refine AllReadyH.cons (o := { dst := none, op := Op.store 37 (Operand.tmp 56) (Operand.tmp 54), type := 0, pos := "ref.go:79", after := #[{ on := 7, ground := Ground.data }, { on := 5, ground := Ground.data }, { on := 0, ground := Ground.phase }, { on := 1, ground := Ground.phase }, { on := 2, ground := Ground.phase }, { on := 3, ground := Ground.phase }, { on := 4, ground := Ground.phase }, { on := 5, ground := Ground.phase }], guard := none }) rfl (fun K hK => ?_) (AllReadyH.nil)
            go_simp
            refine hK.out _ _ (sixg _ _ _ _ _ _ _ _ _) (fun hHeld => ?_)
            clear hK K
            try simp only [Act.put, List.setIfInBounds_toArray, List.set_cons_zero, List.set_cons_succ]
            refine wpAnyH_done (by kernel_rfl) ?_ _
            refine NoPanic.normal ?_
            go_wp2_with fail
            go_ret
            clear k1 k2 k3 k4 k5 k6 f1 f2 f3 f4 f5 f6
            rw [HV.out.1, HV.out.2]
            have hpk := HR3.out.poke (w' := _) (n' := n + 1) (f' := f.set a ⟨nx, act, xi, l, l, un⟩) hi (x := ⟨xw, ⟨nx, xa, xc, act⟩, xi, l, l, un⟩) (by rw [HX.out]) (by rw [HX.out]) (sixg W3 g (i * 7 + 1) (.int .i64 nx) (.slice xa act.length xc) (.int .i64 xi) (.int .i64 l) (.int .i64 l) (.int .i64 un)) (rpoke6 (W := W3) HR3.out.h rfl hi ⟨xw, ⟨nx, xa, xc, act⟩, xi, l, l, un⟩ (by rw [HX.out])) (by rw [HWI.out]; rfl) (Nat.le_succ n) HFO.out
            exact ⟨rfl, ⟨_, _, _, hpk⟩, (HOY.out.trans (HOB.out.mono (T := Y) (fun _ _ h => h.elim)) (fun _ _ h => h)).trans ((sixg W3 g (i * 7 + 1) _ _ _ _ _ _).mono (fun k _ e => by rw [e]; exact HYG.out)) (fun _ _ h => h)⟩
          | true =>
            simp only [if_true] at hv hfo
            have HV := hide hv
            have HFO := hide hfo
            clear hv hfo
            go_upto_region 12 with fail
            have HB : Hid (Cb (w2.alloc (.cells #[.int .i64 nx, .slice xa act.length xc, .int .i64 xi, .int .i64 l, .int .i64 l, .int .i64 (un + 1)] 37)) w2.heap.size [.int .i64 nx, .slice xa act.length xc, .int .i64 xi, .int .i64 l, .int .i64 l, .int .i64 (un + 1)]) := Cb.new w2 _ _
            have HOB := hide (onlyA w2 #[.int .i64 nx, .slice xa act.length xc, .int .i64 xi, .int .i64 l, .int .i64 l, .int .i64 (un + 1)] 37)
            have HR3 := hide (HR2.out.more HOB.out)
            obtain ⟨W3, hW3⟩ : ∃ x, w2.alloc (.cells #[.int .i64 nx, .slice xa act.length xc, .int .i64 xi, .int .i64 l, .int .i64 l, .int .i64 (un + 1)] 37) = x := ⟨_, rfl⟩
            rw [hW3] at HB HOB HR3 ⊢
            obtain ⟨b, hb⟩ : ∃ b, w2.heap.size = b := ⟨_, rfl⟩
            have HBE := hide hb
            have HGB : Hid (g ≠ w2.heap.size) := by have := HGL.out; unfold Hid; omega
            rw [hb] at HB ⊢
            clear hW3 hb c0 k1 k2 k3 k4 k5 k6
            obtain ⟨g9, eg, _, _, _, _, _, k1, k2, k3, k4, k5, k6⟩ := HR3.out.row hi
            injection eg with eg
            injection eg with eg
            subst eg
            have f1 : W3.frozen? ⟨g, i * 7 + 1, none⟩ = false := World.ownsRow.frozenAt HR3.out.h _
            have f2 : W3.frozen? ⟨g, i * 7 + 2, none⟩ = false := World.ownsRow.frozenAt HR3.out.h _
            have f3 : W3.frozen? ⟨g, i * 7 + 3, none⟩ = false := World.ownsRow.frozenAt HR3.out.h _
            have f4 : W3.frozen? ⟨g, i * 7 + 4, none⟩ = false := World.ownsRow.frozenAt HR3.out.h _
            have f5 : W3.frozen? ⟨g, i * 7 + 5, none⟩ = false := World.ownsRow.frozenAt HR3.out.h _
            have f6 : W3.frozen? ⟨g, i * 7 + 6, none⟩ = false := World.ownsRow.frozenAt HR3.out.h _
            have HCL : Hid (∀ W, Only (fun k => k = g) W3 W → W.cell? ⟨r, 0, none⟩ = some (.slice (some ⟨g, 0, none⟩) R.length cp)) := fun W ho => (ho.cell (p := ⟨r, 0, none⟩) HR3.out.lt (fun e => HGR.out e.symm)).trans HR3.out.c0
            have HBL : Hid (∀ W, Only (fun k => k = g) W3 W → Cb W b [.int .i64 nx, .slice xa act.length xc, .int .i64 xi, .int .i64 l, .int .i64 l, .int .i64 (un + 1)]) := fun W ho => HB.out.kept ho (fun e => HGB.out (e.symm.trans HBE.out.symm))
            refine wp_region_noPanic ?_
            refine wp_region_held_drew (S := fun W => Only (fun k => k = g) W3 W) (by kernel_rfl) (Only.drew _ W3) (fun hHeld => ?_)
            refine wpAnyH_take (i := 0) (oi := { dst := some 49, op := Op.move (Operand.tmp 0), type := 25, pos := "ref.go:79", after := #[], guard := none }) (v := .pointer (some ⟨r, 0, none⟩)) rfl (by kernel_rfl) (by kernel_rfl) (by kernel_rfl) (fun _ _ _ h => h) (Or.inl ⟨by rfl, fun w' hSw => by clear hSw; go_simp⟩) (by assumption) ?_
            simp only [Act.put, List.setIfInBounds_toArray, List.set_cons_zero, List.set_cons_succ]
            refine wpAnyH_take (i := 4) (oi := { dst := some 53, op := Op.move (Operand.tmp 9), type := 3, pos := "ref.go:79", after := #[], guard := none }) (v := .int .i64 (i : Int)) rfl (by kernel_rfl) (by kernel_rfl) (by kernel_rfl) (fun _ _ _ h => h) (Or.inl ⟨by rfl, fun w' hSw => by clear hSw; go_simp⟩) (by assumption) ?_
            simp only [Act.put, List.setIfInBounds_toArray, List.set_cons_zero, List.set_cons_succ]
            refine wpAnyH_take (i := 5) (oi := { dst := some 54, op := Op.load 37 (Operand.tmp 11), type := 37, pos := "ref.go:79", after := #[], guard := none }) (v := .agg #[.int .i64 nx, .slice xa act.length xc, .int .i64 xi, .int .i64 l, .int .i64 l, .int .i64 (un + 1)]) rfl (by kernel_rfl) (by kernel_rfl) (by kernel_rfl) (fun _ _ _ h => h) (yieldsIf_load_tx (by rfl) _ rfl _ rfl (fun W hW => HBL.out W hW)) (by assumption) ?_
            simp only [Act.put, List.setIfInBounds_toArray, List.set_cons_zero, List.set_cons_succ]
            refine wpAnyH_take (i := 1) (oi := { dst := some 50, op := Op.nilCheck (Operand.tmp 49), type := 0, pos := "ref.go:79", after := #[{ on := 0, ground := Ground.data }], guard := none }) (v := .pointer (some ⟨r, 0, none⟩)) rfl (by kernel_rfl) (by kernel_rfl) (by kernel_rfl) (fun _ _ _ h => h) (Or.inl ⟨by rfl, fun w' hSw => by clear hSw; go_simp⟩) (by assumption) ?_
            simp only [Act.put, List.setIfInBounds_toArray, List.set_cons_zero, List.set_cons_succ]
            refine wpAnyH_take (i := 2) (oi := { dst := some 51, op := Op.fieldAddr 66 (Operand.tmp 50) 0, type := 0, pos := "ref.go:79", after := #[{ on := 1, ground := Ground.data }], guard := none }) (v := .pointer (some ⟨r, 0, none⟩)) rfl (by kernel_rfl) (by kernel_rfl) (by kernel_rfl) (fun _ _ _ h => h) (Or.inl ⟨by rfl, fun w' hSw => by clear hSw; go_simp⟩) (by assumption) ?_
            simp only [Act.put, List.setIfInBounds_toArray, List.set_cons_zero, List.set_cons_succ]
            refine wpAnyH_take (i := 3) (oi := { dst := some 52, op := Op.load 64 (Operand.tmp 51), type := 64, pos := "ref.go:79", after := #[{ on := 2, ground := Ground.data }], guard := none }) (v := .slice (some ⟨g, 0, none⟩) R.length cp) rfl (by kernel_rfl) (by kernel_rfl) (by kernel_rfl) (fun _ _ _ h => h) (yieldsIf_load_cellT (by rfl) 64 _ rfl _ rfl (fun W hW => HCL.out W hW) (fun W hc => ld_rxrows hc)) (by assumption) ?_
            simp only [Act.put, List.setIfInBounds_toArray, List.set_cons_zero, List.set_cons_succ]
            refine wpAnyH_take (i := 6) (oi := { dst := some 55, op := Op.indexAddr 64 (Operand.tmp 52) (Operand.tmp 53), type := 0, pos := "ref.go:79", after := #[{ on := 3, ground := Ground.data }, { on := 4, ground := Ground.data }, { on := 0, ground := Ground.phase }, { on := 1, ground := Ground.phase }, { on := 2, ground := Ground.phase }, { on := 3, ground := Ground.phase }, { on := 4, ground := Ground.phase }, { on := 5, ground := Ground.phase }], guard := none }) (v := .pointer (some ⟨g, (i * 7), none⟩)) rfl (by kernel_rfl) (by kernel_rfl) (by kernel_rfl) (fun _ _ _ h => h) (Or.inl ⟨by rfl, fun w' hSw => by clear hSw; go_simp⟩) (by assumption) ?_
            simp only [Act.put, List.setIfInBounds_toArray, List.set_cons_zero, List.set_cons_succ]
            refine wpAnyH_take (i := 7) (oi := { dst := some 56, op := Op.fieldAddr 75 (Operand.tmp 55) 1, type := 0, pos := "ref.go:79", after := #[{ on := 6, ground := Ground.data }, { on := 0, ground := Ground.phase }, { on := 1, ground := Ground.phase }, { on := 2, ground := Ground.phase }, { on := 3, ground := Ground.phase }, { on := 4, ground := Ground.phase }, { on := 5, ground := Ground.phase }], guard := none }) (v := .pointer (some ⟨g, i * 7 + 1, none⟩)) rfl (by kernel_rfl) (by kernel_rfl) (by kernel_rfl) (fun _ _ _ h => h) (Or.inl ⟨by rfl, fun w' hSw => by clear hSw; go_simp⟩) (by assumption) ?_
            simp only [Act.put, List.setIfInBounds_toArray, List.set_cons_zero, List.set_cons_succ]
            refine wpAnyH_ready (rs := [8]) (by kernel_rfl) (by simp) ?_
            refine AllReadyH.cons (o := { dst := none, op := Op.store 37 (Operand.tmp 56) (Operand.tmp 54), type := 0, pos := "ref.go:79", after := #[{ on := 7, ground := Ground.data }, { on := 5, ground := Ground.data }, { on := 0, ground := Ground.phase }, { on := 1, ground := Ground.phase }, { on := 2, ground := Ground.phase }, { on := 3, ground := Ground.phase }, { on := 4, ground := Ground.phase }, { on := 5, ground := Ground.phase }], guard := none }) rfl (fun K hK => ?_) (AllReadyH.nil)
            go_simp
            refine hK.out _ _ (sixg _ _ _ _ _ _ _ _ _) (fun hHeld => ?_)
            clear hK K
            try simp only [Act.put, List.setIfInBounds_toArray, List.set_cons_zero, List.set_cons_succ]
            refine wpAnyH_done (by kernel_rfl) ?_ _
            refine NoPanic.normal ?_
            go_wp2_with fail
            go_ret
            clear k1 k2 k3 k4 k5 k6 f1 f2 f3 f4 f5 f6
            rw [HV.out.1, HV.out.2]
            have hpk := HR3.out.poke (w' := _) (n' := n + 1) (f' := f.set a ⟨nx, act, xi, l, l, (un + 1)⟩) hi (x := ⟨xw, ⟨nx, xa, xc, act⟩, xi, l, l, (un + 1)⟩) (by rw [HX.out]) (by rw [HX.out]) (sixg W3 g (i * 7 + 1) (.int .i64 nx) (.slice xa act.length xc) (.int .i64 xi) (.int .i64 l) (.int .i64 l) (.int .i64 (un + 1))) (rpoke6 (W := W3) HR3.out.h rfl hi ⟨xw, ⟨nx, xa, xc, act⟩, xi, l, l, (un + 1)⟩ (by rw [HX.out])) (by rw [HWI.out]; rfl) (Nat.le_succ n) HFO.out
            exact ⟨rfl, ⟨_, _, _, hpk⟩, (HOY.out.trans (HOB.out.mono (T := Y) (fun _ _ h => h.elim)) (fun _ _ h => h)).trans ((sixg W3 g (i * 7 + 1) _ _ _ _ _ _).mono (fun k _ e => by rw [e]; exact HYG.out)) (fun _ _ h => h)⟩
        · have hb2 : (fi == 0) = false := by simp [h0]
          simp only [if_neg h0] at hv hfo
          clear h0
          cases u with
          | false =>
            simp only [Bool.false_eq_true, if_false] at hv hfo
            have HV := hide hv
            have HFO := hide hfo
            clear hv hfo
            go_upto_region 12 with fail
            have HB : Hid (Cb (w2.alloc (.cells #[.int .i64 nx, .slice xa act.length xc, .int .i64 xi, .int .i64 fi, .int .i64 l, .int .i64 un] 37)) w2.heap.size [.int .i64 nx, .slice xa act.length xc, .int .i64 xi, .int .i64 fi, .int .i64 l, .int .i64 un]) := Cb.new w2 _ _
            have HOB := hide (onlyA w2 #[.int .i64 nx, .slice xa act.length xc, .int .i64 xi, .int .i64 fi, .int .i64 l, .int .i64 un] 37)
            have HR3 := hide (HR2.out.more HOB.out)
            obtain ⟨W3, hW3⟩ : ∃ x, w2.alloc (.cells #[.int .i64 nx, .slice xa act.length xc, .int .i64 xi, .int .i64 fi, .int .i64 l, .int .i64 un] 37) = x := ⟨_, rfl⟩
            rw [hW3] at HB HOB HR3 ⊢
            obtain ⟨b, hb⟩ : ∃ b, w2.heap.size = b := ⟨_, rfl⟩
            have HBE := hide hb
            have HGB : Hid (g ≠ w2.heap.size) := by have := HGL.out; unfold Hid; omega
            rw [hb] at HB ⊢
            clear hW3 hb c0 k1 k2 k3 k4 k5 k6
            obtain ⟨g9, eg, _, _, _, _, _, k1, k2, k3, k4, k5, k6⟩ := HR3.out.row hi
            injection eg with eg
            injection eg with eg
            subst eg
            have f1 : W3.frozen? ⟨g, i * 7 + 1, none⟩ = false := World.ownsRow.frozenAt HR3.out.h _
            have f2 : W3.frozen? ⟨g, i * 7 + 2, none⟩ = false := World.ownsRow.frozenAt HR3.out.h _
            have f3 : W3.frozen? ⟨g, i * 7 + 3, none⟩ = false := World.ownsRow.frozenAt HR3.out.h _
            have f4 : W3.frozen? ⟨g, i * 7 + 4, none⟩ = false := World.ownsRow.frozenAt HR3.out.h _
            have f5 : W3.frozen? ⟨g, i * 7 + 5, none⟩ = false := World.ownsRow.frozenAt HR3.out.h _
            have f6 : W3.frozen? ⟨g, i * 7 + 6, none⟩ = false := World.ownsRow.frozenAt HR3.out.h _
            have HCL : Hid (∀ W, Only (fun k => k = g) W3 W → W.cell? ⟨r, 0, none⟩ = some (.slice (some ⟨g, 0, none⟩) R.length cp)) := fun W ho => (ho.cell (p := ⟨r, 0, none⟩) HR3.out.lt (fun e => HGR.out e.symm)).trans HR3.out.c0
            have HBL : Hid (∀ W, Only (fun k => k = g) W3 W → Cb W b [.int .i64 nx, .slice xa act.length xc, .int .i64 xi, .int .i64 fi, .int .i64 l, .int .i64 un]) := fun W ho => HB.out.kept ho (fun e => HGB.out (e.symm.trans HBE.out.symm))
            refine wp_region_noPanic ?_
            refine wp_region_held_drew (S := fun W => Only (fun k => k = g) W3 W) (by kernel_rfl) (Only.drew _ W3) (fun hHeld => ?_)
            refine wpAnyH_take (i := 0) (oi := { dst := some 49, op := Op.move (Operand.tmp 0), type := 25, pos := "ref.go:79", after := #[], guard := none }) (v := .pointer (some ⟨r, 0, none⟩)) rfl (by kernel_rfl) (by kernel_rfl) (by kernel_rfl) (fun _ _ _ h => h) (Or.inl ⟨by rfl, fun w' hSw => by clear hSw; go_simp⟩) (by assumption) ?_
            simp only [Act.put, List.setIfInBounds_toArray, List.set_cons_zero, List.set_cons_succ]
            refine wpAnyH_take (i := 4) (oi := { dst := some 53, op := Op.move (Operand.tmp 9), type := 3, pos := "ref.go:79", after := #[], guard := none }) (v := .int .i64 (i : Int)) rfl (by kernel_rfl) (by kernel_rfl) (by kernel_rfl) (fun _ _ _ h => h) (Or.inl ⟨by rfl, fun w' hSw => by clear hSw; go_simp⟩) (by assumption) ?_
            simp only [Act.put, List.setIfInBounds_toArray, List.set_cons_zero, List.set_cons_succ]
            refine wpAnyH_take (i := 5) (oi := { dst := some 54, op := Op.load 37 (Operand.tmp 11), type := 37, pos := "ref.go:79", after := #[], guard := none }) (v := .agg #[.int .i64 nx, .slice xa act.length xc, .int .i64 xi, .int .i64 fi, .int .i64 l, .int .i64 un]) rfl (by kernel_rfl) (by kernel_rfl) (by kernel_rfl) (fun _ _ _ h => h) (yieldsIf_load_tx (by rfl) _ rfl _ rfl (fun W hW => HBL.out W hW)) (by assumption) ?_
            simp only [Act.put, List.setIfInBounds_toArray, List.set_cons_zero, List.set_cons_succ]
            refine wpAnyH_take (i := 1) (oi := { dst := some 50, op := Op.nilCheck (Operand.tmp 49), type := 0, pos := "ref.go:79", after := #[{ on := 0, ground := Ground.data }], guard := none }) (v := .pointer (some ⟨r, 0, none⟩)) rfl (by kernel_rfl) (by kernel_rfl) (by kernel_rfl) (fun _ _ _ h => h) (Or.inl ⟨by rfl, fun w' hSw => by clear hSw; go_simp⟩) (by assumption) ?_
            simp only [Act.put, List.setIfInBounds_toArray, List.set_cons_zero, List.set_cons_succ]
            refine wpAnyH_take (i := 2) (oi := { dst := some 51, op := Op.fieldAddr 66 (Operand.tmp 50) 0, type := 0, pos := "ref.go:79", after := #[{ on := 1, ground := Ground.data }], guard := none }) (v := .pointer (some ⟨r, 0, none⟩)) rfl (by kernel_rfl) (by kernel_rfl) (by kernel_rfl) (fun _ _ _ h => h) (Or.inl ⟨by rfl, fun w' hSw => by clear hSw; go_simp⟩) (by assumption) ?_
            simp only [Act.put, List.setIfInBounds_toArray, List.set_cons_zero, List.set_cons_succ]
            refine wpAnyH_take (i := 3) (oi := { dst := some 52, op := Op.load 64 (Operand.tmp 51), type := 64, pos := "ref.go:79", after := #[{ on := 2, ground := Ground.data }], guard := none }) (v := .slice (some ⟨g, 0, none⟩) R.length cp) rfl (by kernel_rfl) (by kernel_rfl) (by kernel_rfl) (fun _ _ _ h => h) (yieldsIf_load_cellT (by rfl) 64 _ rfl _ rfl (fun W hW => HCL.out W hW) (fun W hc => ld_rxrows hc)) (by assumption) ?_
            simp only [Act.put, List.setIfInBounds_toArray, List.set_cons_zero, List.set_cons_succ]
            refine wpAnyH_take (i := 6) (oi := { dst := some 55, op := Op.indexAddr 64 (Operand.tmp 52) (Operand.tmp 53), type := 0, pos := "ref.go:79", after := #[{ on := 3, ground := Ground.data }, { on := 4, ground := Ground.data }, { on := 0, ground := Ground.phase }, { on := 1, ground := Ground.phase }, { on := 2, ground := Ground.phase }, { on := 3, ground := Ground.phase }, { on := 4, ground := Ground.phase }, { on := 5, ground := Ground.phase }], guard := none }) (v := .pointer (some ⟨g, (i * 7), none⟩)) rfl (by kernel_rfl) (by kernel_rfl) (by kernel_rfl) (fun _ _ _ h => h) (Or.inl ⟨by rfl, fun w' hSw => by clear hSw; go_simp⟩) (by assumption) ?_
            simp only [Act.put, List.setIfInBounds_toArray, List.set_cons_zero, List.set_cons_succ]
            refine wpAnyH_take (i := 7) (oi := { dst := some 56, op := Op.fieldAddr 75 (Operand.tmp 55) 1, type := 0, pos := "ref.go:79", after := #[{ on := 6, ground := Ground.data }, { on := 0, ground := Ground.phase }, { on := 1, ground := Ground.phase }, { on := 2, ground := Ground.phase }, { on := 3, ground := Ground.phase }, { on := 4, ground := Ground.phase }, { on := 5, ground := Ground.phase }], guard := none }) (v := .pointer (some ⟨g, i * 7 + 1, none⟩)) rfl (by kernel_rfl) (by kernel_rfl) (by kernel_rfl) (fun _ _ _ h => h) (Or.inl ⟨by rfl, fun w' hSw => by clear hSw; go_simp⟩) (by assumption) ?_
            simp only [Act.put, List.setIfInBounds_toArray, List.set_cons_zero, List.set_cons_succ]
            refine wpAnyH_ready (rs := [8]) (by kernel_rfl) (by simp) ?_
            refine AllReadyH.cons (o := { dst := none, op := Op.store 37 (Operand.tmp 56) (Operand.tmp 54), type := 0, pos := "ref.go:79", after := #[{ on := 7, ground := Ground.data }, { on := 5, ground := Ground.data }, { on := 0, ground := Ground.phase }, { on := 1, ground := Ground.phase }, { on := 2, ground := Ground.phase }, { on := 3, ground := Ground.phase }, { on := 4, ground := Ground.phase }, { on := 5, ground := Ground.phase }], guard := none }) rfl (fun K hK => ?_) (AllReadyH.nil)
            go_simp
            refine hK.out _ _ (sixg _ _ _ _ _ _ _ _ _) (fun hHeld => ?_)
            clear hK K
            try simp only [Act.put, List.setIfInBounds_toArray, List.set_cons_zero, List.set_cons_succ]
            refine wpAnyH_done (by kernel_rfl) ?_ _
            refine NoPanic.normal ?_
            go_wp2_with fail
            go_ret
            clear k1 k2 k3 k4 k5 k6 f1 f2 f3 f4 f5 f6
            rw [HV.out.1, HV.out.2]
            have hpk := HR3.out.poke (w' := _) (n' := n + 1) (f' := f.set a ⟨nx, act, xi, fi, l, un⟩) hi (x := ⟨xw, ⟨nx, xa, xc, act⟩, xi, fi, l, un⟩) (by rw [HX.out]) (by rw [HX.out]) (sixg W3 g (i * 7 + 1) (.int .i64 nx) (.slice xa act.length xc) (.int .i64 xi) (.int .i64 fi) (.int .i64 l) (.int .i64 un)) (rpoke6 (W := W3) HR3.out.h rfl hi ⟨xw, ⟨nx, xa, xc, act⟩, xi, fi, l, un⟩ (by rw [HX.out])) (by rw [HWI.out]; rfl) (Nat.le_succ n) HFO.out
            exact ⟨rfl, ⟨_, _, _, hpk⟩, (HOY.out.trans (HOB.out.mono (T := Y) (fun _ _ h => h.elim)) (fun _ _ h => h)).trans ((sixg W3 g (i * 7 + 1) _ _ _ _ _ _).mono (fun k _ e => by rw [e]; exact HYG.out)) (fun _ _ h => h)⟩
          | true =>
            simp only [if_true] at hv hfo
            have HV := hide hv
            have HFO := hide hfo
            clear hv hfo
            go_upto_region 12 with fail
            have HB : Hid (Cb (w2.alloc (.cells #[.int .i64 nx, .slice xa act.length xc, .int .i64 xi, .int .i64 fi, .int .i64 l, .int .i64 (un + 1)] 37)) w2.heap.size [.int .i64 nx, .slice xa act.length xc, .int .i64 xi, .int .i64 fi, .int .i64 l, .int .i64 (un + 1)]) := Cb.new w2 _ _
            have HOB := hide (onlyA w2 #[.int .i64 nx, .slice xa act.length xc, .int .i64 xi, .int .i64 fi, .int .i64 l, .int .i64 (un + 1)] 37)
            have HR3 := hide (HR2.out.more HOB.out)
            obtain ⟨W3, hW3⟩ : ∃ x, w2.alloc (.cells #[.int .i64 nx, .slice xa act.length xc, .int .i64 xi, .int .i64 fi, .int .i64 l, .int .i64 (un + 1)] 37) = x := ⟨_, rfl⟩
            rw [hW3] at HB HOB HR3 ⊢
            obtain ⟨b, hb⟩ : ∃ b, w2.heap.size = b := ⟨_, rfl⟩
            have HBE := hide hb
            have HGB : Hid (g ≠ w2.heap.size) := by have := HGL.out; unfold Hid; omega
            rw [hb] at HB ⊢
            clear hW3 hb c0 k1 k2 k3 k4 k5 k6
            obtain ⟨g9, eg, _, _, _, _, _, k1, k2, k3, k4, k5, k6⟩ := HR3.out.row hi
            injection eg with eg
            injection eg with eg
            subst eg
            have f1 : W3.frozen? ⟨g, i * 7 + 1, none⟩ = false := World.ownsRow.frozenAt HR3.out.h _
            have f2 : W3.frozen? ⟨g, i * 7 + 2, none⟩ = false := World.ownsRow.frozenAt HR3.out.h _
            have f3 : W3.frozen? ⟨g, i * 7 + 3, none⟩ = false := World.ownsRow.frozenAt HR3.out.h _
            have f4 : W3.frozen? ⟨g, i * 7 + 4, none⟩ = false := World.ownsRow.frozenAt HR3.out.h _
            have f5 : W3.frozen? ⟨g, i * 7 + 5, none⟩ = false := World.ownsRow.frozenAt HR3.out.h _
            have f6 : W3.frozen? ⟨g, i * 7 + 6, none⟩ = false := World.ownsRow.frozenAt HR3.out.h _
            have HCL : Hid (∀ W, Only (fun k => k = g) W3 W → W.cell? ⟨r, 0, none⟩ = some (.slice (some ⟨g, 0, none⟩) R.length cp)) := fun W ho => (ho.cell (p := ⟨r, 0, none⟩) HR3.out.lt (fun e => HGR.out e.symm)).trans HR3.out.c0
            have HBL : Hid (∀ W, Only (fun k => k = g) W3 W → Cb W b [.int .i64 nx, .slice xa act.length xc, .int .i64 xi, .int .i64 fi, .int .i64 l, .int .i64 (un + 1)]) := fun W ho => HB.out.kept ho (fun e => HGB.out (e.symm.trans HBE.out.symm))
            refine wp_region_noPanic ?_
            refine wp_region_held_drew (S := fun W => Only (fun k => k = g) W3 W) (by kernel_rfl) (Only.drew _ W3) (fun hHeld => ?_)
            refine wpAnyH_take (i := 0) (oi := { dst := some 49, op := Op.move (Operand.tmp 0), type := 25, pos := "ref.go:79", after := #[], guard := none }) (v := .pointer (some ⟨r, 0, none⟩)) rfl (by kernel_rfl) (by kernel_rfl) (by kernel_rfl) (fun _ _ _ h => h) (Or.inl ⟨by rfl, fun w' hSw => by clear hSw; go_simp⟩) (by assumption) ?_
            simp only [Act.put, List.setIfInBounds_toArray, List.set_cons_zero, List.set_cons_succ]
            refine wpAnyH_take (i := 4) (oi := { dst := some 53, op := Op.move (Operand.tmp 9), type := 3, pos := "ref.go:79", after := #[], guard := none }) (v := .int .i64 (i : Int)) rfl (by kernel_rfl) (by kernel_rfl) (by kernel_rfl) (fun _ _ _ h => h) (Or.inl ⟨by rfl, fun w' hSw => by clear hSw; go_simp⟩) (by assumption) ?_
            simp only [Act.put, List.setIfInBounds_toArray, List.set_cons_zero, List.set_cons_succ]
            refine wpAnyH_take (i := 5) (oi := { dst := some 54, op := Op.load 37 (Operand.tmp 11), type := 37, pos := "ref.go:79", after := #[], guard := none }) (v := .agg #[.int .i64 nx, .slice xa act.length xc, .int .i64 xi, .int .i64 fi, .int .i64 l, .int .i64 (un + 1)]) rfl (by kernel_rfl) (by kernel_rfl) (by kernel_rfl) (fun _ _ _ h => h) (yieldsIf_load_tx (by rfl) _ rfl _ rfl (fun W hW => HBL.out W hW)) (by assumption) ?_
            simp only [Act.put, List.setIfInBounds_toArray, List.set_cons_zero, List.set_cons_succ]
            refine wpAnyH_take (i := 1) (oi := { dst := some 50, op := Op.nilCheck (Operand.tmp 49), type := 0, pos := "ref.go:79", after := #[{ on := 0, ground := Ground.data }], guard := none }) (v := .pointer (some ⟨r, 0, none⟩)) rfl (by kernel_rfl) (by kernel_rfl) (by kernel_rfl) (fun _ _ _ h => h) (Or.inl ⟨by rfl, fun w' hSw => by clear hSw; go_simp⟩) (by assumption) ?_
            simp only [Act.put, List.setIfInBounds_toArray, List.set_cons_zero, List.set_cons_succ]
            refine wpAnyH_take (i := 2) (oi := { dst := some 51, op := Op.fieldAddr 66 (Operand.tmp 50) 0, type := 0, pos := "ref.go:79", after := #[{ on := 1, ground := Ground.data }], guard := none }) (v := .pointer (some ⟨r, 0, none⟩)) rfl (by kernel_rfl) (by kernel_rfl) (by kernel_rfl) (fun _ _ _ h => h) (Or.inl ⟨by rfl, fun w' hSw => by clear hSw; go_simp⟩) (by assumption) ?_
            simp only [Act.put, List.setIfInBounds_toArray, List.set_cons_zero, List.set_cons_succ]
            refine wpAnyH_take (i := 3) (oi := { dst := some 52, op := Op.load 64 (Operand.tmp 51), type := 64, pos := "ref.go:79", after := #[{ on := 2, ground := Ground.data }], guard := none }) (v := .slice (some ⟨g, 0, none⟩) R.length cp) rfl (by kernel_rfl) (by kernel_rfl) (by kernel_rfl) (fun _ _ _ h => h) (yieldsIf_load_cellT (by rfl) 64 _ rfl _ rfl (fun W hW => HCL.out W hW) (fun W hc => ld_rxrows hc)) (by assumption) ?_
            simp only [Act.put, List.setIfInBounds_toArray, List.set_cons_zero, List.set_cons_succ]
            refine wpAnyH_take (i := 6) (oi := { dst := some 55, op := Op.indexAddr 64 (Operand.tmp 52) (Operand.tmp 53), type := 0, pos := "ref.go:79", after := #[{ on := 3, ground := Ground.data }, { on := 4, ground := Ground.data }, { on := 0, ground := Ground.phase }, { on := 1, ground := Ground.phase }, { on := 2, ground := Ground.phase }, { on := 3, ground := Ground.phase }, { on := 4, ground := Ground.phase }, { on := 5, ground := Ground.phase }], guard := none }) (v := .pointer (some ⟨g, (i * 7), none⟩)) rfl (by kernel_rfl) (by kernel_rfl) (by kernel_rfl) (fun _ _ _ h => h) (Or.inl ⟨by rfl, fun w' hSw => by clear hSw; go_simp⟩) (by assumption) ?_
            simp only [Act.put, List.setIfInBounds_toArray, List.set_cons_zero, List.set_cons_succ]
            refine wpAnyH_take (i := 7) (oi := { dst := some 56, op := Op.fieldAddr 75 (Operand.tmp 55) 1, type := 0, pos := "ref.go:79", after := #[{ on := 6, ground := Ground.data }, { on := 0, ground := Ground.phase }, { on := 1, ground := Ground.phase }, { on := 2, ground := Ground.phase }, { on := 3, ground := Ground.phase }, { on := 4, ground := Ground.phase }, { on := 5, ground := Ground.phase }], guard := none }) (v := .pointer (some ⟨g, i * 7 + 1, none⟩)) rfl (by kernel_rfl) (by kernel_rfl) (by kernel_rfl) (fun _ _ _ h => h) (Or.inl ⟨by rfl, fun w' hSw => by clear hSw; go_simp⟩) (by assumption) ?_
            simp only [Act.put, List.setIfInBounds_toArray, List.set_cons_zero, List.set_cons_succ]
            refine wpAnyH_ready (rs := [8]) (by kernel_rfl) (by simp) ?_
            refine AllReadyH.cons (o := { dst := none, op := Op.store 37 (Operand.tmp 56) (Operand.tmp 54), type := 0, pos := "ref.go:79", after := #[{ on := 7, ground := Ground.data }, { on := 5, ground := Ground.data }, { on := 0, ground := Ground.phase }, { on := 1, ground := Ground.phase }, { on := 2, ground := Ground.phase }, { on := 3, ground := Ground.phase }, { on := 4, ground := Ground.phase }, { on := 5, ground := Ground.phase }], guard := none }) rfl (fun K hK => ?_) (AllReadyH.nil)
            go_simp
            refine hK.out _ _ (sixg _ _ _ _ _ _ _ _ _) (fun hHeld => ?_)
            clear hK K
            try simp only [Act.put, List.setIfInBounds_toArray, List.set_cons_zero, List.set_cons_succ]
            refine wpAnyH_done (by kernel_rfl) ?_ _
            refine NoPanic.normal ?_
            go_wp2_with fail
            go_ret
            clear k1 k2 k3 k4 k5 k6 f1 f2 f3 f4 f5 f6
            rw [HV.out.1, HV.out.2]
            have hpk := HR3.out.poke (w' := _) (n' := n + 1) (f' := f.set a ⟨nx, act, xi, fi, l, (un + 1)⟩) hi (x := ⟨xw, ⟨nx, xa, xc, act⟩, xi, fi, l, (un + 1)⟩) (by rw [HX.out]) (by rw [HX.out]) (sixg W3 g (i * 7 + 1) (.int .i64 nx) (.slice xa act.length xc) (.int .i64 xi) (.int .i64 fi) (.int .i64 l) (.int .i64 (un + 1))) (rpoke6 (W := W3) HR3.out.h rfl hi ⟨xw, ⟨nx, xa, xc, act⟩, xi, fi, l, (un + 1)⟩ (by rw [HX.out])) (by rw [HWI.out]; rfl) (Nat.le_succ n) HFO.out
            exact ⟨rfl, ⟨_, _, _, hpk⟩, (HOY.out.trans (HOB.out.mono (T := Y) (fun _ _ h => h.elim)) (fun _ _ h => h)).trans ((sixg W3 g (i * 7 + 1) _ _ _ _ _ _).mono (fun k _ e => by rw [e]; exact HYG.out)) (fun _ _ h => h)⟩
end Go.Proofs.Ytmcghpeamnmbpaa
