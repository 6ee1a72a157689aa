/- Parts. -/
import Derived.Test.YtajjakljheafjaaGreatK31
set_option maxRecDepth 100000
namespace Go.Proofs.YtajjakljheafjaaGreat
open Go.RowKit
/-- Behind a leaf that was shown. -/
def Pn.thr (P : Pn) (A : Option Addr) (C : Nat) (L : List En) (m : Bool) (r er : Int) : Pn := if er = 0 then (P.lf A C L m r).lko else P.fl 60
set_option maxRecDepth 100000 in
set_option maxHeartbeats 1600000 in
theorem lookThrough_any (w : World) (Z : Nat → Prop) (p : Nat) (P : Pn) (h : Pm w Z p P) (hown : I64 P.own) (V : Vv) (B : Pv) (fa : Option Addr) (fn fc : Nat) (hk : P.key.size ≤ 24) (L : List En) (mr : Bool) (er : Int) (hL : L.length ≤ 1000000)
    (hH : ∀ W, Only (fun _ => False) w W → Calls Tryz.prog 93 #[.agg B.ar, .string P.key, .string P.blw] W fun x w' => HtA W w' x L mr er) :
    Calls Tryz.prog 51 #[.pointer (some ⟨p, 0, none⟩), .agg V.ar, .agg B.ar, .slice fa fn fc] w (SQ w Z p (fun P' cs is => is = false ∧ cs = Hr.none.cl ∧ ∃ A C, L.length ≤ C ∧ P' = P.thr A C L mr B.r er)) := by
  have H3 := hide (St3.new w V B)
  have HO := hide H3.out.only
  have HH := hide (h.more HO.out)
  have HHT := hide hH
  have HK := hide hk
  have HL := hide hL
  have HOW := hide hown
  have HZW := hide h.zlt
  clear h hH hk hL hown
  unfold Vv.ar Pv.ar at *
  go_enter Tryz.func51, Tryz.ntmps51
  go_upto_region 1 with fail
  obtain ⟨W0, hW0⟩ : ∃ y, ((w.alloc (.cells #[.int .i64 V.m, .int .i64 V.nx, .slice V.aA V.nA V.cA, .int .i64 V.ow, .slice V.aR V.nR V.cR, .int .i64 V.l, .int .i64 V.k, .int .i64 V.v, .int .i64 V.r, .string V.h, .slice V.aP V.nP V.cP] 42)).alloc (.cells #[.int .i64 B.a, .int .i64 B.k, .int .i64 B.v, .int .i64 B.r, .string B.h, .slice B.ao B.n B.cp] 37)).alloc (.cells Hr.none.cells 50) = y := ⟨_, rfl⟩
  rw [hW0] at H3 HO HH ⊢
  clear hW0
  refine wp_region_noPanic ?_
  refine wp_region_held_drew (S := fun W => Only (fun _ => False) W0 W) (by kernel_rfl) (Only.drew _ _) (fun hHeld => ?_)
  refine wpAnyH_take (i := 0) (oi := { dst := some 14, op := Op.load 37 (Operand.tmp 6), type := 37, pos := "look.go:66", after := #[], guard := none }) (v := .agg #[.int .i64 B.a, .int .i64 B.k, .int .i64 B.v, .int .i64 B.r, .string B.h, .slice B.ao B.n B.cp]) rfl (by kernel_rfl) (by kernel_rfl) (by kernel_rfl) (fun _ _ _ h => h) (yieldsIf_load_page (by rfl) _ rfl _ rfl (fun W hW => (H3.out.more hW).pb.pag)) (by assumption) ?_
  simp only [Act.put, List.setIfInBounds_toArray, List.set_cons_zero, List.set_cons_succ]
  refine wpAnyH_take (i := 1) (oi := { dst := some 15, op := Op.move (Operand.tmp 0), type := 27, pos := "look.go:66", after := #[], guard := none }) (v := .pointer (some ⟨p, 0, none⟩)) rfl (by kernel_rfl) (by kernel_rfl) (by kernel_rfl) (fun _ _ _ h => h) (Or.inl ⟨by rfl, fun w' hSw => by clear hSw; go_simp⟩) (by assumption) ?_
  simp only [Act.put, List.setIfInBounds_toArray, List.set_cons_zero, List.set_cons_succ]
  refine wpAnyH_take (i := 6) (oi := { dst := some 20, op := Op.move (Operand.tmp 0), type := 27, pos := "look.go:66", after := #[], guard := none }) (v := .pointer (some ⟨p, 0, none⟩)) rfl (by kernel_rfl) (by kernel_rfl) (by kernel_rfl) (fun _ _ _ h => h) (Or.inl ⟨by rfl, fun w' hSw => by clear hSw; go_simp⟩) (by assumption) ?_
  simp only [Act.put, List.setIfInBounds_toArray, List.set_cons_zero, List.set_cons_succ]
  refine wpAnyH_take (i := 2) (oi := { dst := some 16, op := Op.nilCheck (Operand.tmp 15), type := 0, pos := "look.go:66", after := #[{ on := 1, ground := Ground.data }], guard := none }) (v := .pointer (some ⟨p, 0, none⟩)) rfl (by kernel_rfl) (by kernel_rfl) (by kernel_rfl) (fun _ _ _ h => h) (Or.inl ⟨by rfl, fun w' hSw => by clear hSw; go_simp⟩) (by assumption) ?_
  simp only [Act.put, List.setIfInBounds_toArray, List.set_cons_zero, List.set_cons_succ]
  refine wpAnyH_take (i := 3) (oi := { dst := some 17, op := Op.fieldAddr 96 (Operand.tmp 16) 0, type := 0, pos := "look.go:66", after := #[{ on := 2, ground := Ground.data }], guard := none }) (v := .pointer (some ⟨p, 0, none⟩)) rfl (by kernel_rfl) (by kernel_rfl) (by kernel_rfl) (fun _ _ _ h => h) (Or.inl ⟨by rfl, fun w' hSw => by clear hSw; go_simp⟩) (by assumption) ?_
  simp only [Act.put, List.setIfInBounds_toArray, List.set_cons_zero, List.set_cons_succ]
  refine wpAnyH_take (i := 4) (oi := { dst := some 18, op := Op.fieldAddr 24 (Operand.tmp 17) 1, type := 0, pos := "look.go:66", after := #[{ on := 3, ground := Ground.data }], guard := none }) (v := .pointer (some ⟨p, 1, none⟩)) rfl (by kernel_rfl) (by kernel_rfl) (by kernel_rfl) (fun _ _ _ h => h) (Or.inl ⟨by rfl, fun w' hSw => by clear hSw; go_simp⟩) (by assumption) ?_
  simp only [Act.put, List.setIfInBounds_toArray, List.set_cons_zero, List.set_cons_succ]
  refine wpAnyH_take (i := 5) (oi := { dst := some 19, op := Op.load 9 (Operand.tmp 18), type := 9, pos := "look.go:66", after := #[{ on := 4, ground := Ground.data }], guard := none }) (v := .string P.key) rfl (by kernel_rfl) (by kernel_rfl) (by kernel_rfl) (fun _ _ _ h => h) (yieldsIf_load_cell (by rfl) 9 _ rfl _ rfl (fun W hW => (HH.out.more hW).cb.c 1 _ rfl) (fun W hc => ld_string hc)) (by assumption) ?_
  simp only [Act.put, List.setIfInBounds_toArray, List.set_cons_zero, List.set_cons_succ]
  refine wpAnyH_ready (rs := [7]) (by kernel_rfl) (by simp) ?_
  refine AllReadyH.cons (o := { dst := some 21, op := Op.call { callee := Callee.value (Operand.func 94), args := #[Operand.tmp 20], argTypes := #[27] }, type := 9, pos := "look.go:66", after := #[{ on := 6, ground := Ground.data }], guard := none }) rfl (fun K hK => ?_) (AllReadyH.nil)
  go_simp
  refine (belowP_any _ Z p P (HH.out.more hHeld) HK.out).mono ?_
  rintro x w1 ⟨rfl, h1⟩
  obtain rfl := h1.symm
  refine hK.out _ _ (hHeld) (fun hHeld => ?_)
  clear hK K
  try simp only [Act.put, List.setIfInBounds_toArray, List.set_cons_zero, List.set_cons_succ]
  refine wpAnyH_ready (rs := [8]) (by kernel_rfl) (by simp) ?_
  refine AllReadyH.cons (o := { dst := some 22, op := Op.call { callee := Callee.value (Operand.func 93), args := #[Operand.tmp 14, Operand.tmp 19, Operand.tmp 21], argTypes := #[37, 9, 9] }, type := 174, pos := "look.go:66", after := #[{ on := 0, ground := Ground.data }, { on := 5, ground := Ground.data }, { on := 7, ground := Ground.data }, { on := 7, ground := Ground.chain }], guard := none }) rfl (fun K hK => ?_) (AllReadyH.nil)
  go_simp
  refine (HHT.out _ (o2 HO.out hHeld)).mono ?_
  rintro x w2 ⟨A, C, rfl, hE, ho⟩
  have HE := hide hE
  have HO2 := hide (o2 hHeld ho)
  have HOC := hide hHeld
  have HOD := hide ho
  clear hE ho
  refine hK.out _ _ (HO2.out) (fun hHeld => ?_)
  clear hK K
  try simp only [Act.put, List.setIfInBounds_toArray, List.set_cons_zero, List.set_cons_succ]
  refine wpAnyH_take (i := 9) (oi := { dst := some 13, op := Op.move (Operand.tmp 22), type := 174, pos := "look.go:66", after := #[{ on := 8, ground := Ground.data }], guard := none }) (v := .tuple #[.slice A L.length C, .bool mr, .int .i64 er]) rfl (by kernel_rfl) (by kernel_rfl) (by kernel_rfl) (fun _ _ _ h => h) (Or.inl ⟨by rfl, fun w' hSw => by clear hSw; go_simp⟩) (by assumption) ?_
  simp only [Act.put, List.setIfInBounds_toArray, List.set_cons_zero, List.set_cons_succ]
  refine wpAnyH_take (i := 10) (oi := { dst := some 23, op := Op.extract (Operand.tmp 13) 0, type := 92, pos := "look.go:66", after := #[{ on := 9, ground := Ground.data }], guard := none }) (v := .slice A L.length C) rfl (by kernel_rfl) (by kernel_rfl) (by kernel_rfl) (fun _ _ _ h => h) (Or.inl ⟨by rfl, fun w' hSw => by clear hSw; go_simp⟩) (by assumption) ?_
  simp only [Act.put, List.setIfInBounds_toArray, List.set_cons_zero, List.set_cons_succ]
  refine wpAnyH_take (i := 11) (oi := { dst := some 24, op := Op.extract (Operand.tmp 13) 1, type := 4, pos := "look.go:66", after := #[{ on := 9, ground := Ground.data }, { on := 13, ground := Ground.gcOnly Departure.lateStores }], guard := none }) (v := .bool mr) rfl (by kernel_rfl) (by kernel_rfl) (by kernel_rfl) (fun _ _ _ h => h) (Or.inl ⟨by rfl, fun w' hSw => by clear hSw; go_simp⟩) (by assumption) ?_
  simp only [Act.put, List.setIfInBounds_toArray, List.set_cons_zero, List.set_cons_succ]
  refine wpAnyH_take (i := 12) (oi := { dst := some 25, op := Op.extract (Operand.tmp 13) 2, type := 28, pos := "look.go:66", after := #[{ on := 9, ground := Ground.data }, { on := 14, ground := Ground.gcOnly Departure.lateStores }], guard := none }) (v := .int .i64 er) rfl (by kernel_rfl) (by kernel_rfl) (by kernel_rfl) (fun _ _ _ h => h) (Or.inl ⟨by rfl, fun w' hSw => by clear hSw; go_simp⟩) (by assumption) ?_
  simp only [Act.put, List.setIfInBounds_toArray, List.set_cons_zero, List.set_cons_succ]
  refine wpAnyH_take (i := 13) (oi := { dst := some 10, op := Op.assign (Operand.tmp 23), type := 92, pos := "look.go:66", after := #[{ on := 10, ground := Ground.data }, { on := 8, ground := Ground.chain }, { on := 0, ground := Ground.phase }, { on := 1, ground := Ground.phase }, { on := 2, ground := Ground.phase }, { on := 3, ground := Ground.phase }, { on := 4, ground := Ground.phase }, { on := 5, ground := Ground.phase }, { on := 6, ground := Ground.phase }, { on := 7, ground := Ground.phase }, { on := 8, ground := Ground.phase }, { on := 9, ground := Ground.phase }, { on := 10, ground := Ground.phase }, { on := 11, ground := Ground.textOnly Departure.lateStores }, { on := 12, ground := Ground.textOnly Departure.lateStores }], guard := none }) (v := .slice A L.length C) rfl (by kernel_rfl) (by kernel_rfl) (by kernel_rfl) (fun _ _ _ h => h) (Or.inl ⟨by rfl, fun w' hSw => by clear hSw; go_simp⟩) (by assumption) ?_
  simp only [Act.put, List.setIfInBounds_toArray, List.set_cons_zero, List.set_cons_succ]
  refine wpAnyH_take (i := 14) (oi := { dst := some 11, op := Op.assign (Operand.tmp 24), type := 4, pos := "look.go:66", after := #[{ on := 11, ground := Ground.data }, { on := 13, ground := Ground.chain }, { on := 0, ground := Ground.phase }, { on := 1, ground := Ground.phase }, { on := 2, ground := Ground.phase }, { on := 3, ground := Ground.phase }, { on := 4, ground := Ground.phase }, { on := 5, ground := Ground.phase }, { on := 6, ground := Ground.phase }, { on := 7, ground := Ground.phase }, { on := 8, ground := Ground.phase }, { on := 9, ground := Ground.phase }, { on := 10, ground := Ground.phase }, { on := 11, ground := Ground.phase }, { on := 12, ground := Ground.textOnly Departure.lateStores }, { on := 13, ground := Ground.phase }], guard := none }) (v := .bool mr) rfl (by kernel_rfl) (by kernel_rfl) (by kernel_rfl) (fun _ _ _ h => h) (Or.inl ⟨by rfl, fun w' hSw => by clear hSw; go_simp⟩) (by assumption) ?_
  simp only [Act.put, List.setIfInBounds_toArray, List.set_cons_zero, List.set_cons_succ]
  refine wpAnyH_take (i := 15) (oi := { dst := some 12, op := Op.assign (Operand.tmp 25), type := 28, pos := "look.go:66", after := #[{ on := 12, ground := Ground.data }, { on := 14, ground := Ground.chain }, { on := 0, ground := Ground.phase }, { on := 1, ground := Ground.phase }, { on := 2, ground := Ground.phase }, { on := 3, ground := Ground.phase }, { on := 4, ground := Ground.phase }, { on := 5, ground := Ground.phase }, { on := 6, ground := Ground.phase }, { on := 7, ground := Ground.phase }, { on := 8, ground := Ground.phase }, { on := 9, ground := Ground.phase }, { on := 10, ground := Ground.phase }, { on := 11, ground := Ground.phase }, { on := 12, ground := Ground.phase }, { on := 13, ground := Ground.phase }, { on := 14, ground := Ground.phase }], guard := none }) (v := .int .i64 er) rfl (by kernel_rfl) (by kernel_rfl) (by kernel_rfl) (fun _ _ _ h => h) (Or.inl ⟨by rfl, fun w' hSw => by clear hSw; go_simp⟩) (by assumption) ?_
  simp only [Act.put, List.setIfInBounds_toArray, List.set_cons_zero, List.set_cons_succ]
  refine wpAnyH_done (by kernel_rfl) ?_ _
  refine NoPanic.normal ?_
  have H32 := hide (H3.out.more HO2.out)
  have HH2 := hide (HH.out.more HO2.out)
  have HCP := hide (ets_cap HE.out)
  have HW2 : Hid (w.heap.size + 1 + 1 < w2.heap.size) := H32.out.rb.lt
  have HE1 := hide (HE.out.base (Nat.le_trans (Nat.le_trans (by have := H3.out.rb.lt; omega) HOC.out.size) (Nat.le_refl _) : w.heap.size ≤ _))
  have HOA := hide (o2 HO.out HO2.out)
  have HZN : Hid (∀ k, Z k → ¬ k = w.heap.size + 1 + 1) := fun k q => by have := HZW.out k q; omega
  have HZP : Hid (Z p) := HH.out.zp
  have HNB : Hid (¬ (Value.slice A L.length C).ownBlock = some (w.heap.size + 1 + 1)) := fun q => by have := (World.ownsRow.lt HE.out _ q).1; have := H3.out.rb.lt; have := HOC.out.size; omega
  clear H3 HHT HK HE HO2 HOC HOD HH HO
  by_cases he : er = 0
  · have hb : (er != 0) = false := by simp [he]
    have HEZ := hide he
    clear he
    have c17 := HH2.out.cb.c 17 _ rfl
    have c18 := HH2.out.cb.c 18 _ rfl
    have c19 := HH2.out.cb.c 19 _ rfl
    have f17 := HH2.out.cb.f 17
    have f18 := HH2.out.cb.f 18
    have f19 := HH2.out.cb.f 19
    have p3 := H32.out.pb.c 3 _ rfl
    go_upto_region 5 with fail
    have HOP := hide (((Only.put w2 p 17 (.slice A L.length C)).puts 18 (.bool mr)).puts 19 (.int .i64 B.r))
    have HLF := hide (Pm.leaf HH2.out HZW.out HE1.out HOP.out (((HH2.out.cb.set 17 (.slice A L.length C)).set 18 (.bool mr)).set 19 (.int .i64 B.r)))
    obtain ⟨w3, hw3⟩ : ∃ x, ((w2.setCell ⟨p, 17, none⟩ (.slice A L.length C)).setCell ⟨p, 18, none⟩ (.bool mr)).setCell ⟨p, 19, none⟩ (.int .i64 B.r) = x := ⟨_, rfl⟩
    rw [hw3] at HOP HLF ⊢
    clear hw3 c17 c18 c19 f17 f18 f19 p3
    have HLK := hide (lookOn_any w3 _ p (P.lf A C L mr B.r) HLF.out HOW.out HL.out)
    go_wp2_with fail
    refine HLK.out.mono ?_
    rintro x w4 ⟨rfl, hp, ho⟩
    have HP4 := hide hp
    have HO4 := hide (Op.two HOP.out ho)
    clear hp ho HLK HLF HOP
    go_wp2_with fail
    refine (nothing_any _).mono ?_
    rintro x w5 ⟨rfl, ho⟩
    have HP5 := hide (HP4.out.more ho)
    have HO5 := hide (Op.fst HO4.out ho)
    have HR5 := hide (H32.out.rb.kept HO5.out (fun q => HZN.out p HZP.out q.symm))
    clear ho HP4 HO4
    unfold noRec
    go_wp2_with (refine wpList_put_cb rfl 50 (.tmp 8) (.tmp 43) rfl (w.heap.size + 1 + 1) rfl Hr.none.cl Hr.none.cl rfl Tryz.sizeRecF rfl rfl HR5.out ?_; intro W9 HW9; go_frame)
    refine bodyPost_ret (results_cb16 rfl rfl HW9.out.1 rfl) rfl ?_
    have HLW := HW2.out
    refine ⟨_, _, Hr.none.cl, false, ⟨rfl, rfl, rfl⟩, ?_, HP5.out.late HW9.out.2 ?_, ?_, rfl, rfl, A, C, HCP.out, by unfold Pn.thr; rw [if_pos HEZ.out]⟩
    · rintro b hb (q | q)
      · exact q
      · exact absurd hb (by have := (World.ownsRow.lt HE1.out b q).1; omega)
    · rintro (q | q)
      · exact HZN.out _ q rfl
      · exact HNB.out q
    · exact (((HOA.out.mono (fun _ _ e => e.elim)).trans (HO5.out.mono (fun k _ e => by rw [e]; exact HZP.out)) (fun _ _ e => e)).trans (HW9.out.2) (fun i hi e => by omega))
  · have hb : (er != 0) = true := by simp [he]
    have HEZ := hide he
    clear he
    have HF := hide (failS_any w2 Z p P HH2.out 60)
    go_wp2_with fail
    refine HF.out.mono ?_
    rintro x w4 ⟨rfl, hp, ho⟩
    have HP4 := hide hp
    have HO4 := hide ho
    have HR5 := hide (H32.out.rb.kept HO4.out (fun q => HZN.out p HZP.out q.symm))
    clear hp ho HF
    unfold noRec
    go_wp2_with (refine wpList_put_cb rfl 50 (.tmp 8) (.tmp 30) rfl (w.heap.size + 1 + 1) rfl Hr.none.cl Hr.none.cl rfl Tryz.sizeRecF rfl rfl HR5.out ?_; intro W9 HW9; go_frame)
    refine bodyPost_ret (results_cb16 rfl rfl HW9.out.1 rfl) rfl ?_
    refine ⟨Z, _, Hr.none.cl, false, ⟨rfl, rfl, rfl⟩, fun _ _ q => q, HP4.out.late HW9.out.2 (fun q => HZN.out _ q rfl), ?_, rfl, rfl, A, C, HCP.out, by unfold Pn.thr; rw [if_neg HEZ.out]⟩
    exact (((HOA.out.mono (fun _ _ e => e.elim)).trans (HO4.out.mono (fun k _ e => by rw [e]; exact HZP.out)) (fun _ _ e => e)).trans (HW9.out.2) (fun i hi e => by omega))
end Go.Proofs.YtajjakljheafjaaGreat
