/- The law's snaps, at equals. -/
import Derived.Test.YtmcghpeamnmbpaaOSame
import Derived.Test.YtmcghpeamnmbpaaOBegin
namespace Go.Proofs.Ytmcghpeamnmbpaa
open Go.RowKit Go.Maps

theorem load_snA {w : World} {b o : Nat} {v0 v1 : Value} (c0 : w.cell? ⟨b, o, none⟩ = some v0) (c1 : w.cell? ⟨b, o + 1, none⟩ = some v1) : (loadVar 29 ⟨b, o, none⟩).run Try.prog w = .ok (.agg #[v0, v1]) w := by
  simp [loadVar, go_sem, c0, c1]
theorem yieldsIf_load_snA {ops : Array Oper} {S : World → Prop} {op : Oper} {a : Act} {v0 v1 : Value} (hw : Region.wanted op (yielded ops a.tmps) = true) (x : Operand) (ho : op.op = .load 29 x)
    (b o : Nat) (hx : a.eval x = .pointer (some ⟨b, o, none⟩)) (hS : ∀ w, S w → w.cell? ⟨b, o, none⟩ = some v0 ∧ w.cell? ⟨b, o + 1, none⟩ = some v1) : YieldsIf Try.prog ops S op (.agg #[v0, v1]) a :=
  .inl ⟨hw, fun w hw' => by
    unfold execOp
    simp only [ho, hx, Instr.loadAt, Instr.sureAddr, Sem.run_bind, Sem.run_pure, Result.andThen_ok, load_snA (hS w hw').1 (hS w hw').2]⟩
set_option maxRecDepth 100000 in
set_option maxHeartbeats 1600000 in
theorem lsnaps_eq (w : World) (b1 b2 : Nat) (Q1 Q2 : Nat → Prop) (a1 a2 : Option Addr) (c1 c2 k : Nat) (S1 S2 : List Sp) (hp : S1.map Sp.p = S2.map Sp.p) (k1 : S1.length = k) (k2 : S2.length = k) (h1 : SRow w b1 (.slice a1 S1.length c1) S1) (h2 : SRow w b2 (.slice a2 S2.length c2) S2) (n1 : ∀ s ∈ S1, Nm w Q1 s.ao s.act) (n2 : ∀ s ∈ S2, Nm w Q2 s.ao s.act) (hlen : k ≤ 4398046511104) :
    Calls Try.prog 29 #[.slice a1 k c1, .slice a2 k c2] w fun e w' => e = .returned (.bool true) ∧ Only (fun _ => False) w w' := by
  have H1 := hide h1
  have H2 := hide h2
  have HP := hide hp
  have HK1 := hide k1
  have HK2 := hide k2
  have HN1 := hide n1
  have HN2 := hide n2
  clear h1 h2 hp k1 k2 n1 n2
  go_enter Try.func29, Try.ntmps29
  go_wp2_with fail
  go_loopw [5] (fun y wr => ∃ (j : Nat), j ≤ k ∧ y = .int .i64 (j : Int) ∧ Hid (Only (fun _ => False) w wr)) (fun y _ => k - (intOf y).toNat)
  case atStart => exact ⟨0, by omega, rfl, hide (Only.refl _ _)⟩
  case round =>
    obtain ⟨j, hj, rfl, HO⟩ := hrel
    by_cases hlt : j < k
    · have hj1 : j < S1.length := by have := HK1.out; omega
      have hj2 : j < S2.length := by have := HK2.out; omega
      obtain ⟨g1, rfl, _, _, _, q1⟩ := (H1.out.more HO.out).at_ hj1
      obtain ⟨g2, rfl, _, _, _, q2⟩ := (H2.out.more HO.out).at_ hj2
      have u0 : wr.cell? ⟨g1, j * 2 + 0, none⟩ = some (.int .i64 S1[j].nx) := q1 0 _ (by decide) rfl
      have u1 : wr.cell? ⟨g1, j * 2 + 1, none⟩ = some S1[j].v := q1 1 _ (by decide) rfl
      have v0 : wr.cell? ⟨g2, j * 2 + 0, none⟩ = some (.int .i64 S2[j].nx) := q2 0 _ (by decide) rfl
      have v1 : wr.cell? ⟨g2, j * 2 + 1, none⟩ = some S2[j].v := q2 1 _ (by decide) rfl
      have hpj : S1[j].p = S2[j].p := by
        have e := congrArg (fun l => l[j]?) HP.out
        simp only [List.getElem?_map, List.getElem?_eq_getElem hj1, List.getElem?_eq_getElem hj2, Option.map_some] at e
        exact Option.some.inj e
      have m1 := (HN1.out S1[j] (List.getElem_mem hj1)).more HO.out
      have m2 := (HN2.out S2[j] (List.getElem_mem hj2)).more HO.out
      obtain ⟨s1, hs1⟩ : ∃ s, S1[j] = s := ⟨_, rfl⟩
      obtain ⟨s2, hs2⟩ : ∃ s, S2[j] = s := ⟨_, rfl⟩
      rw [hs1] at u0 u1 hpj m1
      rw [hs2] at v0 v1 hpj m2
      obtain ⟨nx, x1, y1, act⟩ := s1
      obtain ⟨nx2, x2, y2, act2⟩ := s2
      unfold Sp.p at hpj
      simp only [Prod.mk.injEq] at hpj
      obtain ⟨rfl, rfl⟩ := hpj
      unfold Sp.v at u1 v1
      simp only [Nat.add_zero] at u0 u1 v0 v1 m1 m2
      have hg1 : g1 < wr.heap.size := World.block_lt_of_cell? wr _ u0
      have hg2 : g2 < wr.heap.size := World.block_lt_of_cell? wr _ v0
      have HU : Hid (∀ W, Only (fun _ => False) wr W → W.cell? ⟨g1, j * 2, none⟩ = some (.int .i64 nx) ∧ W.cell? ⟨g1, j * 2 + 1, none⟩ = some (.slice x1 act.length y1)) := fun W ho => ⟨(ho.cell (p := ⟨g1, j * 2, none⟩) hg1 id).trans u0, (ho.cell (p := ⟨g1, j * 2 + 1, none⟩) hg1 id).trans u1⟩
      have HV : Hid (∀ W, Only (fun _ => False) wr W → W.cell? ⟨g2, j * 2, none⟩ = some (.int .i64 nx) ∧ W.cell? ⟨g2, j * 2 + 1, none⟩ = some (.slice x2 act.length y2)) := fun W ho => ⟨(ho.cell (p := ⟨g2, j * 2, none⟩) hg2 id).trans v0, (ho.cell (p := ⟨g2, j * 2 + 1, none⟩) hg2 id).trans v1⟩
      have HC : Hid (∀ W, Only (fun _ => False) wr W → Calls Try.prog 38 #[.agg #[.int .i64 nx, .slice x1 act.length y1], .agg #[.int .i64 nx, .slice x2 act.length y2]] W fun e w' => e = .returned (.bool true) ∧ Only (fun _ => False) W w') := fun W ho => sameSnap_eq W Q1 Q2 nx x1 x2 y1 y2 act (m1.more ho) (m2.more ho)
      have hj0 : (0 : Int) ≤ (j : Int) := by omega
      have hj3 : (j : Int) < (k : Int) := by omega
      clear u0 u1 v0 v1 m1 m2 hs1 hs2 q1 q2 hj1 hj2 hg1 hg2
      go_upto_region 6 with fail
      refine wp_region_noPanic ?_
      refine wp_region_held_drew (S := fun W => Only (fun _ => False) wr W) (by kernel_rfl) (Only.drew _ wr) (fun hHeld => ?_)
      refine wpAnyH_take (i := 0) (oi := { dst := some 17, op := Op.move (Operand.tmp 0), type := 44, pos := "law.go:36", after := #[], guard := none }) (v := .slice (some ⟨g1, 0, none⟩) k c1) rfl (by kernel_rfl) (by kernel_rfl) (by kernel_rfl) (fun _ _ _ h => h) (Or.inl ⟨by rfl, fun w' hSw => by clear hSw; go_simp⟩) (by assumption) ?_
      simp only [Act.put, List.setIfInBounds_toArray, List.set_cons_zero, List.set_cons_succ]
      refine wpAnyH_take (i := 1) (oi := { dst := some 18, op := Op.move (Operand.tmp 5), type := 3, pos := "law.go:36", after := #[], guard := none }) (v := .int .i64 (j : Int)) rfl (by kernel_rfl) (by kernel_rfl) (by kernel_rfl) (fun _ _ _ h => h) (Or.inl ⟨by rfl, fun w' hSw => by clear hSw; go_simp⟩) (by assumption) ?_
      simp only [Act.put, List.setIfInBounds_toArray, List.set_cons_zero, List.set_cons_succ]
      refine wpAnyH_take (i := 4) (oi := { dst := some 21, op := Op.move (Operand.tmp 1), type := 44, pos := "law.go:36", after := #[], guard := none }) (v := .slice (some ⟨g2, 0, none⟩) k c2) rfl (by kernel_rfl) (by kernel_rfl) (by kernel_rfl) (fun _ _ _ h => h) (Or.inl ⟨by rfl, fun w' hSw => by clear hSw; go_simp⟩) (by assumption) ?_
      simp only [Act.put, List.setIfInBounds_toArray, List.set_cons_zero, List.set_cons_succ]
      refine wpAnyH_take (i := 5) (oi := { dst := some 22, op := Op.move (Operand.tmp 5), type := 3, pos := "law.go:36", after := #[], guard := none }) (v := .int .i64 (j : Int)) rfl (by kernel_rfl) (by kernel_rfl) (by kernel_rfl) (fun _ _ _ h => h) (Or.inl ⟨by rfl, fun w' hSw => by clear hSw; go_simp⟩) (by assumption) ?_
      simp only [Act.put, List.setIfInBounds_toArray, List.set_cons_zero, List.set_cons_succ]
      refine wpAnyH_take (i := 2) (oi := { dst := some 19, op := Op.indexAddr 44 (Operand.tmp 17) (Operand.tmp 18), type := 0, pos := "law.go:36", after := #[{ on := 0, ground := Ground.data }, { on := 1, ground := Ground.data }], guard := none }) (v := .pointer (some ⟨g1, (j * 2), none⟩)) rfl (by kernel_rfl) (by kernel_rfl) (by kernel_rfl) (fun _ _ _ h => h) (Or.inl ⟨by rfl, fun w' hSw => by clear hSw; go_simp⟩) (by assumption) ?_
      simp only [Act.put, List.setIfInBounds_toArray, List.set_cons_zero, List.set_cons_succ]
      refine wpAnyH_take (i := 6) (oi := { dst := some 23, op := Op.indexAddr 44 (Operand.tmp 21) (Operand.tmp 22), type := 0, pos := "law.go:36", after := #[{ on := 4, ground := Ground.data }, { on := 5, ground := Ground.data }], guard := none }) (v := .pointer (some ⟨g2, (j * 2), none⟩)) rfl (by kernel_rfl) (by kernel_rfl) (by kernel_rfl) (fun _ _ _ h => h) (Or.inl ⟨by rfl, fun w' hSw => by clear hSw; go_simp⟩) (by assumption) ?_
      simp only [Act.put, List.setIfInBounds_toArray, List.set_cons_zero, List.set_cons_succ]
      refine wpAnyH_take (i := 3) (oi := { dst := some 20, op := Op.load 29 (Operand.tmp 19), type := 29, pos := "law.go:36", after := #[{ on := 2, ground := Ground.data }], guard := none }) (v := .agg #[.int .i64 nx, .slice x1 act.length y1]) rfl (by kernel_rfl) (by kernel_rfl) (by kernel_rfl) (fun _ _ _ h => h) (yieldsIf_load_snA (by rfl) _ rfl _ _ rfl (fun W hW => HU.out W hW)) (by assumption) ?_
      simp only [Act.put, List.setIfInBounds_toArray, List.set_cons_zero, List.set_cons_succ]
      refine wpAnyH_take (i := 7) (oi := { dst := some 24, op := Op.load 29 (Operand.tmp 23), type := 29, pos := "law.go:36", after := #[{ on := 6, ground := Ground.data }], guard := none }) (v := .agg #[.int .i64 nx, .slice x2 act.length y2]) rfl (by kernel_rfl) (by kernel_rfl) (by kernel_rfl) (fun _ _ _ h => h) (yieldsIf_load_snA (by rfl) _ rfl _ _ rfl (fun W hW => HV.out W hW)) (by assumption) ?_
      simp only [Act.put, List.setIfInBounds_toArray, List.set_cons_zero, List.set_cons_succ]
      refine wpAnyH_ready (rs := [8]) (by kernel_rfl) (by simp) ?_
      refine AllReadyH.cons (o := { dst := some 25, op := Op.call { callee := Callee.value (Operand.func 38), args := #[Operand.tmp 20, Operand.tmp 24], argTypes := #[29, 29] }, type := 4, pos := "law.go:36", after := #[{ on := 3, ground := Ground.data }, { on := 7, ground := Ground.data }], guard := none }) rfl (fun K hK => ?_) (AllReadyH.nil)
      go_simp
      refine (HC.out _ (Only.drew _ wr)).mono ?_
      rintro e x9 ⟨rfl, hx9⟩
      have HX9 : Hid (Only (fun _ => False) wr x9) := o2 (Only.drew _ wr) hx9
      clear hx9
      refine hK.out _ _ (HX9.out) (fun hHeld => ?_)
      clear hK K
      try simp only [Act.put, List.setIfInBounds_toArray, List.set_cons_zero, List.set_cons_succ]
      refine wpAnyH_take (i := 9) (oi := { dst := some 26, op := Op.unOp UnOp.not 4 (Operand.tmp 25), type := 4, pos := "law.go:36", after := #[{ on := 8, ground := Ground.data }], guard := none }) (v := .bool false) rfl (by kernel_rfl) (by kernel_rfl) (by kernel_rfl) (fun _ _ _ h => h) (Or.inl ⟨by rfl, fun w' hSw => by clear hSw; go_simp⟩) (by assumption) ?_
      simp only [Act.put, List.setIfInBounds_toArray, List.set_cons_zero, List.set_cons_succ]
      refine wpAnyH_done (by kernel_rfl) ?_ _
      refine NoPanic.normal ?_
      go_wp2_with fail
      exact ⟨⟨j + 1, by omega, by go_num, o2 HO.out HX9.out⟩, by simp [intOf]; omega⟩
    · go_wp2_with fail
      go_ret
      exact ⟨rfl, HO.out⟩
end Go.Proofs.Ytmcghpeamnmbpaa
