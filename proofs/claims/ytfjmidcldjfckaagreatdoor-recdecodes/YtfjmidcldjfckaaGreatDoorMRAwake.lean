/- What awake does: the chapter's example. -/
import Derived.Test.YtfjmidcldjfckaaGreatDoorRDec
import Derived.Test.YtfjmidcldjfckaaGreatDoorMRSame
import Derived.Deep.RegionHeld3
namespace Go.Proofs.YtfjmidcldjfckaaGreatDoor
open Go.RowKit

/-- The chapter's record. -/
def sm : Rc := ⟨1, 0, 0, 8, 0, 1, 0, 0, 0, 0, ⟨#[]⟩, [], [], [], [], []⟩
theorem sm_lay : sm.lay = [1, 0, 0, 8, 0, 1, 0, 0, 0, 0, 0, 0, 0, 0, 0, 0] := by decide +kernel
theorem sm_valid : sm.valid :=
  ⟨by decide, by decide, ⟨by decide, by decide, (fun n h => by cases h), (fun n h => by cases h), (fun n h => by cases h), (fun n h => by cases h), (fun n h => by cases h)⟩, ⟨by decide, by decide, by decide, by decide, by decide, by decide⟩, rfl, by rw [sm_lay]; decide⟩
theorem sm_at (w : World) : RcAt w sm Loc.none :=
  ⟨Zs.nil _ _ _, Zs.nil _ _ _, ⟨fun _ => True, Ims.nil _ _ _ _⟩, Prs.nil _ _ _, Prs.nil _ _ _, ⟨fun _ => rfl, Nat.le_refl _, Nat.zero_le _⟩, ⟨fun _ => rfl, Nat.le_refl _, Nat.zero_le _⟩, Nat.zero_le _, ⟨by decide, by decide⟩⟩
theorem sm_len : sm.enc.length = 24 := by rw [renc_len, sm_lay]; rfl
theorem sm_3 : sm.enc.getD 3 0 = 16 := by
  have e : sm.enc = bigF 4 16 ++ (bigF 4 (sum sm.lay).toNat ++ sm.lay) := by unfold Rc.enc; rw [sm_lay]; rfl
  rw [e, show bigF 4 16 = [0, 0, 0, 16] by decide]
  rfl
theorem sm_8 : sm.enc.getD 8 0 = 1 := by
  have h1 := bigF_len 4 sm.lay.length
  have h2 := bigF_len 4 (sum sm.lay).toNat
  rw [List.getD_eq_getElem?_getD]
  unfold Rc.enc
  rw [List.getElem?_append_right (by omega), List.getElem?_append_right (by omega), h1, h2, sm_lay]
  rfl
theorem run_build_sm (w : World) : (Instr.build 28 #[(0, .int .i64 1), (3, .int .u8 8), (5, .int .i64 1)]).run Tryz.prog w = .ok (.agg (sm.cells Loc.none)) w := run_build w 28 _ _ (by kernel_rfl)
section
variable {ops : Array Oper} {rest : List Oper} {o : Oper} {a : Act} {w : World} {Q : Exit → Act → World → Prop}
theorem wpList_build_sm (hg : o.guard = none) (hop : o.op = .build 28 #[(0, .const (.int .i64 1)), (3, .const (.int .u8 8)), (5, .const (.int .i64 1))]) (h : wpList Tryz.prog ops Q rest (a.put o.dst (.agg (sm.cells Loc.none))) w) : wpList Tryz.prog ops Q (o :: rest) a w := by
  refine wpList_plain hg fun K hK => ?_
  unfold Oper.wp execOp
  have e : (#[(0, Operand.const (.int .i64 1)), (3, .const (.int .u8 8)), (5, .const (.int .i64 1))] : Array (Nat × Operand)).map (fun x => (x.1, a.eval x.2)) = #[(0, .int .i64 1), (3, .int .u8 8), (5, .int .i64 1)] := by
    simp only [List.map_toArray, List.map_cons, List.map_nil]
    rfl
  simp only [hop, e, Sem.run_bind, Sem.run_pure, Result.andThen_ok, run_build_sm]
  exact hK _ _ h
end
set_option maxRecDepth 100000 in
set_option maxHeartbeats 800000 in
theorem small_any (w : World) : Calls Tryz.prog 19 #[] w fun e w' => e = .returned (.agg (sm.cells Loc.none)) ∧ Only (fun _ => False) w w' := by
  have HTH := hide (there_new w Rc.none Loc.none)
  have HO := hide (onlyA w (.cells (Rc.none.cells Loc.none) 28))
  go_enter Tryz.func19, Tryz.ntmps19
  go_upto_region 1 with fail
  go_wp2_with (refine wpList_build_sm rfl rfl ?_; go_frame; refine wpList_put_rec rfl (.tmp 0) (.tmp 1) rfl w.heap.size rfl sm Loc.none rfl HTH.out ?_; intro W9 HW9; go_frame)
  refine bodyPost_ret (results_cell1 rfl rfl HW9.out.load) rfl ?_
  exact ⟨rfl, HO.out.trans HW9.out.only (fun i hi e => by omega)⟩
set_option maxRecDepth 100000 in
set_option maxHeartbeats 3200000 in
theorem rawake_any (w : World) : Calls Tryz.prog 7 #[] w fun e w' => e = .returned (.bool true) ∧ Only (fun _ => False) w w' := by
  obtain ⟨E, hE⟩ : ∃ E, str sm.enc = E := ⟨_, rfl⟩
  have hbE : bl E = sm.enc := by rw [← hE, bl_str]
  have sE : E.size = 24 := by rw [← bl_len, hbE, sm_len]
  have h24 : 8 < E.size := by omega
  have e3 : (E[3]'(Nat.lt_trans (by decide : 3 < 8) h24)).toNat = 16 := by rw [idx, hbE, sm_3]; rfl
  have e8 : (E[8]'h24).toNat = 1 := by rw [idx, hbE, sm_8]; rfl
  have HE := hide hE
  have HBE := hide hbE
  have HSE := hide sE
  have sEi : Hid ((E.size : Int) = 24) := by unfold Hid; omega
  have HE3 := hide e3
  have HE8 := hide e8

  clear hE hbE sE e3 e8
  go_enter Tryz.func7, Tryz.ntmps7
  go_wp2_with fail
  refine (small_any w).mono ?_
  rintro e w1 ⟨rfl, ho1⟩
  have HO1 := hide ho1
  clear ho1
  go_wp2_with fail
  refine (rencode_any w1 sm Loc.none (sm_at w1)).mono ?_
  rintro e w2 hq
  have he := hq.ok sm_valid
  subst he
  rw [HE.out]
  have HO2 := hide (o2 HO1.out hq.only)
  clear hq
  go_wp2_with fail
  refine (rdecode_any w2 E (by unfold maxLen; have := HSE.out; omega)).mono ?_
  rintro e w3 hq
  obtain ⟨r, n, c, L, hd, hat, rfl⟩ := hq.ex
  have hd2 : DecIs (sm.enc ++ []) r n c := by rw [List.append_nil, ← HBE.out]; exact hd
  obtain ⟨hr, hn, hc⟩ := dec_back sm_valid (fun i hi => by cases hi) hd2
  rw [sm_len] at hn
  subst hr
  have hn' : n = 24 := hn
  clear hn
  subst hn' hc
  have HAT := hide hat
  have HO3 := hide (o2 HO2.out hq.only)
  have HNEW := hide (there_new w3 Rc.none Loc.none)
  have HOA := hide (onlyA w3 (.cells (Rc.none.cells Loc.none) 28))
  clear hq hd hd2 hat
  go_upto_region 3 with (refine wpList_lay_rec rfl (.tmp 3) (.tmp 17) rfl w3.heap.size rfl sm L rfl HNEW.out ?_; intro W3 HW3; go_frame)
  have HO4 := hide ((o2 HO3.out HOA.out).trans HW3.out.only (fun i hi e => by have := HO3.out.size; omega))
  go_wp2_with fail
  obtain ⟨X, hX⟩ : ∃ X, E.extract 0 (min (E.size : Int) 7).toNat = X := ⟨_, rfl⟩
  have bX : (bl X).length = 7 := by
    rw [← hX, ext_bl, List.drop_zero, List.length_take, bl_len]
    have := HSE.out
    omega
  have sX : X.size ≤ 7 := by rw [← bl_len, bX]; exact Nat.le_refl _
  have HBX := hide bX
  rw [hX]
  clear hX bX
  refine (rdecode_any W3 X (by unfold maxLen; omega)).mono ?_
  rintro e w5 hq
  obtain ⟨r2, n2, c2, L2, hd2, _, rfl⟩ := hq.ex
  obtain ⟨rfl, rfl, rfl⟩ := hd2.short (by have := HBX.out; omega)
  have HNEW5 := hide (there_new w5 Rc.none Loc.none)
  have HOA5 := hide (onlyA w5 (.cells (Rc.none.cells Loc.none) 28))
  have HO5 := hide hq.only
  clear hq hd2
  go_upto_region 4 with (refine wpList_lay_rec rfl (.tmp 6) (.tmp 27) rfl w5.heap.size rfl Rc.none L2 rfl HNEW5.out ?_; intro W6 HW6; go_frame)
  have HO6 : Hid (Only (fun _ => False) W3 W6) := (o2 HO5.out HOA5.out).trans HW6.out.only (fun i hi e => by have := HO5.out.size; omega)
  have HOT := hide (o2 HO4.out HO6.out)
  have HRN := hide (range_kept HW3.out.range HO6.out (fun h => h))
  have HK : Hid (Only (fun _ => False) w3 W6) := o2 (HOA.out.trans HW3.out.only (fun i hi e => by omega)) HO6.out
  have HAT6 := hide (HAT.out.go HK.out)
  obtain ⟨b3, hb3⟩ : ∃ b3, w3.heap.size = b3 := ⟨_, rfl⟩
  rw [hb3] at HRN ⊢
  have HCL : Hid (∀ W, Hid (Only (fun _ => False) W6 W) → W.cell? ⟨b3, 0, none⟩ = some (.int .i64 sm.lsn) ∧ W.cell? ⟨b3, 1, none⟩ = some (.int .i64 sm.prev) ∧ W.cell? ⟨b3, 2, none⟩ = some (.int .i64 sm.next) ∧ W.cell? ⟨b3, 3, none⟩ = some (.int .u8 sm.kind) ∧ W.cell? ⟨b3, 4, none⟩ = some (.int .i64 sm.xid) ∧ W.cell? ⟨b3, 5, none⟩ = some (.int .i64 sm.page) ∧ W.cell? ⟨b3, 6, none⟩ = some (.int .i64 sm.slot) ∧ W.cell? ⟨b3, 7, none⟩ = some (.int .i64 sm.old) ∧ W.cell? ⟨b3, 8, none⟩ = some (.int .i64 sm.new) ∧ W.cell? ⟨b3, 9, none⟩ = some (.int .i64 sm.redo) ∧ W.cell? ⟨b3, 10, none⟩ = some (.string sm.data) ∧ W.cell? ⟨b3, 11, none⟩ = some (.slice L.a1 sm.slots.length L.c1) ∧ W.cell? ⟨b3, 12, none⟩ = some (.slice L.a2 sm.more.length L.c2) ∧ W.cell? ⟨b3, 13, none⟩ = some (.slice L.a3 sm.images.length L.c3) ∧ W.cell? ⟨b3, 14, none⟩ = some (.slice L.a4 sm.pages.length L.c4) ∧ W.cell? ⟨b3, 15, none⟩ = some (.slice L.a5 sm.txns.length L.c5)) := fun W hW => by
    have hr := range_kept HRN.out hW.out (fun h => h)
    have c : ∀ j v, (sm.cl L)[j]? = some v → W.cell? ⟨b3, j, none⟩ = some v := fun j v hv => by
      have := hr j v hv
      rwa [Nat.zero_add] at this
    exact ⟨c 0 _ rfl, c 1 _ rfl, c 2 _ rfl, c 3 _ rfl, c 4 _ rfl, c 5 _ rfl, c 6 _ rfl, c 7 _ rfl, c 8 _ rfl, c 9 _ rfl, c 10 _ rfl, c 11 _ rfl, c 12 _ rfl, c 13 _ rfl, c 14 _ rfl, c 15 _ rfl⟩
  have HSM : Hid (∀ W, Hid (Only (fun _ => False) W6 W) → Calls Tryz.prog 19 #[] W fun e w' => e = .returned (.agg (sm.cells Loc.none)) ∧ Hid (Only (fun _ => False) W6 w')) := fun W hW => (small_any W).mono fun e w' hx => ⟨hx.1, o2 hW.out hx.2⟩
  have HSA : Hid (∀ W, Hid (Only (fun _ => False) W6 W) → Calls Tryz.prog 20 #[.agg (sm.cells L), .agg (sm.cells Loc.none)] W fun e w' => e = .returned (.bool true) ∧ Hid (Only (fun _ => False) W6 w')) := fun W hW => (rsame_any W sm sm L Loc.none (HAT6.out.go hW.out) (sm_at W)).mono fun e w' hx => by
    obtain ⟨c, hc, hp⟩ := hx.1.ex
    rw [hp.2 rfl] at hc
    exact ⟨hc, o2 hW.out hx.2⟩
  have HCK : Hid (∀ W, Hid (Only (fun _ => False) W6 W) → Calls Tryz.prog 21 #[.agg (Rc.none.cells Loc.none)] W fun e w' => e = .returned (.int .i64 41) ∧ Hid (Only (fun _ => False) W6 w')) := fun W hW => (rcheck_any W Rc.none Loc.none (none_at W)).mono fun e w' hx => by
    obtain ⟨o, ho, he⟩ := hx.ex
    rw [ho.kind (by decide)] at he
    exact ⟨he, o2 hW.out hx.only⟩
  have e3 := HE3.out
  have e8 := HE8.out
  have se := sEi.out
  obtain ⟨d0, d1, d2, d3, d4, d5, d6, d7, d8, d9, d10, d11, d12, d13, d14, d15⟩ := HCL.out W6 (hide (Only.refl _ _))
  clear hb3 sX
  go_region_held3 (fun W => (W.cell? ⟨b3, 0, none⟩ = some (.int .i64 sm.lsn) ∧ W.cell? ⟨b3, 1, none⟩ = some (.int .i64 sm.prev) ∧ W.cell? ⟨b3, 2, none⟩ = some (.int .i64 sm.next) ∧ W.cell? ⟨b3, 3, none⟩ = some (.int .u8 sm.kind) ∧ W.cell? ⟨b3, 4, none⟩ = some (.int .i64 sm.xid) ∧ W.cell? ⟨b3, 5, none⟩ = some (.int .i64 sm.page) ∧ W.cell? ⟨b3, 6, none⟩ = some (.int .i64 sm.slot) ∧ W.cell? ⟨b3, 7, none⟩ = some (.int .i64 sm.old) ∧ W.cell? ⟨b3, 8, none⟩ = some (.int .i64 sm.new) ∧ W.cell? ⟨b3, 9, none⟩ = some (.int .i64 sm.redo) ∧ W.cell? ⟨b3, 10, none⟩ = some (.string sm.data) ∧ W.cell? ⟨b3, 11, none⟩ = some (.slice L.a1 sm.slots.length L.c1) ∧ W.cell? ⟨b3, 12, none⟩ = some (.slice L.a2 sm.more.length L.c2) ∧ W.cell? ⟨b3, 13, none⟩ = some (.slice L.a3 sm.images.length L.c3) ∧ W.cell? ⟨b3, 14, none⟩ = some (.slice L.a4 sm.pages.length L.c4) ∧ W.cell? ⟨b3, 15, none⟩ = some (.slice L.a5 sm.txns.length L.c5)))
    (go_keep)
    (first
      | (go_at_call 19; refine (HSM.out _ (hide (Only.drew _ _))).mono ?_; rintro e x1 ⟨rfl, HX1⟩; obtain ⟨f0, f1, f2, f3, f4, f5, f6, f7, f8, f9, f10, f11, f12, f13, f14, f15⟩ := HCL.out _ HX1)
      | (go_at_call 20; refine (HSA.out _ HX1).mono ?_; rintro e x2 ⟨rfl, HX2⟩; obtain ⟨g0, g1, g2, g3, g4, g5, g6, g7, g8, g9, g10, g11, g12, g13, g14, g15⟩ := HCL.out _ HX2)
      | (go_at_call 21; refine (HCK.out _ HX2).mono ?_; rintro e x3 ⟨rfl, HX3⟩; obtain ⟨k0, k1, k2, k3, k4, k5, k6, k7, k8, k9, k10, k11, k12, k13, k14, k15⟩ := HCL.out _ HX3))
  all_goals go_wp2_with fail
  all_goals go_ret
  all_goals exact ⟨ret_bool (by simp), o2 HOT.out HX3.out⟩
end Go.Proofs.YtfjmidcldjfckaaGreatDoor
