/- Package blink's Above, entriesOf, Leave. -/
import Derived.Test.YthjjkhacniebiaaGreatK41
namespace Go.Proofs.YthjjkhacniebiaaGreat
open Go.RowKit

/-- Where a way goes on: the page, and whether it is here. -/
def Nd.way (X : Nd) (v : Nat) (e : En) : Int × Bool := if byd X.hi e = true then (X.rt, false) else if X.lv = v then (0, true) else (chK X.ks e, false)
set_option maxHeartbeats 3200000 in
theorem way_nd (w : World) (a : Int) (X : Nd) (v : Nat) (e : En) (B cp : Nat) (ao : Option Addr) (hP : Nm w X B ao) (ha : 0 ≤ a ∧ a < 9223372036854775808) (he : e.ok = true) (hv : v ≤ X.lv) :
    Calls Tryz.prog 41 #[.agg #[.int .i64 a, .int .i64 3, .int .i64 X.lv, .int .i64 X.rt, .string (hiB X.hi), .slice ao X.items.length cp], .int .i64 v, e.agg] w fun x w' => x = .returned (.tuple #[.int .i64 (X.way v e).1, .bool (X.way v e).2, .int .i64 0]) ∧ Only (fun _ => False) w w' := by
  have HX := hide (pe_new w (.int .i64 a) (.int .i64 3) (.int .i64 X.lv) (.int .i64 X.rt) (.string (hiB X.hi)) (.slice ao X.items.length cp) e)
  have HCK : Hid (∀ W, Only (fun _ => False) w W → Calls Tryz.prog 24 #[.agg #[.int .i64 a, .int .i64 3, .int .i64 X.lv, .int .i64 X.rt, .string (hiB X.hi), .slice ao X.items.length cp]] W fun x w' => x = .returned (.int .i64 0) ∧ Only (fun _ => False) W w') := fun W ho => check_nd W a X B cp ao (hP.more ho) ha
  have HBY : Hid (∀ W, Only (fun _ => False) w W → Calls Tryz.prog 80 #[.agg #[.int .i64 a, .int .i64 3, .int .i64 X.lv, .int .i64 X.rt, .string (hiB X.hi), .slice ao X.items.length cp], .agg #[.string e.key, .int .i64 e.page, .int .i64 e.slot]] W fun x w' => x = .returned (.tuple #[.bool (byd X.hi e), .int .i64 0]) ∧ Only (fun _ => False) W w') := fun W ho => by
    have h := beyond_nd W a X e B cp ao (hP.more ho)
    unfold byV at h
    rw [if_pos he] at h
    exact h
  have HCH : Hid (0 < X.lv → byd X.hi e = false → ∀ W, Only (fun _ => False) w W → Calls Tryz.prog 81 #[.agg #[.int .i64 a, .int .i64 3, .int .i64 X.lv, .int .i64 X.rt, .string (hiB X.hi), .slice ao X.items.length cp], .agg #[.string e.key, .int .i64 e.page, .int .i64 e.slot]] W fun x w' => x = .returned (.tuple #[.int .i64 (chK X.ks e), .int .i64 0]) ∧ Only (fun _ => False) W w') := fun v0 hb W ho => by
    have h := child_ok W a X.lv X.rt (hiB X.hi) X.hi e B cp ao X.items X.ks ((hP.more ho).ip v0)
    unfold chV at h
    rw [if_pos ⟨he, hb⟩] at h
    exact h
  have hv1 : ¬ (v : Int) < 0 := by omega
  have hv2 : ¬ (X.lv : Int) < (v : Int) := by omega
  obtain ⟨⟨N, T⟩, hNT⟩ : ∃ q, X.way v e = q := ⟨_, rfl⟩
  rw [hNT]
  have HNT := hide hNT
  unfold Nd.way at HNT
  have HLV : Hid (X.lv = v ∨ (0 < X.lv ∧ ¬ X.lv = v)) := by unfold Hid; omega
  clear hP ha he hNT
  obtain ⟨C, hC⟩ : ∃ C, chK X.ks e = C := ⟨_, rfl⟩
  rw [hC] at HCH HNT
  obtain ⟨Y, hY⟩ : ∃ Y, byd X.hi e = Y := ⟨_, rfl⟩
  rw [hY] at HCH HNT HBY
  obtain ⟨R, hR⟩ : ∃ R, (X.rt : Int) = R := ⟨_, rfl⟩
  obtain ⟨h, hh⟩ : ∃ h, hiB X.hi = h := ⟨_, rfl⟩
  obtain ⟨n, hn⟩ : ∃ n, X.items.length = n := ⟨_, rfl⟩
  rw [hR, hh, hn] at HX HCK HBY HCH ⊢
  rw [hR] at HNT
  clear hR hh hn hC hY
  obtain ⟨L, hL⟩ : ∃ L, X.lv = L := ⟨_, rfl⟩
  rw [hL] at HX HCK HBY HCH HNT HLV hv hv2 ⊢
  clear hL
  unfold En.agg
  simp only []
  go_enter Tryz.func41, Tryz.ntmps41
  go_upto_region 1 with fail
  obtain ⟨W0, hW0⟩ : ∃ x, (w.alloc (.cells #[.int .i64 a, .int .i64 3, .int .i64 L, .int .i64 R, .string h, .slice ao n cp] 24)).alloc (.cells #[.string e.key, .int .i64 e.page, .int .i64 e.slot] 41) = x := ⟨_, rfl⟩
  rw [hW0] at HX ⊢
  clear hW0
  obtain ⟨p0, p1, p2, p3, p4, p5, _⟩ := HX.out.1
  go_wp2_with fail
  refine (HCK.out _ HX.out.2.2).mono ?_
  rintro x w1 ⟨rfl, ho⟩
  have HP1 := hide (HX.out.1.more ho)
  have HV1 := hide (HX.out.2.1.more ho)
  have HO1 := hide (o2 HX.out.2.2 ho)
  clear ho p0 p1 p2 p3 p4 p5 HX HCK
  obtain ⟨p0, p1, p2, p3, p4, p5, _⟩ := HP1.out
  obtain ⟨d0, d1, d2, _⟩ := HV1.out
  go_wp2_with fail
  refine (HBY.out _ HO1.out).mono ?_
  rintro x w2 ⟨rfl, ho⟩
  have HP2 := hide (HP1.out.more ho)
  have HV2 := hide (HV1.out.more ho)
  have HO2 := hide (o2 HO1.out ho)
  clear ho p0 p1 p2 p3 p4 p5 d0 d1 d2 HP1 HV1 HO1 HBY
  obtain ⟨p0, p1, p2, p3, p4, p5, _⟩ := HP2.out
  cases Y with
  | true =>
    have HN2 : Hid (N = R ∧ T = false) := by
      have q := HNT.out
      rw [if_pos rfl, Prod.mk.injEq] at q
      exact ⟨q.1.symm, q.2.symm⟩
    clear HNT HCH
    go_wp2_with fail
    go_ret3
    obtain ⟨rfl, rfl⟩ := HN2.out
    exact ⟨rfl, HO2.out⟩
  | false =>
    rw [if_neg (by decide)] at HNT
    rcases HLV.out with q | ⟨q1, q2⟩
    · have HN2 : Hid (N = 0 ∧ T = true) := by
        have z := HNT.out
        rw [if_pos q, Prod.mk.injEq] at z
        exact ⟨z.1.symm, z.2.symm⟩
      clear HNT HCH HLV
      have hq : ((L : Int) == (v : Int)) = true := by rw [q]; simp
      clear q
      go_wp2_with fail
      go_ret3
      obtain ⟨rfl, rfl⟩ := HN2.out
      exact ⟨rfl, HO2.out⟩
    · have HN2 : Hid (N = C ∧ T = false) := by
        have z := HNT.out
        rw [if_neg q2, Prod.mk.injEq] at z
        exact ⟨z.1.symm, z.2.symm⟩
      have HCH2 := hide (HCH.out q1 rfl)
      clear HNT HCH HLV
      have hq : ((L : Int) == (v : Int)) = false := by simpa using (fun z : (L : Int) = (v : Int) => q2 (by omega))
      clear q1 q2
      obtain ⟨d0, d1, d2, _⟩ := HV2.out
      go_wp2_with fail
      refine (HCH2.out _ HO2.out).mono ?_
      rintro x w3 ⟨rfl, ho⟩
      have HO3 := hide (o2 HO2.out ho)
      clear ho
      go_wp2_with fail
      go_ret3
      obtain ⟨rfl, rfl⟩ := HN2.out
      exact ⟨rfl, HO3.out⟩
end Go.Proofs.YthjjkhacniebiaaGreat

namespace Go.Proofs.YthjjkhacniebiaaGreat
open Go.RowKit

theorem ab_new (w : World) (r : Br) : Rg ((w.alloc (.cells r.cells 36)).alloc (.cells #[.string ⟨#[]⟩, .int .i64 0, .int .i64 0] 41)) w.heap.size 0 r.cl ∧ Ev ((w.alloc (.cells r.cells 36)).alloc (.cells #[.string ⟨#[]⟩, .int .i64 0, .int .i64 0] 41)) (w.heap.size + 1) noE ∧ Only (fun _ => False) w ((w.alloc (.cells r.cells 36)).alloc (.cells #[.string ⟨#[]⟩, .int .i64 0, .int .i64 0] 41)) := by
  refine ⟨(Rg.new w r.cells 36).more (onlyA _ _), ?_, o2 (onlyA _ _) (onlyA _ _)⟩
  have e1 := Ev.zero (w.alloc (.cells r.cells 36))
  rw [World.size_alloc] at e1
  exact e1
set_option maxRecDepth 100000 in
set_option maxHeartbeats 1600000 in
theorem above_no (w : World) (r : Br) (h : ¬ r.kind = 5 ∨ ¬ (r.il : Int) = 2) :
    Calls Tryz.prog 11 #[.agg r.cells] w fun x w' => x = .returned (.tuple #[noE.agg, .int .i64 0, .bool false]) ∧ Only (fun _ => False) w w' := by
  have HX := hide (ab_new w r)
  obtain ⟨k, pp, dd, ia, il, ic⟩ := r
  simp only [] at h
  unfold En.agg
  unfold Br.cells at HX ⊢
  simp only [] at HX ⊢
  go_enter Tryz.func11, Tryz.ntmps11
  go_upto_region 1 with fail
  obtain ⟨W0, hW0⟩ : ∃ x, (w.alloc (.cells #[.int .i64 0, .int .i64 0, .int .i64 0, .int .u8 k, .int .i64 0, .int .i64 pp, .int .i64 0, .int .i64 0, .int .i64 0, .int .i64 0, .string dd, .slice Option.none 0 0, .slice Option.none 0 0, .slice ia il ic, .slice Option.none 0 0, .slice Option.none 0 0] 36)).alloc (.cells #[.string ⟨#[]⟩, .int .i64 0, .int .i64 0] 41) = x := ⟨_, rfl⟩
  rw [hW0] at HX ⊢
  clear hW0
  have c3 := HX.out.1.cell 3 (.int .u8 k) rfl
  have c13 := HX.out.1.cell 13 (.slice ia il ic) rfl
  rw [Nat.zero_add] at c3 c13
  obtain ⟨e0, e1, e2, f0, f1, f2, _⟩ := HX.out.2.1
  by_cases hk : k = 5
  · have hi : ¬ (il : Int) = 2 := by rcases h with q | q; exact absurd hk q; exact q
    have hi2 : ((il : Int) == 2) = false := by simpa using hi
    subst hk
    clear h hi
    go_wp2_with fail
    refine bodyPost_ret (results_ev3 rfl rfl (HX.out.2.1.all noE)) rfl ?_
    exact ⟨rfl, HX.out.2.2.trans (Only.three _ _ _ _ _) (fun i hi e => by omega)⟩
  · have hk2 : (k == 5) = false := by simpa using hk
    clear h
    go_wp2_with fail
    refine bodyPost_ret (results_ev3 rfl rfl (HX.out.2.1.all noE)) rfl ?_
    exact ⟨rfl, HX.out.2.2.trans (Only.three _ _ _ _ _) (fun i hi e => by omega)⟩
set_option maxRecDepth 100000 in
set_option maxHeartbeats 3200000 in
theorem above_two (w : World) (pp : Int) (dd : ByteArray) (b ic : Nat) (p q : Int) (z1 z2 : Pz) (C3 : List Value) (e : En) (hr : Rg w b 0 (imc p z1 ++ imc q z2 ++ C3)) (hh : z1.p.high = e.enc) (he : e.ok = true) :
    Calls Tryz.prog 11 #[.agg (Br.cells ⟨5, pp, dd, some ⟨b, 0, none⟩, 2, ic⟩)] w fun x w' => x = .returned (.tuple #[e.agg, .int .i64 q, .bool true]) ∧ Only (fun _ => False) w w' := by
  have HX := hide (ab_new w ⟨5, pp, dd, some ⟨b, 0, none⟩, 2, ic⟩)
  have HD : Hid (∀ W, Calls Tryz.prog 36 #[.string e.enc] W fun x w' => x = .returned (.tuple #[.agg #[.string e.key, .int .i64 e.page, .int .i64 e.slot], .int .i64 0]) ∧ Only (fun _ => False) W w') := fun W => by
    have h := decode_any e.enc W
    rw [show decE (bl e.enc) = some e from decE_lay he] at h
    exact h
  have HR := hide hr
  have c5 := hr.cell 5 (.string z1.p.high) rfl
  have c7 := hr.cell 7 (.int .i64 q) rfl
  rw [Nat.zero_add] at c5 c7
  rw [hh] at c5
  have HBL := hide hr.lt
  clear hr hh he
  obtain ⟨S, hS⟩ : ∃ S, e.enc = S := ⟨_, rfl⟩
  rw [hS] at c5 HD
  clear hS
  unfold En.agg
  unfold Br.cells at HX ⊢
  simp only [] at HX ⊢
  go_enter Tryz.func11, Tryz.ntmps11
  go_upto_region 1 with fail
  obtain ⟨W0, hW0⟩ : ∃ x, (w.alloc (.cells #[.int .i64 0, .int .i64 0, .int .i64 0, .int .u8 5, .int .i64 0, .int .i64 pp, .int .i64 0, .int .i64 0, .int .i64 0, .int .i64 0, .string dd, .slice Option.none 0 0, .slice Option.none 0 0, .slice (some ⟨b, 0, none⟩) 2 ic, .slice Option.none 0 0, .slice Option.none 0 0] 36)).alloc (.cells #[.string ⟨#[]⟩, .int .i64 0, .int .i64 0] 41) = x := ⟨_, rfl⟩
  rw [hW0] at HX ⊢
  clear hW0
  have c3 := HX.out.1.cell 3 (.int .u8 5) rfl
  have c13 := HX.out.1.cell 13 (.slice (some ⟨b, 0, none⟩) 2 ic) rfl
  rw [Nat.zero_add] at c3 c13
  have d5 := (HX.out.2.2.cell (p := ⟨b, 5, none⟩) HBL.out (fun h => h)).trans c5
  go_wp2_with fail
  refine (HD.out _).mono ?_
  rintro x w1 ⟨rfl, ho⟩
  have HR1 := hide (HX.out.1.more ho)
  have HE1 := hide (HX.out.2.1.more ho)
  have HO1 := hide (o2 HX.out.2.2 ho)
  clear ho c3 c13 d5 HX HD
  go_upto_region 4 with fail
  have HA := hide (onlyA w1 (.cells #[.string e.key, .int .i64 e.page, .int .i64 e.slot] 41))
  have HV := hide (Ev.new w1 e)
  obtain ⟨w2, hw2⟩ : ∃ x, w1.alloc (.cells #[.string e.key, .int .i64 e.page, .int .i64 e.slot] 41) = x := ⟨_, rfl⟩
  rw [hw2] at HA HV ⊢
  clear hw2
  obtain ⟨cb, hcb⟩ : ∃ b, w1.heap.size = b := ⟨_, rfl⟩
  rw [hcb] at HV ⊢
  clear hcb
  have HR2 := hide (HR1.out.more HA.out)
  have HE2 := hide (HE1.out.more HA.out)
  have HO2 := hide (o2 HO1.out HA.out)
  clear HA HR1 HE1 HO1
  have c13 := HR2.out.cell 13 (.slice (some ⟨b, 0, none⟩) 2 ic) rfl
  rw [Nat.zero_add] at c13
  have d7 := (HO2.out.cell (p := ⟨b, 7, none⟩) HBL.out (fun h => h)).trans c7
  obtain ⟨e0, e1, e2, f0, f1, f2, _⟩ := HE2.out
  obtain ⟨g0, g1, g2, _⟩ := HV.out
  go_upto_region 6 with fail
  go_region
  all_goals go_wp2_with fail
  all_goals refine bodyPost_ret (results_ev3 rfl rfl ((HE2.out.all e).more (Only.drew _ _))) rfl ?_
  all_goals exact ⟨rfl, o2 (HO2.out.trans (Only.three _ _ _ _ _) (fun i hi e => by omega)) (Only.drew _ _)⟩
/-- A leaf's entries. -/
theorem entriesOf_nd (w : World) (a : Int) (X : Nd) (B cp : Nat) (ao : Option Addr) (hP : Nm w X B ao) (ha : 0 ≤ a ∧ a < 9223372036854775808) (hv : X.lv = 0) :
    Calls Tryz.prog 45 #[.agg #[.int .i64 a, .int .i64 3, .int .i64 0, .int .i64 X.rt, .string (hiB X.hi), .slice ao X.items.length cp]] w fun x w' => EnR w w' x X.es := by
  have HP := hide (Pag.new w (.int .i64 a) (.int .i64 3) (.int .i64 0) (.int .i64 X.rt) (.string (hiB X.hi)) (.slice ao X.items.length cp))
  have HO := hide (onlyA w (.cells #[.int .i64 a, .int .i64 3, .int .i64 0, .int .i64 X.rt, .string (hiB X.hi), .slice ao X.items.length cp] 24))
  have HCK : Hid (∀ W, Only (fun _ => False) w W → Calls Tryz.prog 24 #[.agg #[.int .i64 a, .int .i64 3, .int .i64 0, .int .i64 X.rt, .string (hiB X.hi), .slice ao X.items.length cp]] W fun x w' => x = .returned (.int .i64 0) ∧ Only (fun _ => False) W w') := fun W ho => by
    have h := check_nd W a X B cp ao (hP.more ho) ha
    rw [hv, Int.ofNat_zero] at h
    exact h
  have HEN : Hid (∀ W, Only (fun _ => False) w W → Calls Tryz.prog 52 #[.agg #[.int .i64 a, .int .i64 3, .int .i64 0, .int .i64 X.rt, .string (hiB X.hi), .slice ao X.items.length cp]] W fun x w' => EnR W w' x X.es) := fun W ho => entries_ok W a X.rt (hiB X.hi) X.hi B cp ao X.items X.es ((hP.more ho).lp hv)
  clear hP ha hv
  obtain ⟨R, hR⟩ : ∃ R, (X.rt : Int) = R := ⟨_, rfl⟩
  obtain ⟨h, hh⟩ : ∃ h, hiB X.hi = h := ⟨_, rfl⟩
  obtain ⟨n, hn⟩ : ∃ n, X.items.length = n := ⟨_, rfl⟩
  rw [hR, hh, hn] at HP HO HCK HEN ⊢
  clear hR hh hn
  go_enter Tryz.func45, Tryz.ntmps45
  go_upto_region 1 with fail
  obtain ⟨W0, hW0⟩ : ∃ x, w.alloc (.cells #[.int .i64 a, .int .i64 3, .int .i64 0, .int .i64 R, .string h, .slice ao n cp] 24) = x := ⟨_, rfl⟩
  rw [hW0] at HP HO ⊢
  clear hW0
  obtain ⟨p0, p1, p2, p3, p4, p5, _⟩ := HP.out
  go_wp2_with fail
  refine (HCK.out _ HO.out).mono ?_
  rintro x w1 ⟨rfl, ho⟩
  have HP1 := hide (HP.out.more ho)
  have HO1 := hide (o2 HO.out ho)
  clear ho p0 p1 p2 p3 p4 p5 HP HO HCK
  obtain ⟨p0, p1, p2, p3, p4, p5, _⟩ := HP1.out
  go_wp2_with fail
  refine (HEN.out _ HO1.out).mono ?_
  rintro x w2 ⟨A, C, rfl, hE, ho⟩
  have HE2 := hide (hE.base HO1.out.size)
  have HO2 := hide (o2 HO1.out ho)
  clear hE ho
  go_wp2_with fail
  go_ret2
  exact ⟨A, C, rfl, HE2.out, HO2.out⟩
theorem lv_new (w : World) (v0 v1 v2 v3 v4 v5 : Value) (e : En) : Pag (((w.alloc (.cells #[v0, v1, v2, v3, v4, v5] 24)).alloc (.cells #[.string e.key, .int .i64 e.page, .int .i64 e.slot] 41)).alloc (.cells Br.none.cells 36)) w.heap.size v0 v1 v2 v3 v4 v5 ∧ Ev (((w.alloc (.cells #[v0, v1, v2, v3, v4, v5] 24)).alloc (.cells #[.string e.key, .int .i64 e.page, .int .i64 e.slot] 41)).alloc (.cells Br.none.cells 36)) (w.heap.size + 1) e ∧ Rg (((w.alloc (.cells #[v0, v1, v2, v3, v4, v5] 24)).alloc (.cells #[.string e.key, .int .i64 e.page, .int .i64 e.slot] 41)).alloc (.cells Br.none.cells 36)) (w.heap.size + 1 + 1) 0 Br.none.cl ∧ Only (fun _ => False) w (((w.alloc (.cells #[v0, v1, v2, v3, v4, v5] 24)).alloc (.cells #[.string e.key, .int .i64 e.page, .int .i64 e.slot] 41)).alloc (.cells Br.none.cells 36)) := by
  have h := pe_new w v0 v1 v2 v3 v4 v5 e
  refine ⟨h.1.more (onlyA _ _), h.2.1.more (onlyA _ _), ?_, o2 h.2.2 (onlyA _ _)⟩
  have e1 := Rg.new ((w.alloc (.cells #[v0, v1, v2, v3, v4, v5] 24)).alloc (.cells #[.string e.key, .int .i64 e.page, .int .i64 e.slot] 41)) Br.none.cells 36
  rw [World.size_alloc, World.size_alloc] at e1
  exact e1
/-- What Leave answers of a leaf. -/
def Nd.lvV (X : Nd) (page : Int) (e : En) : Value := if e ∈ X.es then .tuple #[.agg (Br.cells ⟨4, page, e.enc, none, 0, 0⟩), .int .i64 0] else .tuple #[.agg Br.none.cells, .int .i64 150]
set_option maxRecDepth 100000 in
set_option maxHeartbeats 3200000 in
theorem leave_nd (w : World) (a page : Int) (X : Nd) (e : En) (B cp : Nat) (ao : Option Addr) (hP : Nm w X B ao) (ha : 0 ≤ a ∧ a < 9223372036854775808) (hv : X.lv = 0) :
    Calls Tryz.prog 21 #[.agg #[.int .i64 a, .int .i64 3, .int .i64 0, .int .i64 X.rt, .string (hiB X.hi), .slice ao X.items.length cp], .int .i64 page, e.agg] w fun x w' => x = .returned (X.lvV page e) ∧ Only (fun _ => False) w w' := by
  have HX := hide (lv_new w (.int .i64 a) (.int .i64 3) (.int .i64 0) (.int .i64 X.rt) (.string (hiB X.hi)) (.slice ao X.items.length cp) e)
  have HEO : Hid (∀ W, Only (fun _ => False) w W → Calls Tryz.prog 45 #[.agg #[.int .i64 a, .int .i64 3, .int .i64 0, .int .i64 X.rt, .string (hiB X.hi), .slice ao X.items.length cp]] W fun x w' => EnR W w' x X.es) := fun W ho => entriesOf_nd W a X B cp ao (hP.more ho) ha hv
  have HRS : Hid (Rise X.es ∧ X.es.length ≤ 82 ∧ X.items = X.es.map En.enc) := by
    obtain ⟨lo, ho⟩ := hP.ok
    exact ⟨ho.rise, by rw [Nd.es_len]; exact hP.few, Nd.items_leaf hv⟩
  have HIX : Hid (∀ (W : World) (A : Option Addr) (C base : Nat), Ets W base (.slice A X.es.length C) X.es → Calls Tryz.prog 48 #[.slice A X.es.length C, .agg #[.string e.key, .int .i64 e.page, .int .i64 e.slot]] W fun x w' => x = .returned (.int .i64 (idxE X.es e)) ∧ Only (fun _ => False) W w') := fun W A C base hE => by
    obtain ⟨B1, hels, hln⟩ := hE.elsOf
    exact indexE_any W B1 X.es.length C A X.es e hels hln (by have := HRS.out.2.1; omega) HRS.out.1
  have HST := hide hP.strs
  clear hP ha hv
  obtain ⟨V, hV⟩ : ∃ V, X.lvV page e = V := ⟨_, rfl⟩
  rw [hV]
  have HV := hide hV
  unfold Nd.lvV at HV
  clear hV
  obtain ⟨l, hl⟩ : ∃ l, X.items = l := ⟨_, rfl⟩
  obtain ⟨es, hes⟩ : ∃ es, X.es = es := ⟨_, rfl⟩
  obtain ⟨R, hR⟩ : ∃ R, (X.rt : Int) = R := ⟨_, rfl⟩
  obtain ⟨h, hh⟩ : ∃ h, hiB X.hi = h := ⟨_, rfl⟩
  rw [hl] at HX HEO HRS HST ⊢
  rw [hR, hh] at HX HEO ⊢
  rw [hes] at HEO HRS HIX HV
  clear hl hes hR hh
  obtain ⟨n, hn⟩ : ∃ n, l.length = n := ⟨_, rfl⟩
  have HN := hide hn
  rw [hn] at HX HEO ⊢
  clear hn
  unfold En.agg
  go_enter Tryz.func21, Tryz.ntmps21
  go_upto_region 1 with fail
  obtain ⟨W0, hW0⟩ : ∃ x, ((w.alloc (.cells #[.int .i64 a, .int .i64 3, .int .i64 0, .int .i64 R, .string h, .slice ao n cp] 24)).alloc (.cells #[.string e.key, .int .i64 e.page, .int .i64 e.slot] 41)).alloc (.cells Br.none.cells 36) = x := ⟨_, rfl⟩
  rw [hW0] at HX ⊢
  clear hW0
  obtain ⟨p0, p1, p2, p3, p4, p5, _⟩ := HX.out.1
  go_wp2_with fail
  refine (HEO.out _ HX.out.2.2.2).mono ?_
  rintro x w1 ⟨A, C, rfl, hE, ho⟩
  have HP1 := hide (HX.out.1.more ho)
  have HV1 := hide (HX.out.2.1.more ho)
  have HR1 := hide (HX.out.2.2.1.more ho)
  have HO1 := hide (o2 HX.out.2.2.2 ho)
  have HI1 := hide (HIX.out _ _ _ _ hE)
  clear ho hE p0 p1 p2 p3 p4 p5 HX HEO HIX
  obtain ⟨d0, d1, d2, _⟩ := HV1.out
  obtain ⟨I, hI⟩ : ∃ I, idxE es e = I := ⟨_, rfl⟩
  rw [hI] at HI1
  have HI := hide hI
  clear hI
  go_wp2_with fail
  refine HI1.out.mono ?_
  rintro x w2 ⟨rfl, ho⟩
  have HP2 := hide (HP1.out.more ho)
  have HR2 := hide (HR1.out.more ho)
  have HO2 := hide (o2 HO1.out ho)
  clear ho d0 d1 d2 HP1 HV1 HR1 HO1 HI1
  by_cases hm : e ∈ es
  · have hI : I = (plE es e : Int) := by rw [← HI.out]; unfold idxE; rw [if_pos hm]
    obtain ⟨h1, h2⟩ := plE_here HRS.out.1 hm
    have hI0 : ¬ I < 0 := by omega
    have hln : l.length = es.length := by rw [HRS.out.2.2, List.length_map]
    have hIb : ¬ (n : Int) ≤ I := by have := HN.out; omega
    have hIb2 : I < (n : Int) := by have := HN.out; omega
    have hIb3 : 0 ≤ I := by omega
    obtain ⟨o, rfl, hc⟩ := (HST.out.more HO2.out).at_ (by omega)
    have hcI := hc (plE es e) (by omega)
    have hle : l[plE es e]'(by omega) = e.enc := by
      have : l = es.map En.enc := HRS.out.2.2
      subst this
      rw [List.getElem_map, h2]
    rw [hle] at hcI
    have HV2 : Hid (Value.tuple #[.agg (Br.cells ⟨4, page, e.enc, none, 0, 0⟩), .int .i64 0] = V) := by
      have := HV.out
      rwa [if_pos hm] at this
    obtain ⟨D, hD⟩ : ∃ D, e.enc = D := ⟨_, rfl⟩
    rw [hD] at hcI HV2
    obtain ⟨K, hK⟩ : ∃ K, plE es e = K := ⟨_, rfl⟩
    rw [hK] at hcI hI
    subst hI
    have p5 := HP2.out.c5
    clear hc hle hm h1 h2 hln hD hK HV HI HRS HST
    go_wp2_with (refine wpList_build_out rfl (.tmp 26) (.tmp 31) rfl page D rfl rfl ?_; go_frame; refine wpList_put_br rfl (.tmp 6) (.tmp 32) rfl (w.heap.size + 1 + 1) rfl Br.none.cl rfl ⟨4, page, D, none, 0, 0⟩ rfl HR2.out ?_; intro W9 HW9; go_frame)
    refine bodyPost_ret (results_br rfl rfl HW9.out.at_) rfl ?_
    exact ⟨by rw [← HV2.out]; rfl, HO2.out.trans HW9.out.only (fun i hi e => by omega)⟩
  · have hI : I = -1 := by rw [← HI.out]; unfold idxE; rw [if_neg hm]
    have HV2 : Hid (Value.tuple #[.agg Br.none.cells, .int .i64 150] = V) := by
      have := HV.out
      rwa [if_neg hm] at this
    subst hI
    clear hm HV HI
    go_wp2_with (refine wpList_build_bnone rfl rfl ?_; go_frame; refine wpList_put_br rfl (.tmp 6) (.tmp 25) rfl (w.heap.size + 1 + 1) rfl Br.none.cl rfl Br.none rfl HR2.out ?_; intro W9 HW9; go_frame)
    refine bodyPost_ret (results_br rfl rfl HW9.out.at_) rfl ?_
    exact ⟨by rw [← HV2.out]; rfl, HO2.out.trans HW9.out.only (fun i hi e => by omega)⟩
end Go.Proofs.YthjjkhacniebiaaGreat
