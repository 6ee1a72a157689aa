/- Parts. -/
import Derived.Test.YtpnbhddmdfcjdaaGreatK51
import Derived.Test.YtpnbhddmdfcjdaaGreatK49
import Derived.Test.YtpnbhddmdfcjdaaGreatK50
set_option maxRecDepth 100000
namespace Go.Proofs.YtpnbhddmdfcjdaaGreat
open Go.RowKit
theorem slG_rise {V : Vw} {h pg : Int} {l : List ByteArray} {k : Nat} {K : Wk} (ok : WkOk V h pg l k K) : (slG K.gn).Pairwise (· < ·) := by
  unfold slG
  rw [List.pairwise_iff_getElem]
  intro i j hi hj hij
  rw [List.getElem_map, List.getElem_map]
  exact ok.rise i j (by rw [List.length_map] at hj; exact hj) hij
theorem fld_work (a b c : Option Addr) (n1 x1 n2 x2 n3 x3 : Nat) (W : World) : (Instr.field 39 (.agg #[.slice a n1 x1, .slice b n2 x2, .slice c n3 x3]) 2).run Tryz.prog W = .ok (.slice c n3 x3) W := by kernel_rfl
set_option maxRecDepth 100000 in
set_option maxHeartbeats 6400000 in
theorem sorts_law (w : World) (m fr : Int) (BO : Nat) (aO : Option Addr) (n cap : Nat) (X : Nat → Int) (S : Nat → Nat) (V : Vw) (q : Lo) (B cp : Nat) (ao : Option Addr) (l : List Sv) (hm : I64 m) (hfr : I64 fr) (hS : Sds w BO aO n X S) (hV : Sn w V q) (hl : Svs w B ao l) :
    Calls Tryz.prog 3 #[.agg #[.int .i64 m, .int .i64 fr, .slice aO n cap], .agg #[.int .i64 V.m, .int .i64 V.next, .slice q.aA V.act.length q.cA, .int .i64 V.own, .slice q.aR V.run.length q.cR, .int .i64 V.pg.lsn, .int .i64 V.pg.kind, .int .i64 V.pg.level, .int .i64 V.pg.right, .string V.pg.high, .slice q.aP V.pg.items.length q.cP], .slice ao l.length cp] w fun e w' => e = .returned (.bool true) ∧ Only (fun _ => False) w w' := by
  have HN0 := hide (xv_new w m fr (.slice aO n cap) V q)
  have HM := hide (fun W hs hn => view_any W m fr BO aO n cap X S V q hm hfr hs hn)
  have HSD := hide hS
  have HSV := hide hV
  have HSL := hide hl
  have HNX := hide hV.next
  have HAW := hide (fun W => vawake_any W)
  clear hm hfr hS hV hl
  go_enter Tryz.func3, Tryz.ntmps3
  go_upto_region 1 with fail
  obtain ⟨W0, hW0⟩ : ∃ x, (w.alloc (.cells #[.int .i64 m, .int .i64 fr, .slice aO n cap] 24)).alloc (.cells #[.int .i64 V.m, .int .i64 V.next, .slice q.aA V.act.length q.cA, .int .i64 V.own, .slice q.aR V.run.length q.cR, .int .i64 V.pg.lsn, .int .i64 V.pg.kind, .int .i64 V.pg.level, .int .i64 V.pg.right, .string V.pg.high, .slice q.aP V.pg.items.length q.cP] 32) = x := ⟨_, rfl⟩
  rw [hW0] at HN0 ⊢
  clear hW0
  obtain ⟨b4, hb4⟩ : ∃ b, w.heap.size + 1 = b := ⟨_, rfl⟩
  rw [hb4] at HN0 ⊢
  obtain ⟨b3, hb3⟩ : ∃ b, w.heap.size = b := ⟨_, rfl⟩
  rw [hb3] at HN0 ⊢
  clear hb3 hb4
  have HVB := hide HN0.out.2.1
  have HO0 := hide HN0.out.2.2
  obtain ⟨x0, x1, x2, _⟩ := HN0.out.1
  obtain ⟨vc0, vc1, vc2, vc3, vc4, vc5, vc6, vc7, vc8, vc9, vc10, _, _, _, _, _, _, _, _, _, _, _, _⟩ := HVB.out
  go_wp2_with fail
  refine (HM.out _ (HSD.out.more HO0.out) (HSV.out.more HO0.out)).mono ?_
  rintro e w1 ⟨V1, q1, ok, hq⟩
  obtain ⟨rfl, hsn1, ho1⟩ := hq
  clear x0 x1 x2 vc0 vc1 vc2 vc3 vc4 vc5 vc6 vc7 vc8 vc9 vc10 HM
  have HSN1 := hide hsn1
  have HOA1 := hide (onlyA w1 (.cells #[.int .i64 V1.m, .int .i64 V1.next, .slice q1.aA V1.act.length q1.cA, .int .i64 V1.own, .slice q1.aR V1.run.length q1.cR, .int .i64 V1.pg.lsn, .int .i64 V1.pg.kind, .int .i64 V1.pg.level, .int .i64 V1.pg.right, .string V1.pg.high, .slice q1.aP V1.pg.items.length q1.cP] 32))
  have HO1 := hide (o2 ho1 HOA1.out)
  have HV1 := hide (VB.new w1 (.int .i64 V1.m) (.int .i64 V1.next) (.slice q1.aA V1.act.length q1.cA) (.int .i64 V1.own) (.slice q1.aR V1.run.length q1.cR) (.int .i64 V1.pg.lsn) (.int .i64 V1.pg.kind) (.int .i64 V1.pg.level) (.int .i64 V1.pg.right) (.string V1.pg.high) (.slice q1.aP V1.pg.items.length q1.cP))
  have HB7 : Hid (w.heap.size ≤ w1.heap.size) := Nat.le_trans HO0.out.size ho1.size
  clear hsn1 ho1
  go_upto_region 2 with fail
  obtain ⟨W1, hW1⟩ : ∃ x, w1.alloc (.cells #[.int .i64 V1.m, .int .i64 V1.next, .slice q1.aA V1.act.length q1.cA, .int .i64 V1.own, .slice q1.aR V1.run.length q1.cR, .int .i64 V1.pg.lsn, .int .i64 V1.pg.kind, .int .i64 V1.pg.level, .int .i64 V1.pg.right, .string V1.pg.high, .slice q1.aP V1.pg.items.length q1.cP] 32) = x := ⟨_, rfl⟩
  rw [hW1] at HOA1 HO1 HV1 ⊢
  clear hW1
  obtain ⟨b7, hb7⟩ : ∃ b, w1.heap.size = b := ⟨_, rfl⟩
  have HB7E := hide hb7
  rw [hb7] at HV1 HB7 ⊢
  clear hb7
  have HO1w := hide (o2 HO0.out HO1.out)
  have HPG := hide (vlpage_any W1 B cp ao l (HSL.out.more HO1w.out))
  go_wp2_with fail
  refine HPG.out.mono ?_
  rintro e w2 ⟨vi, rfl, hr2, ho2⟩
  obtain ⟨ai, ci, rfl⟩ := hr2.form
  have HIL0 : Hid ((l.map Sv.item).length ≤ 1759218604441) := by unfold Hid; rw [List.length_map]; exact HSL.out.len
  have HISZ : Hid (∀ s ∈ l.map Sv.item, s.size ≤ 140737488355328) := fun s hs => by
    obtain ⟨z, hz, rfl⟩ := List.mem_map.1 hs
    exact item_size (HSL.out.each z hz).2.2.2
  obtain ⟨Bi, hst2, _, _⟩ := hr2.strs (by have := HIL0.out; omega) HISZ.out
  obtain ⟨L, hL⟩ : ∃ L, l.map Sv.item = L := ⟨_, rfl⟩
  rw [hL] at hst2 HIL0 ⊢
  obtain ⟨ni, hni⟩ : ∃ k, L.length = k := ⟨_, rfl⟩
  have HNI := hide hni
  rw [hni] at HIL0 ⊢
  have HO2 := hide (o2 ho2 (onlyA w2 (.cells #[.int .i64 1, .int .i64 2, .int .i64 0, .int .i64 0, .string ⟨#[]⟩, .slice ai ni ci] 30)))
  have HP2 := hide (Pag.new w2 (.int .i64 1) (.int .i64 2) (.int .i64 0) (.int .i64 0) (.string ⟨#[]⟩) (.slice ai ni ci))
  have HST2 := hide (hst2.more (onlyA w2 (.cells #[.int .i64 1, .int .i64 2, .int .i64 0, .int .i64 0, .string ⟨#[]⟩, .slice ai ni ci] 30)))
  clear hst2 hr2 ho2 hL hni HPG HSL HISZ
  go_upto_region 3 with fail
  obtain ⟨W2, hW2⟩ : ∃ x, w2.alloc (.cells #[.int .i64 1, .int .i64 2, .int .i64 0, .int .i64 0, .string ⟨#[]⟩, .slice ai ni ci] 30) = x := ⟨_, rfl⟩
  rw [hW2] at HO2 HP2 HST2 ⊢
  clear hW2
  obtain ⟨b9, hb9⟩ : ∃ b, w2.heap.size = b := ⟨_, rfl⟩
  rw [hb9] at HP2 ⊢
  clear hb9
  have HV2 := hide (HV1.out.more HO2.out)
  have HVB2 := hide (HVB.out.more (o2 HO1.out HO2.out))
  have HSN2 := hide (HSN1.out.more (o2 HOA1.out HO2.out))
  have HSO : Hid (Calls Tryz.prog 7 #[.agg #[.int .i64 V1.m, .int .i64 V1.next, .slice q1.aA V1.act.length q1.cA, .int .i64 V1.own, .slice q1.aR V1.run.length q1.cR, .int .i64 V1.pg.lsn, .int .i64 V1.pg.kind, .int .i64 V1.pg.level, .int .i64 V1.pg.right, .string V1.pg.high, .slice q1.aP V1.pg.items.length q1.cP], .int .i64 V.next, .int .i64 7, .agg #[.int .i64 1, .int .i64 2, .int .i64 0, .int .i64 0, .string ⟨#[]⟩, .slice ai ni ci]] W2 fun e w' => ∃ v0 v1 v2, e = .returned (.agg #[v0, v1, v2]) ∧ WkAt w' W2.heap.size v0 v1 v2 (wkN V1 V.next 7 L L.length) ∧ Only (fun _ => False) W2 w') := by
    have h := vsort_heap W2 V1 q1 V.next 7 1 0 0 ⟨#[]⟩ Bi ci ai L HSN2.out HST2.out HNX.out (by rw [HNI.out]; have := HIL0.out; omega)
    rw [HNI.out] at h
    rw [HNI.out]
    exact h
  obtain ⟨r0, r1, r2, r3, r4, r5, r6, r7, r8, r9, r10, _, _, _, _, _, _, _, _, _, _, _, _⟩ := HVB2.out
  obtain ⟨vc0, vc1, vc2, vc3, vc4, vc5, vc6, vc7, vc8, vc9, vc10, _, _, _, _, _, _, _, _, _, _, _, _⟩ := HV2.out
  obtain ⟨p0, p1, p2, p3, p4, p5, _⟩ := HP2.out
  go_wp2_with fail
  refine HSO.out.mono ?_
  rintro e w3 ⟨v0, v1, v2, rfl, hk3, ho3⟩
  have HOK := hide (wkN_ok V1 V.next 7 L L.length (Nat.le_refl _))
  have HLE := hide (wkN_len V1 V.next 7 L L.length)
  obtain ⟨K, hK⟩ : ∃ K, wkN V1 V.next 7 L L.length = K := ⟨_, rfl⟩
  have HWKQ : Hid (wkN V1 V.next 7 L L.length = K) := hK
  rw [hK] at HOK HLE hk3
  clear hK HSO vc0 vc1 vc2 vc3 vc4 vc5 vc6 vc7 vc8 vc9 vc10 r0 r1 r2 r3 r4 r5 r6 r7 r8 r9 r10 p0 p1 p2 p3 p4 p5
  have HLN : Hid (K.fr.length ≤ 2199023255552 ∧ K.of.length ≤ 2199023255552 ∧ K.gn.length ≤ 2199023255552) := by
    have := HLE.out
    have h2 := HNI.out
    have h3 := HIL0.out
    unfold Hid
    omega
  obtain ⟨a0, m0, c0, rfl⟩ := hk3.fr.frm
  obtain ⟨a1, m1, c1, rfl⟩ := hk3.of.frm
  obtain ⟨a2, m2, c2, rfl⟩ := hk3.gn.frm
  have HA3 := hide (onlyA w3 (.cells #[.slice a0 m0 c0, .slice a1 m1 c1, .slice a2 m2 c2] 39))
  have HO3 := hide (o2 ho3 HA3.out)
  have HW3 := hide (WB.new w3 39 (.slice a0 m0 c0) (.slice a1 m1 c1) (.slice a2 m2 c2))
  have HK3 := hide (hk3.more HA3.out)
  clear ho3 hk3
  go_upto_region 5 with fail
  obtain ⟨W3, hW3⟩ : ∃ x, w3.alloc (.cells #[.slice a0 m0 c0, .slice a1 m1 c1, .slice a2 m2 c2] 39) = x := ⟨_, rfl⟩
  rw [hW3] at HO3 HA3 HW3 HK3 ⊢
  clear hW3
  obtain ⟨b11, hb11⟩ : ∃ b, w3.heap.size = b := ⟨_, rfl⟩
  rw [hb11] at HW3 ⊢
  clear hb11
  as_aux_lemma =>
    have HSR : Hid (Calls Tryz.prog 8 #[.agg #[.int .i64 V1.m, .int .i64 V1.next, .slice q1.aA V1.act.length q1.cA, .int .i64 V1.own, .slice q1.aR V1.run.length q1.cR, .int .i64 V1.pg.lsn, .int .i64 V1.pg.kind, .int .i64 V1.pg.level, .int .i64 V1.pg.right, .string V1.pg.high, .slice q1.aP V1.pg.items.length q1.cP], .int .i64 V.next, .int .i64 7, .agg #[.int .i64 1, .int .i64 2, .int .i64 0, .int .i64 0, .string ⟨#[]⟩, .slice ai ni ci]] W3 fun e w' => ∃ v0 v1 v2, e = .returned (.agg #[v0, v1, v2]) ∧ WkAt w' W3.heap.size v0 v1 v2 K ∧ Only (fun _ => False) W3 w') := by
      have h := rsort_heap W3 V1 q1 V.next 7 1 0 0 ⟨#[]⟩ Bi ci ai L (HSN2.out.more HO3.out) (HST2.out.more HO3.out) HNX.out (by rw [HNI.out]; have := HIL0.out; omega)
      rw [HWKQ.out, HNI.out] at h
      exact h
    obtain ⟨vc0, vc1, vc2, vc3, vc4, vc5, vc6, vc7, vc8, vc9, vc10, _, _, _, _, _, _, _, _, _, _, _, _⟩ := (HV2.out.more HO3.out)
    obtain ⟨p0, p1, p2, p3, p4, p5, _⟩ := HP2.out.more HO3.out
    go_wp2_with fail
    refine HSR.out.mono ?_
    rintro e w4 ⟨u0, u1, u2, rfl, hk4, ho4⟩
    obtain ⟨d0, n0, f0, rfl⟩ := hk4.fr.frm
    obtain ⟨d1, n1, f1, rfl⟩ := hk4.of.frm
    obtain ⟨d2, n2, f2, rfl⟩ := hk4.gn.frm
    have HA4 := hide (onlyA w4 (.cells #[.slice d0 n0 f0, .slice d1 n1 f1, .slice d2 n2 f2] 39))
    have HO4 := hide (o2 ho4 HA4.out)
    have HW12 := hide (WB.new w4 39 (.slice d0 n0 f0) (.slice d1 n1 f1) (.slice d2 n2 f2))
    have HK4 := hide (hk4.more HA4.out)
    clear ho4 hk4 HSR vc0 vc1 vc2 vc3 vc4 vc5 vc6 vc7 vc8 vc9 vc10 p0 p1 p2 p3 p4 p5
    go_upto_region 6 with fail
    obtain ⟨W4, hW4⟩ : ∃ x, w4.alloc (.cells #[.slice d0 n0 f0, .slice d1 n1 f1, .slice d2 n2 f2] 39) = x := ⟨_, rfl⟩
    rw [hW4] at HO4 HA4 HW12 HK4 ⊢
    clear hW4
    obtain ⟨b12, hb12⟩ : ∃ b, w4.heap.size = b := ⟨_, rfl⟩
    rw [hb12] at HW12 ⊢
    clear hb12
    have HW11 := hide (HW3.out.more HO4.out)
    have HK3 := hide (HK3.out.more HO4.out)
    have HX4 := hide (o2 HO3.out HO4.out)
    as_aux_lemma =>
      have HSA : Hid (Calls Tryz.prog 9 #[.agg #[.slice a0 m0 c0, .slice a1 m1 c1, .slice a2 m2 c2], .agg #[.slice d0 n0 f0, .slice d1 n1 f1, .slice d2 n2 f2]] W4 fun e w' => e = .returned (.bool true) ∧ Only (fun _ => False) W4 w') := vsame_eq W4 _ _ _ _ _ _ _ _ K HK3.out HK4.out (by have := HLN.out; omega)
      obtain ⟨z0, z1, z2, _, _, _, _⟩ := HW11.out
      obtain ⟨y0, y1, y2, _, _, _, _⟩ := HW12.out
      go_wp2_with fail
      refine HSA.out.mono ?_
      rintro e w5 ⟨rfl, ho5⟩
      have HO5 := hide ho5
      clear ho5 HSA z0 z1 z2 y0 y1 y2
      have HSQ : Hid (Calls Tryz.prog 7 #[.agg #[.int .i64 V1.m, .int .i64 V1.next, .slice q1.aA V1.act.length q1.cA, .int .i64 V1.own, .slice q1.aR V1.run.length q1.cR, .int .i64 V1.pg.lsn, .int .i64 V1.pg.kind, .int .i64 V1.pg.level, .int .i64 V1.pg.right, .string V1.pg.high, .slice q1.aP V1.pg.items.length q1.cP], .int .i64 V.next, .int .i64 7, .agg #[.int .i64 0, .int .i64 3, .int .i64 0, .int .i64 0, .string ⟨#[]⟩, .slice ai ni ci]] w5 fun e w' => ∃ v0 v1 v2, e = .returned (.agg #[v0, v1, v2]) ∧ WkAt w' w5.heap.size v0 v1 v2 ⟨[], [], []⟩ ∧ Only (fun _ => False) w5 w') := by
        have h := vsort_any w5 V1 q1 V.next 7 0 3 0 0 ⟨#[]⟩ Bi ci ai L (HSN2.out.more (o2 HX4.out HO5.out)) (HST2.out.more (o2 HX4.out HO5.out)) HNX.out (by rw [HNI.out]; have := HIL0.out; omega)
        rw [HNI.out] at h
        exact h.mono (fun e w' ⟨v0, v1, v2, h1, h2, h3⟩ => ⟨v0, v1, v2, h1, by rw [if_neg (show ¬ (3 : Int) = 2 by decide)] at h2; exact h2, h3⟩)
      obtain ⟨vc0, vc1, vc2, vc3, vc4, vc5, vc6, vc7, vc8, vc9, vc10, _, _, _, _, _, _, _, _, _, _, _, _⟩ := (HV2.out.more (o2 HX4.out HO5.out))
      obtain ⟨p0, p1, p2, p3, p4, p5, _⟩ := HP2.out.more (o2 HX4.out HO5.out)
      go_wp2_with fail
      refine HSQ.out.mono ?_
      rintro e w6 ⟨u0, u1, u2, rfl, hk6, ho6⟩
      obtain ⟨g0, h0, i0, rfl⟩ := hk6.fr.frm
      obtain ⟨g1, h1, i1, rfl⟩ := hk6.of.frm
      obtain ⟨g2, i2, rfl⟩ := hk6.gn.form
      rw [show (([] : List En)).length = 0 from rfl]
      have HX6 := hide (o2 HO5.out ho6)
      have hfw := fun W => fld_work g0 g1 g2 h0 i0 h1 i1 0 i2 W
      clear ho6 hk6 HSQ vc0 vc1 vc2 vc3 vc4 vc5 vc6 vc7 vc8 vc9 vc10 p0 p1 p2 p3 p4 p5
      as_aux_lemma =>
        have HZN : Hid (∀ W : World, Rb (W.alloc (.cells #[.int .i64 0, .int .i64 0, .int .i64 0, .int .u8 0, .int .i64 0, .int .i64 0, .int .i64 0, .int .i64 0, .int .i64 0, .int .i64 0, .string ⟨#[]⟩, .slice none 0 0, .slice none 0 0, .slice none 0 0, .slice none 0 0, .slice none 0 0] 47)) W.heap.size Rc.none nlL) := fun W => Rb.new W Rc.none nlL
        have HZA : Hid (∀ W : World, Only (fun _ => False) W (W.alloc (.cells #[.int .i64 0, .int .i64 0, .int .i64 0, .int .u8 0, .int .i64 0, .int .i64 0, .int .i64 0, .int .i64 0, .int .i64 0, .int .i64 0, .string ⟨#[]⟩, .slice none 0 0, .slice none 0 0, .slice none 0 0, .slice none 0 0, .slice none 0 0] 47))) := fun W => onlyA W _
        have HRS := hide (slG_rise HOK.out)
        have HGNL : Hid (K.gn.length ≤ 2199023255552) := HLN.out.2.2
        have HCF : Hid (∀ W, Only (fun _ => False) W4 W → Calls Tryz.prog 10 #[.int .i64 9, .agg #[.slice a0 m0 c0, .slice a1 m1 c1, .slice a2 m2 c2]] W fun e w' => ∃ L, e = .returned (.tuple #[.agg ((frX 9 K).cells L), .bool (frB K)]) ∧ RcAt w' (frX 9 K) L ∧ Only (fun _ => False) W w') := fun W ho => vfreeze_any W 9 _ _ _ _ K (HK3.out.more ho) (by have := HLN.out; omega) (by have := HLN.out; omega)
        have HRF : Hid (∀ W, Only (fun _ => False) W4 W → Calls Tryz.prog 11 #[.int .i64 9, .agg #[.slice d0 n0 f0, .slice d1 n1 f1, .slice d2 n2 f2]] W fun e w' => ∃ L, e = .returned (.tuple #[.agg ((frX 9 K).cells L), .bool (frB K)]) ∧ RcAt w' (frX 9 K) L ∧ Only (fun _ => False) W w') := fun W ho => rfreeze_any W 9 _ _ _ _ K (HK4.out.more ho) (by have := HLN.out; omega) (by have := HLN.out; omega)
        have HCC : Hid (∀ W, Only (fun _ => False) W4 W → Calls Tryz.prog 12 #[.int .i64 9, .agg #[.slice a0 m0 c0, .slice a1 m1 c1, .slice a2 m2 c2]] W fun e w' => ∃ L, e = .returned (.tuple #[.agg ((clX 9 K.gn).cells L), .bool (clB K.gn)]) ∧ RcAt w' (clX 9 K.gn) L ∧ Only (fun _ => False) W w') := fun W ho => vclean_any W 9 _ _ _ _ K (HK3.out.more ho) (by have := HGNL.out; omega) HRS.out
        have HRC : Hid (∀ W, Only (fun _ => False) W4 W → Calls Tryz.prog 13 #[.int .i64 9, .agg #[.slice d0 n0 f0, .slice d1 n1 f1, .slice d2 n2 f2]] W fun e w' => ∃ L, e = .returned (.tuple #[.agg ((clX 9 K.gn).cells L), .bool (clB K.gn)]) ∧ RcAt w' (clX 9 K.gn) L ∧ Only (fun _ => False) W w') := fun W ho => rclean_any W 9 _ _ _ _ K (HK4.out.more ho) (by have := HGNL.out; omega) HRS.out
        obtain ⟨k1, p1, S1, M1, hf1⟩ := frX_g 9 K
        obtain ⟨k2, p2, S2, M2, hf2⟩ := clX_g 9 K.gn
        rw [hf1] at HCF HRF
        rw [hf2] at HCC HRC
        clear hf1 hf2
        have HRE1 : Hid (∀ W L N, RcAt W (gR k1 p1 S1 M1) L → RcAt W (gR k1 p1 S1 M1) N → Calls Tryz.prog 14 #[.agg ((gR k1 p1 S1 M1).cells L), .agg ((gR k1 p1 S1 M1).cells N)] W fun e w' => e = .returned (.bool true) ∧ Only (fun _ => False) W w') := fun W L N h1 h2 => record_eq W k1 p1 S1 M1 L N h1 h2
        have HRE2 : Hid (∀ W L N, RcAt W (gR k2 p2 S2 M2) L → RcAt W (gR k2 p2 S2 M2) N → Calls Tryz.prog 14 #[.agg ((gR k2 p2 S2 M2).cells L), .agg ((gR k2 p2 S2 M2).cells N)] W fun e w' => e = .returned (.bool true) ∧ Only (fun _ => False) W w') := fun W L N h1 h2 => record_eq W k2 p2 S2 M2 L N h1 h2
        obtain ⟨R1, hR1⟩ : ∃ x, gR k1 p1 S1 M1 = x := ⟨_, rfl⟩
        obtain ⟨R2, hR2⟩ : ∃ x, gR k2 p2 S2 M2 = x := ⟨_, rfl⟩
        rw [hR1] at HCF HRF HRE1
        rw [hR2] at HCC HRC HRE2
        obtain ⟨g1b, hg1⟩ : ∃ x, frB K = x := ⟨_, rfl⟩
        obtain ⟨g2b, hg2⟩ : ∃ x, clB K.gn = x := ⟨_, rfl⟩
        rw [hg1] at HCF HRF
        rw [hg2] at HCC HRC
        clear hR1 hR2 hg1 hg2
        obtain ⟨z0, z1, z2, _, _, _, _⟩ := HW11.out.more HX6.out
        obtain ⟨y0, y1, y2, _, _, _, _⟩ := HW12.out.more HX6.out
        go_wp2_with fail
        refine (HCF.out _ HX6.out).mono ?_
        rintro e wr1 ⟨LL1, rfl, hrc, ho⟩
        have HRC1 := hide hrc
        have HA1 := hide ho
        clear hrc ho z0 z1 z2 y0 y1 y2
        go_upto_region 9 with (refine wpList_put_rc rfl (.tmp 13) (.tmp 58) rfl wr1.heap.size rfl Rc.none R1 nlL LL1 rfl (HZN.out wr1) (fun y1 HS => ?_); go_frame)
        have HP_1 := hide ((HZA.out wr1).trans HS.out.2 (fun i hi e => by omega))
        have HB_1 := hide HS.out.1
        clear HS
        obtain ⟨bb1, hbk⟩ : ∃ b, wr1.heap.size = b := ⟨_, rfl⟩
        rw [hbk] at HB_1 ⊢
        clear hbk
        obtain ⟨X1, hxk⟩ : ∃ x, y1 = x := ⟨_, rfl⟩
        rw [hxk] at HP_1 HB_1 ⊢
        clear hxk
        have HX_1 := hide (o2 HA1.out HP_1.out)
        as_aux_lemma =>
          obtain ⟨z0, z1, z2, _, _, _, _⟩ := HW11.out.more (o2 HX6.out HX_1.out)
          obtain ⟨y0, y1, y2, _, _, _, _⟩ := HW12.out.more (o2 HX6.out HX_1.out)
          go_wp2_with fail
          refine (HRF.out _ (o2 HX6.out HX_1.out)).mono ?_
          rintro e wr2 ⟨LL2, rfl, hrc, ho⟩
          have HRC2 := hide hrc
          have HA2 := hide ho
          clear hrc ho z0 z1 z2 y0 y1 y2
          go_upto_region 10 with (refine wpList_put_rc rfl (.tmp 15) (.tmp 63) rfl wr2.heap.size rfl Rc.none R1 nlL LL2 rfl (HZN.out wr2) (fun y1 HS => ?_); go_frame)
          have HP_2 := hide ((HZA.out wr2).trans HS.out.2 (fun i hi e => by omega))
          have HB_2 := hide HS.out.1
          clear HS
          obtain ⟨bb2, hbk⟩ : ∃ b, wr2.heap.size = b := ⟨_, rfl⟩
          rw [hbk] at HB_2 ⊢
          clear hbk
          obtain ⟨X2, hxk⟩ : ∃ x, y1 = x := ⟨_, rfl⟩
          rw [hxk] at HP_2 HB_2 ⊢
          clear hxk
          have HX_2 := hide (o2 HA2.out HP_2.out)
          obtain ⟨z0, z1, z2, _, _, _, _⟩ := HW11.out.more (o2 HX6.out (o2 HX_1.out HX_2.out))
          obtain ⟨y0, y1, y2, _, _, _, _⟩ := HW12.out.more (o2 HX6.out (o2 HX_1.out HX_2.out))
          go_wp2_with fail
          refine (HCC.out _ (o2 HX6.out (o2 HX_1.out HX_2.out))).mono ?_
          rintro e wr3 ⟨LL3, rfl, hrc, ho⟩
          have HRC3 := hide hrc
          have HA3 := hide ho
          clear hrc ho z0 z1 z2 y0 y1 y2
          go_upto_region 11 with (refine wpList_put_rc rfl (.tmp 17) (.tmp 68) rfl wr3.heap.size rfl Rc.none R2 nlL LL3 rfl (HZN.out wr3) (fun y1 HS => ?_); go_frame)
          have HP_3 := hide ((HZA.out wr3).trans HS.out.2 (fun i hi e => by omega))
          have HB_3 := hide HS.out.1
          clear HS
          obtain ⟨bb3, hbk⟩ : ∃ b, wr3.heap.size = b := ⟨_, rfl⟩
          rw [hbk] at HB_3 ⊢
          clear hbk
          obtain ⟨X3, hxk⟩ : ∃ x, y1 = x := ⟨_, rfl⟩
          rw [hxk] at HP_3 HB_3 ⊢
          clear hxk
          have HX_3 := hide (o2 HA3.out HP_3.out)
          as_aux_lemma =>
            obtain ⟨z0, z1, z2, _, _, _, _⟩ := HW11.out.more (o2 HX6.out (o2 HX_1.out (o2 HX_2.out HX_3.out)))
            obtain ⟨y0, y1, y2, _, _, _, _⟩ := HW12.out.more (o2 HX6.out (o2 HX_1.out (o2 HX_2.out HX_3.out)))
            go_wp2_with fail
            refine (HRC.out _ (o2 HX6.out (o2 HX_1.out (o2 HX_2.out HX_3.out)))).mono ?_
            rintro e wr4 ⟨LL4, rfl, hrc, ho⟩
            have HRC4 := hide hrc
            have HA4 := hide ho
            clear hrc ho z0 z1 z2 y0 y1 y2
            go_upto_region 12 with (refine wpList_put_rc rfl (.tmp 19) (.tmp 73) rfl wr4.heap.size rfl Rc.none R2 nlL LL4 rfl (HZN.out wr4) (fun y1 HS => ?_); go_frame)
            have HP_4 := hide ((HZA.out wr4).trans HS.out.2 (fun i hi e => by omega))
            have HB_4 := hide HS.out.1
            clear HS
            obtain ⟨bb4, hbk⟩ : ∃ b, wr4.heap.size = b := ⟨_, rfl⟩
            rw [hbk] at HB_4 ⊢
            clear hbk
            obtain ⟨X4, hxk⟩ : ∃ x, y1 = x := ⟨_, rfl⟩
            rw [hxk] at HP_4 HB_4 ⊢
            clear hxk
            have HX_4 := hide (o2 HA4.out HP_4.out)
            as_aux_lemma =>
              obtain ⟨r0, r1, r2, r3, r4, r5, r6, r7, r8, r9, r10, r11, r12, r13, r14, r15, _⟩ := (HB_1.out.more (o2 HX_2.out (o2 HX_3.out HX_4.out))).bx
              obtain ⟨s0, s1, s2, s3, s4, s5, s6, s7, s8, s9, s10, s11, s12, s13, s14, s15, _⟩ := (HB_2.out.more (o2 HX_3.out HX_4.out)).bx
              go_wp2_with fail
              refine (show Calls Tryz.prog 14 #[.agg (R1.cells LL1), .agg (R1.cells LL2)] X4 _ from (HRE1.out _ LL1 LL2 (HRC1.out.go (o2 HP_1.out (o2 HX_2.out (o2 HX_3.out HX_4.out)))) (HRC2.out.go (o2 HP_2.out (o2 HX_3.out HX_4.out)))).mono ?_)
              rintro e w8 ⟨rfl, ho8⟩
              have HO8 := hide ho8
              clear ho8 r0 r1 r2 r3 r4 r5 r6 r7 r8 r9 r10 r11 r12 r13 r14 r15 s0 s1 s2 s3 s4 s5 s6 s7 s8 s9 s10 s11 s12 s13 s14 s15
              as_aux_lemma =>
                obtain ⟨r0, r1, r2, r3, r4, r5, r6, r7, r8, r9, r10, r11, r12, r13, r14, r15, _⟩ := (HB_3.out.more (o2 HX_4.out HO8.out)).bx
                obtain ⟨s0, s1, s2, s3, s4, s5, s6, s7, s8, s9, s10, s11, s12, s13, s14, s15, _⟩ := (HB_4.out.more HO8.out).bx
                go_wp2_with fail
                refine (show Calls Tryz.prog 14 #[.agg (R2.cells LL3), .agg (R2.cells LL4)] w8 _ from (HRE2.out _ LL3 LL4 (HRC3.out.go (o2 HP_3.out (o2 HX_4.out HO8.out))) (HRC4.out.go (o2 HP_4.out HO8.out))).mono ?_)
                rintro e w9 ⟨rfl, ho9⟩
                have HO9 := hide (o2 HO8.out ho9)
                clear ho9 r0 r1 r2 r3 r4 r5 r6 r7 r8 r9 r10 r11 r12 r13 r14 r15 s0 s1 s2 s3 s4 s5 s6 s7 s8 s9 s10 s11 s12 s13 s14 s15
                go_wp2_with fail
                refine (HAW.out _).mono ?_
                rintro e w10 ⟨rfl, ho10⟩
                have HO10 := hide (o2 (o2 HO1w.out (o2 HO2.out (o2 HX4.out HX6.out))) (o2 HX_1.out (o2 HX_2.out (o2 HX_3.out (o2 HX_4.out (o2 HO9.out ho10))))))
                clear ho10
                go_wp2_with fail
                go_ret
                exact ⟨rfl, HO10.out⟩
end Go.Proofs.YtpnbhddmdfcjdaaGreat
