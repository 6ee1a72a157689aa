/- Parts. -/
import Derived.Test.YtpnbhddmdfcjdaaK36
import Derived.Test.YtpnbhddmdfcjdaaK43
set_option maxRecDepth 100000
namespace Go.Proofs.Ytpnbhddmdfcjdaa
open Go.RowKit
theorem view_any (w : World) (m fr : Int) (BO : Nat) (aO : Option Addr) (n cap : Nat) (X : Nat → Int) (S : Nat → Nat) (V : Vw) (q : Lo) (hm : I64 m) (hfr : I64 fr) (hS : Sds w BO aO n X S) (h : Sn w V q) :
    Calls Try.prog 4 #[.agg #[.int .i64 m, .int .i64 fr, .slice aO n cap], .agg #[.int .i64 V.m, .int .i64 V.next, .slice q.aA V.act.length q.cA, .int .i64 V.own, .slice q.aR V.run.length q.cR, .int .i64 V.pg.lsn, .int .i64 V.pg.kind, .int .i64 V.pg.level, .int .i64 V.pg.right, .string V.pg.high, .slice q.aP V.pg.items.length q.cP]] w fun e w' => ∃ V' q' b, MdQ w w' e V' q' b := by
  by_cases hI : Idd m fr
  · exact (made_ok w m fr BO aO n cap X S V q hI hS h).mono (fun e w' ⟨B, ao, cp, hq⟩ => ⟨_, _, _, hq⟩)
  · exact (made_no w m fr (.slice aO n cap) V q hm hfr hI h).mono (fun e w' hq => ⟨_, _, _, hq⟩)
theorem xv_new (w : World) (m fr : Int) (va : Value) (V : Vw) (q : Lo) : XB ((w.alloc (.cells #[.int .i64 m, .int .i64 fr, va] 24)).alloc (.cells #[.int .i64 V.m, .int .i64 V.next, .slice q.aA V.act.length q.cA, .int .i64 V.own, .slice q.aR V.run.length q.cR, .int .i64 V.pg.lsn, .int .i64 V.pg.kind, .int .i64 V.pg.level, .int .i64 V.pg.right, .string V.pg.high, .slice q.aP V.pg.items.length q.cP] 32)) w.heap.size (.int .i64 m) (.int .i64 fr) va ∧ VB ((w.alloc (.cells #[.int .i64 m, .int .i64 fr, va] 24)).alloc (.cells #[.int .i64 V.m, .int .i64 V.next, .slice q.aA V.act.length q.cA, .int .i64 V.own, .slice q.aR V.run.length q.cR, .int .i64 V.pg.lsn, .int .i64 V.pg.kind, .int .i64 V.pg.level, .int .i64 V.pg.right, .string V.pg.high, .slice q.aP V.pg.items.length q.cP] 32)) (w.heap.size + 1) (.int .i64 V.m) (.int .i64 V.next) (.slice q.aA V.act.length q.cA) (.int .i64 V.own) (.slice q.aR V.run.length q.cR) (.int .i64 V.pg.lsn) (.int .i64 V.pg.kind) (.int .i64 V.pg.level) (.int .i64 V.pg.right) (.string V.pg.high) (.slice q.aP V.pg.items.length q.cP) ∧ Only (fun _ => False) w ((w.alloc (.cells #[.int .i64 m, .int .i64 fr, va] 24)).alloc (.cells #[.int .i64 V.m, .int .i64 V.next, .slice q.aA V.act.length q.cA, .int .i64 V.own, .slice q.aR V.run.length q.cR, .int .i64 V.pg.lsn, .int .i64 V.pg.kind, .int .i64 V.pg.level, .int .i64 V.pg.right, .string V.pg.high, .slice q.aP V.pg.items.length q.cP] 32)) := by
  obtain ⟨w1, hw1⟩ : ∃ x, w.alloc (.cells #[.int .i64 m, .int .i64 fr, va] 24) = x := ⟨_, rfl⟩
  have hs1 : w1.heap.size = w.heap.size + 1 := by rw [← hw1]; simp
  have hx : XB w1 w.heap.size (.int .i64 m) (.int .i64 fr) va := by rw [← hw1]; exact ⟨by simp, by simp, by simp, by simp⟩
  have ho1 : Only (fun _ => False) w w1 := by rw [← hw1]; exact onlyA _ _
  rw [hw1]
  have h7 := VB.new w1 (.int .i64 V.m) (.int .i64 V.next) (.slice q.aA V.act.length q.cA) (.int .i64 V.own) (.slice q.aR V.run.length q.cR) (.int .i64 V.pg.lsn) (.int .i64 V.pg.kind) (.int .i64 V.pg.level) (.int .i64 V.pg.right) (.string V.pg.high) (.slice q.aP V.pg.items.length q.cP)
  rw [hs1] at h7
  exact ⟨hx.more (onlyA _ _), h7, o2 ho1 (onlyA _ _)⟩
theorem ld_ints {w : World} {p : Addr} {v : Value} (h : w.cell? p = some v) : (loadVar 25 p).run Try.prog w = .ok v w := by simp [loadVar, go_sem, h]
theorem lastG_succ {G : List En} {i : Nat} (h : i < G.length) : lastG G (i + 1) = G[i].slot := by
  unfold lastG
  rw [dif_pos ⟨by omega, by omega⟩]
  rfl
theorem lastG_lt {V : Vw} {h pg : Int} {l : List ByteArray} {k : Nat} {K : Wk} (ok : WkOk V h pg l k K) {i : Nat} (hi : i < K.gn.length) : lastG K.gn i < K.gn[i].slot := by
  unfold lastG
  split
  · rename_i q
    exact ok.rise (i - 1) i hi (by omega)
  · obtain ⟨_, j, _, e, _⟩ := ok.gn _ (List.getElem_mem hi)
    rw [e]; omega
theorem fr_ne {V : Vw} {h pg : Int} {l : List ByteArray} {k : Nat} {K : Wk} (ok : WkOk V h pg l k K) {x : En} {z : Int} (hx : x ∈ K.gn) (hz : z ∈ K.fr) : (z == x.slot) = false := by
  obtain ⟨_, j, hj, e, _, hg, _⟩ := ok.gn x hx
  obtain ⟨j2, hj2, e2, _, hg2, _⟩ := ok.fr z hz
  rw [beq_eq_false_iff_ne]
  intro q
  rw [e, e2] at q
  have : j2 = j := by omega
  subst this
  rw [hg] at hg2
  cases hg2
theorem of_ne {V : Vw} {h pg : Int} {l : List ByteArray} {k : Nat} {K : Wk} (ok : WkOk V h pg l k K) {x : En} {z : Int} (hx : x ∈ K.gn) (hz : z ∈ K.of) : (z == x.slot) = false := by
  obtain ⟨_, j, hj, e, _, hg, _⟩ := ok.gn x hx
  obtain ⟨j2, hj2, e2, _, hg2, _⟩ := ok.of z hz
  rw [beq_eq_false_iff_ne]
  intro q
  rw [e, e2] at q
  have : j2 = j := by omega
  subst this
  rw [hg] at hg2
  cases hg2
theorem irw_at {w : World} {base cp : Nat} {ao : Option Addr} {L : List Int} (h : IRw w base (.slice ao L.length cp) L) {j : Nat} (hj : j < L.length) : ∃ g, ao = some ⟨g, 0, none⟩ ∧ g < w.heap.size ∧ w.cell? ⟨g, j, none⟩ = some (.int .i64 L[j]) := by
  obtain ⟨g, e, _, hl, _, q⟩ := h.at_ hj
  have k1 : w.cell? ⟨g, j * 1 + 0, none⟩ = some (.int .i64 L[j]) := q 0 (.int .i64 L[j]) (by decide) rfl
  rw [Nat.mul_one, Nat.add_zero] at k1
  exact ⟨g, e, hl, k1⟩
theorem erw_at {w : World} {base cp : Nat} {ao : Option Addr} {L : List En} (h : ERows w base (.slice ao L.length cp) L) {j : Nat} (hj : j < L.length) : ∃ g, ao = some ⟨g, 0, none⟩ ∧ w.cell? ⟨g, j * 3, none⟩ = some (.string L[j].key) ∧ w.cell? ⟨g, j * 3 + 1, none⟩ = some (.int .i64 L[j].page) ∧ w.cell? ⟨g, j * 3 + 2, none⟩ = some (.int .i64 L[j].slot) := by
  obtain ⟨g, e, _, _, _, q⟩ := h.at_ hj
  exact ⟨g, e, q 0 (.string L[j].key) (by decide) rfl, q 1 (.int .i64 L[j].page) (by decide) rfl, q 2 (.int .i64 L[j].slot) (by decide) rfl⟩
set_option maxRecDepth 100000 in
set_option maxHeartbeats 6400000 in
theorem names_law (w : World) (m fr : Int) (BO : Nat) (aO : Option Addr) (n cap : Nat) (X : Nat → Int) (S : Nat → Nat) (V : Vw) (q : Lo) (B cp : Nat) (ao : Option Addr) (l : List Sv) (hm : I64 m) (hfr : I64 fr) (hS : Sds w BO aO n X S) (hV : Sn w V q) (hl : Svs w B ao l) :
    Calls Try.prog 3 #[.agg #[.int .i64 m, .int .i64 fr, .slice aO n cap], .agg #[.int .i64 V.m, .int .i64 V.next, .slice q.aA V.act.length q.cA, .int .i64 V.own, .slice q.aR V.run.length q.cR, .int .i64 V.pg.lsn, .int .i64 V.pg.kind, .int .i64 V.pg.level, .int .i64 V.pg.right, .string V.pg.high, .slice q.aP V.pg.items.length q.cP], .slice ao l.length cp] w fun e w' => e = .returned (.bool true) ∧ Only (fun _ => False) w w' := by
  have HN0 := hide (xv_new w m fr (.slice aO n cap) V q)
  have HM := hide (fun W hs hn => view_any W m fr BO aO n cap X S V q hm hfr hs hn)
  have HSD := hide hS
  have HSV := hide hV
  have HSL := hide hl
  have HNX := hide hV.next
  have HAW := hide (fun W => vawake_any W)
  clear hm hfr hS hV hl
  go_enter Try.func3, Try.ntmps3
  go_upto_region 1 with fail
  obtain ⟨W0, hW0⟩ : ∃ x, (w.alloc (.cells #[.int .i64 m, .int .i64 fr, .slice aO n cap] 24)).alloc (.cells #[.int .i64 V.m, .int .i64 V.next, .slice q.aA V.act.length q.cA, .int .i64 V.own, .slice q.aR V.run.length q.cR, .int .i64 V.pg.lsn, .int .i64 V.pg.kind, .int .i64 V.pg.level, .int .i64 V.pg.right, .string V.pg.high, .slice q.aP V.pg.items.length q.cP] 32) = x := ⟨_, rfl⟩
  rw [hW0] at HN0 ⊢
  clear hW0
  obtain ⟨b4, hb4⟩ : ∃ b, w.heap.size + 1 = b := ⟨_, rfl⟩
  rw [hb4] at HN0 ⊢
  obtain ⟨b3, hb3⟩ : ∃ b, w.heap.size = b := ⟨_, rfl⟩
  rw [hb3] at HN0 ⊢
  clear hb3 hb4
  have HVB := hide HN0.out.2.1
  have HO0 := hide HN0.out.2.2
  obtain ⟨x0, x1, x2, _⟩ := HN0.out.1
  obtain ⟨vc0, vc1, vc2, vc3, vc4, vc5, vc6, vc7, vc8, vc9, vc10, _, _, _, _, _, _, _, _, _, _, _, _⟩ := HVB.out
  go_wp2_with fail
  refine (HM.out _ (HSD.out.more HO0.out) (HSV.out.more HO0.out)).mono ?_
  rintro e w1 ⟨V1, q1, ok, hq⟩
  obtain ⟨rfl, hsn1, ho1⟩ := hq
  clear x0 x1 x2 vc0 vc1 vc2 vc3 vc4 vc5 vc6 vc7 vc8 vc9 vc10 HM
  have HO1 := hide (o2 ho1 (onlyA w1 (.cells #[.int .i64 V1.m, .int .i64 V1.next, .slice q1.aA V1.act.length q1.cA, .int .i64 V1.own, .slice q1.aR V1.run.length q1.cR, .int .i64 V1.pg.lsn, .int .i64 V1.pg.kind, .int .i64 V1.pg.level, .int .i64 V1.pg.right, .string V1.pg.high, .slice q1.aP V1.pg.items.length q1.cP] 32)))
  have HV1 := hide (VB.new w1 (.int .i64 V1.m) (.int .i64 V1.next) (.slice q1.aA V1.act.length q1.cA) (.int .i64 V1.own) (.slice q1.aR V1.run.length q1.cR) (.int .i64 V1.pg.lsn) (.int .i64 V1.pg.kind) (.int .i64 V1.pg.level) (.int .i64 V1.pg.right) (.string V1.pg.high) (.slice q1.aP V1.pg.items.length q1.cP))
  have HS1 := hide (hsn1.more (onlyA w1 (.cells #[.int .i64 V1.m, .int .i64 V1.next, .slice q1.aA V1.act.length q1.cA, .int .i64 V1.own, .slice q1.aR V1.run.length q1.cR, .int .i64 V1.pg.lsn, .int .i64 V1.pg.kind, .int .i64 V1.pg.level, .int .i64 V1.pg.right, .string V1.pg.high, .slice q1.aP V1.pg.items.length q1.cP] 32)))
  clear hsn1 ho1
  go_upto_region 2 with fail
  obtain ⟨W1, hW1⟩ : ∃ x, w1.alloc (.cells #[.int .i64 V1.m, .int .i64 V1.next, .slice q1.aA V1.act.length q1.cA, .int .i64 V1.own, .slice q1.aR V1.run.length q1.cR, .int .i64 V1.pg.lsn, .int .i64 V1.pg.kind, .int .i64 V1.pg.level, .int .i64 V1.pg.right, .string V1.pg.high, .slice q1.aP V1.pg.items.length q1.cP] 32) = x := ⟨_, rfl⟩
  rw [hW1] at HO1 HV1 HS1 ⊢
  clear hW1
  obtain ⟨b7, hb7⟩ : ∃ b, w1.heap.size = b := ⟨_, rfl⟩
  rw [hb7] at HV1 ⊢
  clear hb7
  have HO1w := hide (o2 HO0.out HO1.out)
  have HPG := hide (vlpage_any W1 B cp ao l (HSL.out.more HO1w.out))
  go_wp2_with fail
  refine HPG.out.mono ?_
  rintro e w2 ⟨vi, rfl, hr2, ho2⟩
  obtain ⟨ai, ci, rfl⟩ := hr2.form
  have HIL0 : Hid ((l.map Sv.item).length ≤ 1759218604441) := by unfold Hid; rw [List.length_map]; exact HSL.out.len
  have HISZ : Hid (∀ s ∈ l.map Sv.item, s.size ≤ 140737488355328) := fun s hs => by
    obtain ⟨z, hz, rfl⟩ := List.mem_map.1 hs
    exact item_size (HSL.out.each z hz).2.2.2
  obtain ⟨Bi, hst2, _, _⟩ := hr2.strs (by have := HIL0.out; omega) HISZ.out
  obtain ⟨L, hL⟩ : ∃ L, l.map Sv.item = L := ⟨_, rfl⟩
  rw [hL] at hst2 HIL0 ⊢
  obtain ⟨ni, hni⟩ : ∃ k, L.length = k := ⟨_, rfl⟩
  have HNI := hide hni
  rw [hni] at HIL0 ⊢
  have HO2 := hide (o2 ho2 (onlyA w2 (.cells #[.int .i64 1, .int .i64 2, .int .i64 0, .int .i64 0, .string ⟨#[]⟩, .slice ai ni ci] 30)))
  have HP2 := hide (Pag.new w2 (.int .i64 1) (.int .i64 2) (.int .i64 0) (.int .i64 0) (.string ⟨#[]⟩) (.slice ai ni ci))
  have HST2 := hide (hst2.more (onlyA w2 (.cells #[.int .i64 1, .int .i64 2, .int .i64 0, .int .i64 0, .string ⟨#[]⟩, .slice ai ni ci] 30)))
  clear hst2 hr2 ho2 hL hni HPG HSL HISZ
  go_upto_region 3 with fail
  obtain ⟨W2, hW2⟩ : ∃ x, w2.alloc (.cells #[.int .i64 1, .int .i64 2, .int .i64 0, .int .i64 0, .string ⟨#[]⟩, .slice ai ni ci] 30) = x := ⟨_, rfl⟩
  rw [hW2] at HO2 HP2 HST2 ⊢
  clear hW2
  obtain ⟨b9, hb9⟩ : ∃ b, w2.heap.size = b := ⟨_, rfl⟩
  rw [hb9] at HP2 ⊢
  clear hb9
  have HV2 := hide (HV1.out.more HO2.out)
  have HVB2 := hide (HVB.out.more (o2 HO1.out HO2.out))
  have HSO : Hid (Calls Try.prog 6 #[.agg #[.int .i64 V1.m, .int .i64 V1.next, .slice q1.aA V1.act.length q1.cA, .int .i64 V1.own, .slice q1.aR V1.run.length q1.cR, .int .i64 V1.pg.lsn, .int .i64 V1.pg.kind, .int .i64 V1.pg.level, .int .i64 V1.pg.right, .string V1.pg.high, .slice q1.aP V1.pg.items.length q1.cP], .int .i64 V.next, .int .i64 9, .agg #[.int .i64 1, .int .i64 2, .int .i64 0, .int .i64 0, .string ⟨#[]⟩, .slice ai ni ci]] W2 fun e w' => ∃ v0 v1 v2, e = .returned (.agg #[v0, v1, v2]) ∧ WkAt w' W2.heap.size v0 v1 v2 (wkN V1 V.next 9 L L.length) ∧ Only (fun _ => False) W2 w') := by
    have h := vsort_heap W2 V1 q1 V.next 9 1 0 0 ⟨#[]⟩ Bi ci ai L (HS1.out.more HO2.out) HST2.out HNX.out (by rw [HNI.out]; have := HIL0.out; omega)
    rw [HNI.out] at h
    rw [HNI.out]
    exact h
  obtain ⟨vc0, vc1, vc2, vc3, vc4, vc5, vc6, vc7, vc8, vc9, vc10, _, _, _, _, _, _, _, _, _, _, _, _⟩ := HV2.out
  obtain ⟨r0, r1, r2, r3, r4, r5, r6, r7, r8, r9, r10, _, _, _, _, _, _, _, _, _, _, _, _⟩ := HVB2.out
  obtain ⟨p0, p1, p2, p3, p4, p5, _⟩ := HP2.out
  go_wp2_with fail
  refine HSO.out.mono ?_
  rintro e w3 ⟨v0, v1, v2, rfl, hk3, ho3⟩
  have HOK := hide (wkN_ok V1 V.next 9 L L.length (Nat.le_refl _))
  have HLE := hide (wkN_len V1 V.next 9 L L.length)
  rw [HNI.out] at HLE HOK hk3
  obtain ⟨K, hK⟩ : ∃ K, wkN V1 V.next 9 L ni = K := ⟨_, rfl⟩
  rw [hK] at HOK HLE hk3
  clear hK HSO vc0 vc1 vc2 vc3 vc4 vc5 vc6 vc7 vc8 vc9 vc10 r0 r1 r2 r3 r4 r5 r6 r7 r8 r9 r10 p0 p1 p2 p3 p4 p5
  obtain ⟨a0, c0, rfl⟩ := hk3.fr.form
  obtain ⟨a1, c1, rfl⟩ := hk3.of.form
  obtain ⟨a2, c2, rfl⟩ := hk3.gn.form
  have HF0 : Hid (∀ W, Only (fun _ => False) w3 W → ∀ j (hj : j < K.fr.length), ∃ g, a0 = some ⟨g, 0, none⟩ ∧ g < W.heap.size ∧ W.cell? ⟨g, j, none⟩ = some (.int .i64 K.fr[j])) := fun W ho j hj => irw_at (hk3.fr.more ho) hj
  have HF1 : Hid (∀ W, Only (fun _ => False) w3 W → ∀ j (hj : j < K.of.length), ∃ g, a1 = some ⟨g, 0, none⟩ ∧ g < W.heap.size ∧ W.cell? ⟨g, j, none⟩ = some (.int .i64 K.of[j])) := fun W ho j hj => irw_at (hk3.of.more ho) hj
  have HF2 : Hid (∀ W, Only (fun _ => False) w3 W → ∀ j (hj : j < K.gn.length), ∃ g, a2 = some ⟨g, 0, none⟩ ∧ W.cell? ⟨g, j * 3, none⟩ = some (.string K.gn[j].key) ∧ W.cell? ⟨g, j * 3 + 1, none⟩ = some (.int .i64 K.gn[j].page) ∧ W.cell? ⟨g, j * 3 + 2, none⟩ = some (.int .i64 K.gn[j].slot)) := fun W ho j hj => erw_at (hk3.gn.more ho) hj
  clear hk3
  obtain ⟨m0, hm0⟩ : ∃ k, K.fr.length = k := ⟨_, rfl⟩
  obtain ⟨m1, hm1⟩ : ∃ k, K.of.length = k := ⟨_, rfl⟩
  obtain ⟨m2, hm2⟩ : ∃ k, K.gn.length = k := ⟨_, rfl⟩
  have HM0 := hide hm0
  have HM1 := hide hm1
  have HM2 := hide hm2
  rw [hm0, hm1, hm2] at HLE ⊢
  clear hm0 hm1 hm2
  have HO3 := hide (o2 ho3 (onlyA w3 (.cells #[.slice a0 m0 c0, .slice a1 m1 c1, .slice a2 m2 c2] 39)))
  have HA3 := hide (onlyA w3 (.cells #[.slice a0 m0 c0, .slice a1 m1 c1, .slice a2 m2 c2] 39))
  have HW3 := hide (WB.new w3 39 (.slice a0 m0 c0) (.slice a1 m1 c1) (.slice a2 m2 c2))
  clear ho3
  go_upto_region 4 with fail
  obtain ⟨W3, hW3⟩ : ∃ x, w3.alloc (.cells #[.slice a0 m0 c0, .slice a1 m1 c1, .slice a2 m2 c2] 39) = x := ⟨_, rfl⟩
  rw [hW3] at HO3 HA3 HW3 ⊢
  clear hW3
  obtain ⟨b10, hb10⟩ : ∃ b, w3.heap.size = b := ⟨_, rfl⟩
  rw [hb10] at HW3 ⊢
  clear hb10
  have HP3 := hide (HP2.out.more HO3.out)
  have HST3 := hide (HST2.out.more HO3.out)
  have HOW3 := hide (o2 HO1w.out (o2 HO2.out HO3.out))
  clear HP2 HV2 HVB2 HV1 HVB HN0 HST2 HS1 HSV HSD HNX
  have hmb0 : m0 ≤ 1759218604441 := by have := HLE.out.1; have := HIL0.out; omega
  have hmb1 : m1 ≤ 1759218604441 := by have := HLE.out.2.1; have := HIL0.out; omega
  have hmb2 : m2 ≤ 1759218604441 := by have := HLE.out.2.2; have := HIL0.out; omega
  obtain ⟨z0, z1, z2, _, _, _, _⟩ := HW3.out
  go_wp2_with fail
  clear z0 z1 z2
  go_loopw [11, 12] (fun u v wr => ∃ (i : Nat), i ≤ m2 ∧ v = .int .i64 (i : Int) ∧ u = .int .i64 (lastG K.gn i) ∧ Hid (Only (fun _ => False) W3 wr)) (fun _ v _ => m2 - (intOf v).toNat)
  case atStart => exact ⟨0, by omega, rfl, rfl, hide (Only.refl _ _)⟩
  case round =>
    obtain ⟨i, hi, rfl, rfl, HO⟩ := hrel
    have HWR := hide (HW3.out.more HO.out)
    obtain ⟨z0, z1, z2, _, _, _, _⟩ := HWR.out
    by_cases hlt : i < m2
    · have hlg : i < K.gn.length := by rw [HM2.out]; exact hlt
      obtain ⟨g2, e2, k0, k1, k2⟩ := HF2.out wr (o2 HA3.out HO.out) i hlg
      obtain ⟨hpg, js, hjs, hsl, _, hgn, hkey⟩ := HOK.out.gn _ (List.getElem_mem hlg)
      have hll := lastG_lt HOK.out hlg
      have HLS : Hid (lastG K.gn (i + 1) = (js : Int)) := (lastG_succ hlg).trans hsl
      have HFN : Hid (∀ z ∈ K.fr, (z == (js : Int)) = false) := fun z hz => by rw [← hsl]; exact fr_ne HOK.out (List.getElem_mem hlg) hz
      have HON : Hid (∀ z ∈ K.of, (z == (js : Int)) = false) := fun z hz => by rw [← hsl]; exact of_ne HOK.out (List.getElem_mem hlg) hz
      rw [hsl] at k2 hll
      rw [hpg] at k1
      rw [hkey] at k0
      obtain ⟨oi, ei, hci⟩ := (HST3.out.more HO.out).at_ (by omega)
      have HCI := hide (hci js hjs)
      have hke := gnS_key hgn
      have HKE := hide (fun W => ukey_any L[js] W)
      obtain ⟨s, hs⟩ : ∃ s, L[js] = s := ⟨_, rfl⟩
      rw [hs] at k0 HCI hke HKE
      rw [hke] at HKE
      obtain ⟨kb, hkb⟩ : ∃ k, keyB s = k := ⟨_, rfl⟩
      rw [hkb] at k0 HKE
      have hjn : js < ni := by rw [← HNI.out]; exact hjs
      have HLT := hide hlt
      clear hlg hpg hgn hkey hsl hs hke hkb hci
      subst e2
      subst ei
      have HKE2 : Hid (∀ W, Calls Try.prog 7 #[.string s] W fun e w' => e = .returned (.tuple #[.string kb, .bool true]) ∧ Only (fun _ => False) W w') := HKE.out
      clear HKE
      have HE := hide (WB.new wr 42 (.string kb) (.int .i64 9) (.int .i64 (js : Int)))
      have HOE := hide (onlyA wr (.cells #[.string kb, .int .i64 9, .int .i64 (js : Int)] 42))
      obtain ⟨la, hla⟩ : ∃ x, lastG K.gn i = x := ⟨_, rfl⟩
      rw [hla] at hll ⊢
      clear hla
      have hl1 : ¬ ((js : Int) ≤ la) := by omega
      have hl2 : ¬ ((ni : Int) ≤ (js : Int)) := by omega
      have hj0 : (0 : Int) ≤ (js : Int) := by omega
      have hj1 : (js : Int) < (ni : Int) := by omega
      have hi0 : (0 : Int) ≤ (i : Int) := by omega
      have hi1 : (i : Int) < (m2 : Int) := by omega
      go_upto_region 9 with fail
      obtain ⟨w4, hw4⟩ : ∃ x, wr.alloc (.cells #[.string kb, .int .i64 9, .int .i64 (js : Int)] 42) = x := ⟨_, rfl⟩
      rw [hw4] at HE HOE ⊢
      clear hw4 k0 k1 k2 z0 z1 z2
      obtain ⟨b13, hb13⟩ : ∃ b, wr.heap.size = b := ⟨_, rfl⟩
      rw [hb13] at HE ⊢
      clear hb13
      have HO4 := hide (o2 HO.out HOE.out)
      obtain ⟨y0, y1, y2, _, _, _, _⟩ := HE.out
      obtain ⟨p0, p1, p2, p3, p4, p5, _⟩ := HP3.out.more HO4.out
      have ci := (HOE.out.cell (p := ⟨Bi, oi + js, none⟩) (World.block_lt_of_cell? wr ⟨Bi, oi + js, none⟩ HCI.out) (fun h => h)).trans HCI.out
      go_wp2_with fail
      refine (HKE2.out _).mono ?_
      rintro e w5 ⟨rfl, ho5⟩
      have HE5 := hide (HE.out.more ho5)
      have HO5 := hide (o2 HO4.out ho5)
      clear ho5 y0 y1 y2 p0 p1 p2 p3 p4 p5 ci
      obtain ⟨y0, y1, y2, _, _, _, _⟩ := HE5.out
      obtain ⟨z0, z1, z2, _, _, _, _⟩ := HW3.out.more HO5.out
      go_wp2_with fail
      clear y0 y1 y2 z0 z1 z2
      go_loopw [16] (fun v wr2 => ∃ (k : Nat), k ≤ m0 + m1 ∧ v = .int .i64 (k : Int) ∧ Hid (Only (fun _ => False) w5 wr2)) (fun v _ => m0 + m1 - (intOf v).toNat)
      case atStart => exact ⟨0, by omega, rfl, hide (Only.refl _ _)⟩
      case round =>
        obtain ⟨k, hk, rfl, HO6⟩ := hrel
        obtain ⟨y0, y1, y2, _, _, _, _⟩ := HE5.out.more HO6.out
        obtain ⟨z0, z1, z2, _, _, _, _⟩ := HW3.out.more (o2 HO5.out HO6.out)
        by_cases hkt : k < m0 + m1
        · have HKT := hide hkt
          have hk1 : (k : Int) < (m0 : Int) + (m1 : Int) := by omega
          have hk0 : (0 : Int) ≤ (k : Int) := by omega
          by_cases hkf : k < m0
          · have hlf : k < K.fr.length := by rw [HM0.out]; exact hkf
            obtain ⟨g0, e0, _, f0⟩ := HF0.out wr (o2 HA3.out (o2 HO5.out HO6.out)) k hlf
            have hne := HFN.out _ (List.getElem_mem hlf)
            obtain ⟨z, hz⟩ : ∃ z, K.fr[k] = z := ⟨_, rfl⟩
            rw [hz] at f0 hne
            subst e0
            have hk2 : (k : Int) < (m0 : Int) := by omega
            clear hz hlf
            go_wp2_with fail
            go_roundw
            case rel => exact ⟨k + 1, HKT.out, by go_num, HO6⟩
            case measure => have := HKT.out; simp [intOf]; omega
          · obtain ⟨d, hd⟩ : ∃ d, k = m0 + d := ⟨k - m0, by omega⟩
            have hlf : d < K.of.length := by rw [HM1.out]; omega
            obtain ⟨g1, e1, _, f1⟩ := HF1.out wr (o2 HA3.out (o2 HO5.out HO6.out)) d hlf
            have hne := HON.out _ (List.getElem_mem hlf)
            obtain ⟨z, hz⟩ : ∃ z, K.of[d] = z := ⟨_, rfl⟩
            rw [hz] at f1 hne
            subst e1
            have hk2 : ¬ (k : Int) < (m0 : Int) := by omega
            have hsub : (k : Int) - (m0 : Int) = (d : Int) := by omega
            have hd0 : (0 : Int) ≤ (d : Int) := by omega
            have hd1 : (d : Int) < (m1 : Int) := by omega
            clear hz hlf hd
            go_wp2_with fail
            go_roundw
            case rel => exact ⟨k + 1, HKT.out, by go_num, HO6⟩
            case measure => have := HKT.out; simp [intOf]; omega
        · have hk1 : ¬ (k : Int) < (m0 : Int) + (m1 : Int) := by omega
          go_wp2_with fail
          go_roundw
          case rel => exact ⟨i + 1, HLT.out, by go_num, by rw [HLS.out], hide (o2 HO5.out HO6.out)⟩
          case measure => have := HLT.out; simp [intOf]; omega
    · have hi1 : ¬ (i : Int) < (m2 : Int) := by omega
      have HOX := hide HO.out
      go_wp2_with fail
      clear z0 z1 z2
      go_loopw [18] (fun v wr2 => ∃ (i : Nat), i ≤ m0 ∧ v = .int .i64 (i : Int) ∧ Hid (Only (fun _ => False) W3 wr2)) (fun v _ => m0 - (intOf v).toNat)
      case atStart => exact ⟨0, by omega, rfl, HOX⟩
      case round =>
        clear HWR HO HOX
        obtain ⟨i, hi, rfl, HO⟩ := hrel
        have HWR := hide (HW3.out.more HO.out)
        obtain ⟨z0, z1, z2, _, _, _, _⟩ := HWR.out
        by_cases hlt : i < m0
        · have hlf : i < K.fr.length := by rw [HM0.out]; exact hlt
          have HPR := hide (HP3.out.more HO.out)
          obtain ⟨g0, e0, hg0, f0⟩ := HF0.out wr (o2 HA3.out HO.out) i hlf
          obtain ⟨js, hjs, hsl, _, _, hfz⟩ := HOK.out.fr _ (List.getElem_mem hlf)
          obtain ⟨oi, ei, hci⟩ := (HST3.out.more HO.out).at_ (by omega)
          have HCI := hide (hci js hjs)
          have hst := fzS_live hfz
          have HST := hide (fun W => ustate_any L[js] W)
          obtain ⟨s, hs⟩ : ∃ s, L[js] = s := ⟨_, rfl⟩
          rw [hs] at HCI hst HST
          rw [hst] at HST
          have hjn : js < ni := by rw [← HNI.out]; exact hjs
          have hj0 : (0 : Int) ≤ (js : Int) := by omega
          have hj1 : (js : Int) < (ni : Int) := by omega
          have hi0 : (0 : Int) ≤ (i : Int) := by omega
          have hi2 : (i : Int) < (m0 : Int) := by omega
          have HLT := hide hlt
          have HGL := hide hg0
          have HIL := hide (World.block_lt_of_cell? wr ⟨Bi, oi + js, none⟩ HCI.out)
          by_cases h0 : i = 0
          · rw [hsl] at f0
            have HC0 := hide f0
            subst e0
            subst ei
            have hgt : ¬ (0 : Int) < (i : Int) := by omega
            clear f0 hsl hfz hst hs hci hlf hg0
            go_upto_region 27 with fail
            clear z0 z1 z2
            refine wp_region_noPanic ?_
            refine wp_region_held_drew (S := fun W => Only (fun _ => False) wr W) (by kernel_rfl) (Only.drew _ wr) (fun hHeld => ?_)
            refine wpAnyH_take (i := 0) (oi := { dst := some 123, op := Op.move (Operand.tmp 18), type := 3, pos := "law.go:236", after := #[], guard := none }) (v := .int .i64 (i : Int)) rfl (by kernel_rfl) (by kernel_rfl) (by kernel_rfl) (fun _ _ _ h => h) (Or.inl ⟨by rfl, fun w' hSw => by clear hSw; go_simp⟩) (by assumption) ?_
            simp only [Act.put, List.setIfInBounds_toArray, List.set_cons_zero, List.set_cons_succ]
            refine wpAnyH_take (i := 1) (oi := { dst := some 124, op := Op.binOp BinOp.gtr 3 (Operand.tmp 123) (Operand.const (Value.int IntKind.i64 0)) 3, type := 4, pos := "law.go:236", after := #[{ on := 0, ground := Ground.data }], guard := none }) (v := .bool false) rfl (by kernel_rfl) (by kernel_rfl) (by kernel_rfl) (fun _ _ _ h => h) (Or.inl ⟨by rfl, fun w' hSw => by clear hSw; go_simp⟩) (by assumption) ?_
            simp only [Act.put, List.setIfInBounds_toArray, List.set_cons_zero, List.set_cons_succ]
            refine wpAnyH_take (i := 2) (oi := { dst := some 125, op := Op.move (Operand.tmp 124), type := 4, pos := "law.go:236", after := #[{ on := 1, ground := Ground.data }], guard := none }) (v := .bool false) rfl (by kernel_rfl) (by kernel_rfl) (by kernel_rfl) (fun _ _ _ h => h) (Or.inl ⟨by rfl, fun w' hSw => by clear hSw; go_simp⟩) (by assumption) ?_
            simp only [Act.put, List.setIfInBounds_toArray, List.set_cons_zero, List.set_cons_succ]
            refine wpAnyH_take (i := 3) (oi := { dst := some 126, op := Op.fieldAddr 39 (Operand.tmp 10) 0, type := 0, pos := "law.go:236", after := #[{ on := 2, ground := Ground.guard }], guard := some (2, true) }) (v := undef) rfl (by kernel_rfl) (by kernel_rfl) (by kernel_rfl) (fun _ _ _ h => h) (Or.inr ⟨by rfl, rfl⟩) (by assumption) ?_
            simp only [Act.put, List.setIfInBounds_toArray, List.set_cons_zero, List.set_cons_succ]
            refine wpAnyH_take (i := 5) (oi := { dst := some 128, op := Op.move (Operand.tmp 18), type := 3, pos := "law.go:236", after := #[{ on := 2, ground := Ground.guard }], guard := some (2, true) }) (v := undef) rfl (by kernel_rfl) (by kernel_rfl) (by kernel_rfl) (fun _ _ _ h => h) (Or.inr ⟨by rfl, rfl⟩) (by assumption) ?_
            simp only [Act.put, List.setIfInBounds_toArray, List.set_cons_zero, List.set_cons_succ]
            refine wpAnyH_take (i := 8) (oi := { dst := some 131, op := Op.fieldAddr 39 (Operand.tmp 10) 0, type := 0, pos := "law.go:236", after := #[{ on := 2, ground := Ground.guard }], guard := some (2, true) }) (v := undef) rfl (by kernel_rfl) (by kernel_rfl) (by kernel_rfl) (fun _ _ _ h => h) (Or.inr ⟨by rfl, rfl⟩) (by assumption) ?_
            simp only [Act.put, List.setIfInBounds_toArray, List.set_cons_zero, List.set_cons_succ]
            refine wpAnyH_take (i := 10) (oi := { dst := some 133, op := Op.move (Operand.tmp 18), type := 3, pos := "law.go:236", after := #[{ on := 2, ground := Ground.guard }], guard := some (2, true) }) (v := undef) rfl (by kernel_rfl) (by kernel_rfl) (by kernel_rfl) (fun _ _ _ h => h) (Or.inr ⟨by rfl, rfl⟩) (by assumption) ?_
            simp only [Act.put, List.setIfInBounds_toArray, List.set_cons_zero, List.set_cons_succ]
            refine wpAnyH_take (i := 4) (oi := { dst := some 127, op := Op.load 25 (Operand.tmp 126), type := 25, pos := "law.go:236", after := #[{ on := 3, ground := Ground.data }, { on := 2, ground := Ground.guard }], guard := some (2, true) }) (v := undef) rfl (by kernel_rfl) (by kernel_rfl) (by kernel_rfl) (fun _ _ _ h => h) (Or.inr ⟨by rfl, rfl⟩) (by assumption) ?_
            simp only [Act.put, List.setIfInBounds_toArray, List.set_cons_zero, List.set_cons_succ]
            refine wpAnyH_take (i := 9) (oi := { dst := some 132, op := Op.load 25 (Operand.tmp 131), type := 25, pos := "law.go:236", after := #[{ on := 8, ground := Ground.data }, { on := 2, ground := Ground.guard }], guard := some (2, true) }) (v := undef) rfl (by kernel_rfl) (by kernel_rfl) (by kernel_rfl) (fun _ _ _ h => h) (Or.inr ⟨by rfl, rfl⟩) (by assumption) ?_
            simp only [Act.put, List.setIfInBounds_toArray, List.set_cons_zero, List.set_cons_succ]
            refine wpAnyH_take (i := 11) (oi := { dst := some 134, op := Op.binOp BinOp.sub 3 (Operand.tmp 133) (Operand.const (Value.int IntKind.i64 1)) 3, type := 3, pos := "law.go:236", after := #[{ on := 10, ground := Ground.data }, { on := 2, ground := Ground.guard }], guard := some (2, true) }) (v := undef) rfl (by kernel_rfl) (by kernel_rfl) (by kernel_rfl) (fun _ _ _ h => h) (Or.inr ⟨by rfl, rfl⟩) (by assumption) ?_
            simp only [Act.put, List.setIfInBounds_toArray, List.set_cons_zero, List.set_cons_succ]
            refine wpAnyH_take (i := 6) (oi := { dst := some 129, op := Op.indexAddr 25 (Operand.tmp 127) (Operand.tmp 128), type := 0, pos := "law.go:236", after := #[{ on := 4, ground := Ground.data }, { on := 5, ground := Ground.data }, { on := 2, ground := Ground.guard }], guard := some (2, true) }) (v := undef) rfl (by kernel_rfl) (by kernel_rfl) (by kernel_rfl) (fun _ _ _ h => h) (Or.inr ⟨by rfl, rfl⟩) (by assumption) ?_
            simp only [Act.put, List.setIfInBounds_toArray, List.set_cons_zero, List.set_cons_succ]
            refine wpAnyH_take (i := 12) (oi := { dst := some 135, op := Op.indexAddr 25 (Operand.tmp 132) (Operand.tmp 134), type := 0, pos := "law.go:236", after := #[{ on := 9, ground := Ground.data }, { on := 11, ground := Ground.data }, { on := 2, ground := Ground.guard }], guard := some (2, true) }) (v := undef) rfl (by kernel_rfl) (by kernel_rfl) (by kernel_rfl) (fun _ _ _ h => h) (Or.inr ⟨by rfl, rfl⟩) (by assumption) ?_
            simp only [Act.put, List.setIfInBounds_toArray, List.set_cons_zero, List.set_cons_succ]
            refine wpAnyH_take (i := 7) (oi := { dst := some 130, op := Op.load 3 (Operand.tmp 129), type := 3, pos := "law.go:236", after := #[{ on := 6, ground := Ground.data }, { on := 2, ground := Ground.guard }], guard := some (2, true) }) (v := undef) rfl (by kernel_rfl) (by kernel_rfl) (by kernel_rfl) (fun _ _ _ h => h) (Or.inr ⟨by rfl, rfl⟩) (by assumption) ?_
            simp only [Act.put, List.setIfInBounds_toArray, List.set_cons_zero, List.set_cons_succ]
            refine wpAnyH_take (i := 13) (oi := { dst := some 136, op := Op.load 3 (Operand.tmp 135), type := 3, pos := "law.go:236", after := #[{ on := 12, ground := Ground.data }, { on := 2, ground := Ground.guard }], guard := some (2, true) }) (v := undef) rfl (by kernel_rfl) (by kernel_rfl) (by kernel_rfl) (fun _ _ _ h => h) (Or.inr ⟨by rfl, rfl⟩) (by assumption) ?_
            simp only [Act.put, List.setIfInBounds_toArray, List.set_cons_zero, List.set_cons_succ]
            refine wpAnyH_take (i := 14) (oi := { dst := some 137, op := Op.binOp BinOp.leq 3 (Operand.tmp 130) (Operand.tmp 136) 3, type := 4, pos := "law.go:236", after := #[{ on := 7, ground := Ground.data }, { on := 13, ground := Ground.data }, { on := 2, ground := Ground.guard }], guard := some (2, true) }) (v := undef) rfl (by kernel_rfl) (by kernel_rfl) (by kernel_rfl) (fun _ _ _ h => h) (Or.inr ⟨by rfl, rfl⟩) (by assumption) ?_
            simp only [Act.put, List.setIfInBounds_toArray, List.set_cons_zero, List.set_cons_succ]
            refine wpAnyH_take (i := 15) (oi := { dst := some 138, op := Op.pick (Operand.tmp 125) (Operand.tmp 137) (Operand.const (Value.bool false)), type := 4, pos := "law.go:236", after := #[{ on := 2, ground := Ground.data }, { on := 14, ground := Ground.data }], guard := none }) (v := .bool false) rfl (by kernel_rfl) (by kernel_rfl) (by kernel_rfl) (fun _ _ _ h => h) (Or.inl ⟨by rfl, fun w' hSw => by clear hSw; go_simp⟩) (by assumption) ?_
            simp only [Act.put, List.setIfInBounds_toArray, List.set_cons_zero, List.set_cons_succ]
            refine wpAnyH_take (i := 16) (oi := { dst := some 139, op := Op.move (Operand.tmp 138), type := 4, pos := "law.go:236", after := #[{ on := 15, ground := Ground.data }, { on := 2, ground := Ground.chain }], guard := none }) (v := .bool false) rfl (by kernel_rfl) (by kernel_rfl) (by kernel_rfl) (fun _ _ _ h => h) (Or.inl ⟨by rfl, fun w' hSw => by clear hSw; go_simp⟩) (by assumption) ?_
            simp only [Act.put, List.setIfInBounds_toArray, List.set_cons_zero, List.set_cons_succ]
            refine wpAnyH_take (i := 17) (oi := { dst := some 140, op := Op.fieldAddr 30 (Operand.tmp 9) 5, type := 0, pos := "law.go:236", after := #[{ on := 16, ground := Ground.guard }], guard := some (16, false) }) (v := .pointer (some ⟨b9, 5, none⟩)) rfl (by kernel_rfl) (by kernel_rfl) (by kernel_rfl) (fun _ _ _ h => h) (Or.inl ⟨by rfl, fun w' hSw => by clear hSw; go_simp⟩) (by assumption) ?_
            simp only [Act.put, List.setIfInBounds_toArray, List.set_cons_zero, List.set_cons_succ]
            refine wpAnyH_take (i := 19) (oi := { dst := some 142, op := Op.fieldAddr 39 (Operand.tmp 10) 0, type := 0, pos := "law.go:236", after := #[{ on := 16, ground := Ground.guard }], guard := some (16, false) }) (v := .pointer (some ⟨b10, 0, none⟩)) rfl (by kernel_rfl) (by kernel_rfl) (by kernel_rfl) (fun _ _ _ h => h) (Or.inl ⟨by rfl, fun w' hSw => by clear hSw; go_simp⟩) (by assumption) ?_
            simp only [Act.put, List.setIfInBounds_toArray, List.set_cons_zero, List.set_cons_succ]
            refine wpAnyH_take (i := 21) (oi := { dst := some 144, op := Op.move (Operand.tmp 18), type := 3, pos := "law.go:236", after := #[{ on := 16, ground := Ground.guard }], guard := some (16, false) }) (v := .int .i64 (i : Int)) rfl (by kernel_rfl) (by kernel_rfl) (by kernel_rfl) (fun _ _ _ h => h) (Or.inl ⟨by rfl, fun w' hSw => by clear hSw; go_simp⟩) (by assumption) ?_
            simp only [Act.put, List.setIfInBounds_toArray, List.set_cons_zero, List.set_cons_succ]
            refine wpAnyH_take (i := 18) (oi := { dst := some 141, op := Op.load 28 (Operand.tmp 140), type := 28, pos := "law.go:236", after := #[{ on := 17, ground := Ground.data }, { on := 16, ground := Ground.guard }], guard := some (16, false) }) (v := .slice (some ⟨Bi, oi, none⟩) ni ci) rfl (by kernel_rfl) (by kernel_rfl) (by kernel_rfl) (fun _ _ _ h => h) (yieldsIf_load_cell (by rfl) 28 _ rfl _ rfl (fun W hW => ((HPR.out.more hW).c5)) (fun W hc => ld_strings hc)) (by assumption) ?_
            simp only [Act.put, List.setIfInBounds_toArray, List.set_cons_zero, List.set_cons_succ]
            refine wpAnyH_take (i := 20) (oi := { dst := some 143, op := Op.load 25 (Operand.tmp 142), type := 25, pos := "law.go:236", after := #[{ on := 19, ground := Ground.data }, { on := 16, ground := Ground.guard }], guard := some (16, false) }) (v := .slice (some ⟨g0, 0, none⟩) m0 c0) rfl (by kernel_rfl) (by kernel_rfl) (by kernel_rfl) (fun _ _ _ h => h) (yieldsIf_load_cell (by rfl) 25 _ rfl _ rfl (fun W hW => ((HWR.out.more hW).c0)) (fun W hc => ld_ints hc)) (by assumption) ?_
            simp only [Act.put, List.setIfInBounds_toArray, List.set_cons_zero, List.set_cons_succ]
            refine wpAnyH_take (i := 22) (oi := { dst := some 145, op := Op.indexAddr 25 (Operand.tmp 143) (Operand.tmp 144), type := 0, pos := "law.go:236", after := #[{ on := 20, ground := Ground.data }, { on := 21, ground := Ground.data }, { on := 16, ground := Ground.guard }], guard := some (16, false) }) (v := .pointer (some ⟨g0, i, none⟩)) rfl (by kernel_rfl) (by kernel_rfl) (by kernel_rfl) (fun _ _ _ h => h) (Or.inl ⟨by rfl, fun w' hSw => by clear hSw; go_simp⟩) (by assumption) ?_
            simp only [Act.put, List.setIfInBounds_toArray, List.set_cons_zero, List.set_cons_succ]
            refine wpAnyH_take (i := 23) (oi := { dst := some 146, op := Op.load 3 (Operand.tmp 145), type := 3, pos := "law.go:236", after := #[{ on := 22, ground := Ground.data }, { on := 16, ground := Ground.guard }], guard := some (16, false) }) (v := .int .i64 (js : Int)) rfl (by kernel_rfl) (by kernel_rfl) (by kernel_rfl) (fun _ _ _ h => h) (yieldsIf_load_cell (by rfl) 3 _ rfl _ rfl (fun W hW => (hW.cell (p := ⟨g0, i, none⟩) HGL.out (fun h => h)).trans HC0.out) (fun W hc => ld_int hc)) (by assumption) ?_
            simp only [Act.put, List.setIfInBounds_toArray, List.set_cons_zero, List.set_cons_succ]
            refine wpAnyH_take (i := 24) (oi := { dst := some 147, op := Op.indexAddr 28 (Operand.tmp 141) (Operand.tmp 146), type := 0, pos := "law.go:236", after := #[{ on := 18, ground := Ground.data }, { on := 23, ground := Ground.data }, { on := 16, ground := Ground.guard }], guard := some (16, false) }) (v := .pointer (some ⟨Bi, oi + js, none⟩)) rfl (by kernel_rfl) (by kernel_rfl) (by kernel_rfl) (fun _ _ _ h => h) (Or.inl ⟨by rfl, fun w' hSw => by clear hSw; go_simp⟩) (by assumption) ?_
            simp only [Act.put, List.setIfInBounds_toArray, List.set_cons_zero, List.set_cons_succ]
            refine wpAnyH_take (i := 25) (oi := { dst := some 148, op := Op.load 9 (Operand.tmp 147), type := 9, pos := "law.go:236", after := #[{ on := 24, ground := Ground.data }, { on := 16, ground := Ground.guard }], guard := some (16, false) }) (v := .string s) rfl (by kernel_rfl) (by kernel_rfl) (by kernel_rfl) (fun _ _ _ h => h) (yieldsIf_load_cell (by rfl) 9 _ rfl _ rfl (fun W hW => (hW.cell (p := ⟨Bi, oi + js, none⟩) HIL.out (fun h => h)).trans HCI.out) (fun W hc => ld_string hc)) (by assumption) ?_
            simp only [Act.put, List.setIfInBounds_toArray, List.set_cons_zero, List.set_cons_succ]
            refine wpAnyH_ready (rs := [26]) (by kernel_rfl) (by simp) ?_
            refine AllReadyH.cons (o := { dst := some 149, op := Op.call { callee := Callee.value (Operand.func 8), args := #[Operand.tmp 148], argTypes := #[9] }, type := 45, pos := "law.go:236", after := #[{ on := 25, ground := Ground.data }, { on := 16, ground := Ground.chain }, { on := 16, ground := Ground.guard }], guard := some (16, false) }) rfl (fun K hK => ?_) (AllReadyH.nil)
            go_simp
            refine (HST.out _).mono ?_
            rintro e w7 ⟨rfl, ho7⟩
            have HO7 := hide (o2 (Only.drew (fun _ => False) wr) ho7)
            clear ho7
            refine hK.out _ _ (HO7.out) (fun hHeld => ?_)
            clear hK K
            try simp only [Act.put, List.setIfInBounds_toArray, List.set_cons_zero, List.set_cons_succ]
            refine wpAnyH_take (i := 27) (oi := { dst := some 150, op := Op.binOp BinOp.neq 45 (Operand.tmp 149) (Operand.const (Value.int IntKind.u8 3)) 45, type := 4, pos := "law.go:236", after := #[{ on := 26, ground := Ground.data }, { on := 16, ground := Ground.guard }], guard := some (16, false) }) (v := .bool false) rfl (by kernel_rfl) (by kernel_rfl) (by kernel_rfl) (fun _ _ _ h => h) (Or.inl ⟨by rfl, fun w' hSw => by clear hSw; go_simp⟩) (by assumption) ?_
            simp only [Act.put, List.setIfInBounds_toArray, List.set_cons_zero, List.set_cons_succ]
            refine wpAnyH_take (i := 28) (oi := { dst := some 151, op := Op.pick (Operand.tmp 139) (Operand.const (Value.bool true)) (Operand.tmp 150), type := 4, pos := "law.go:236", after := #[{ on := 16, ground := Ground.data }, { on := 27, ground := Ground.data }], guard := none }) (v := .bool false) rfl (by kernel_rfl) (by kernel_rfl) (by kernel_rfl) (fun _ _ _ h => h) (Or.inl ⟨by rfl, fun w' hSw => by clear hSw; go_simp⟩) (by assumption) ?_
            simp only [Act.put, List.setIfInBounds_toArray, List.set_cons_zero, List.set_cons_succ]
            refine wpAnyH_done (by kernel_rfl) ?_ _
            refine NoPanic.normal ?_
            go_wp2_with fail
            go_roundw
            case rel => exact ⟨i + 1, HLT.out, by go_num, hide (o2 HO.out HO7.out)⟩
            case measure => have := HLT.out; simp [intOf]; omega
          · have hlp : i - 1 < K.fr.length := by omega
            obtain ⟨g0b, e0b, _, fp⟩ := HF0.out wr (o2 HA3.out HO.out) (i - 1) hlp
            have hri := HOK.out.risF (i - 1) i hlf (by omega)
            rw [hsl] at f0 hri
            obtain ⟨jp, hjp⟩ : ∃ z, K.fr[i - 1] = z := ⟨_, rfl⟩
            rw [hjp] at fp hri
            subst e0
            injection e0b with e0c
            injection e0c with e0d _ _
            subst e0d
            have HC0 := hide f0
            have HCP := hide fp
            subst ei
            have hgt : (0 : Int) < (i : Int) := by omega
            have hle : ¬ ((js : Int) ≤ jp) := by omega
            have hip : (0 : Int) ≤ (i : Int) - 1 := by omega
            have hiq : (i : Int) - 1 < (m0 : Int) := by omega
            have hsb : ((i : Int) - 1).toNat = i - 1 := by omega
            have hgn : 0 < i := by omega
            have hi3 : ¬ (i : Int) < 1 := by omega
            have hwr : IntKind.i64.wrap ((i : Int) - 1) = (i : Int) - 1 := wraps_i64 _ (by omega) (by omega)
            clear f0 fp hsl hfz hst hs hci hlf hlp hg0 hjp hri
            go_upto_region 27 with fail
            clear z0 z1 z2
            refine wp_region_noPanic ?_
            refine wp_region_held_drew (S := fun W => Only (fun _ => False) wr W) (by kernel_rfl) (Only.drew _ wr) (fun hHeld => ?_)
            refine wpAnyH_take (i := 0) (oi := { dst := some 123, op := Op.move (Operand.tmp 18), type := 3, pos := "law.go:236", after := #[], guard := none }) (v := .int .i64 (i : Int)) rfl (by kernel_rfl) (by kernel_rfl) (by kernel_rfl) (fun _ _ _ h => h) (Or.inl ⟨by rfl, fun w' hSw => by clear hSw; go_simp⟩) (by assumption) ?_
            simp only [Act.put, List.setIfInBounds_toArray, List.set_cons_zero, List.set_cons_succ]
            refine wpAnyH_take (i := 1) (oi := { dst := some 124, op := Op.binOp BinOp.gtr 3 (Operand.tmp 123) (Operand.const (Value.int IntKind.i64 0)) 3, type := 4, pos := "law.go:236", after := #[{ on := 0, ground := Ground.data }], guard := none }) (v := .bool true) rfl (by kernel_rfl) (by kernel_rfl) (by kernel_rfl) (fun _ _ _ h => h) (Or.inl ⟨by rfl, fun w' hSw => by clear hSw; go_simp⟩) (by assumption) ?_
            simp only [Act.put, List.setIfInBounds_toArray, List.set_cons_zero, List.set_cons_succ]
            refine wpAnyH_take (i := 2) (oi := { dst := some 125, op := Op.move (Operand.tmp 124), type := 4, pos := "law.go:236", after := #[{ on := 1, ground := Ground.data }], guard := none }) (v := .bool true) rfl (by kernel_rfl) (by kernel_rfl) (by kernel_rfl) (fun _ _ _ h => h) (Or.inl ⟨by rfl, fun w' hSw => by clear hSw; go_simp⟩) (by assumption) ?_
            simp only [Act.put, List.setIfInBounds_toArray, List.set_cons_zero, List.set_cons_succ]
            refine wpAnyH_take (i := 3) (oi := { dst := some 126, op := Op.fieldAddr 39 (Operand.tmp 10) 0, type := 0, pos := "law.go:236", after := #[{ on := 2, ground := Ground.guard }], guard := some (2, true) }) (v := .pointer (some ⟨b10, 0, none⟩)) rfl (by kernel_rfl) (by kernel_rfl) (by kernel_rfl) (fun _ _ _ h => h) (Or.inl ⟨by rfl, fun w' hSw => by clear hSw; go_simp⟩) (by assumption) ?_
            simp only [Act.put, List.setIfInBounds_toArray, List.set_cons_zero, List.set_cons_succ]
            refine wpAnyH_take (i := 5) (oi := { dst := some 128, op := Op.move (Operand.tmp 18), type := 3, pos := "law.go:236", after := #[{ on := 2, ground := Ground.guard }], guard := some (2, true) }) (v := .int .i64 (i : Int)) rfl (by kernel_rfl) (by kernel_rfl) (by kernel_rfl) (fun _ _ _ h => h) (Or.inl ⟨by rfl, fun w' hSw => by clear hSw; go_simp⟩) (by assumption) ?_
            simp only [Act.put, List.setIfInBounds_toArray, List.set_cons_zero, List.set_cons_succ]
            refine wpAnyH_take (i := 8) (oi := { dst := some 131, op := Op.fieldAddr 39 (Operand.tmp 10) 0, type := 0, pos := "law.go:236", after := #[{ on := 2, ground := Ground.guard }], guard := some (2, true) }) (v := .pointer (some ⟨b10, 0, none⟩)) rfl (by kernel_rfl) (by kernel_rfl) (by kernel_rfl) (fun _ _ _ h => h) (Or.inl ⟨by rfl, fun w' hSw => by clear hSw; go_simp⟩) (by assumption) ?_
            simp only [Act.put, List.setIfInBounds_toArray, List.set_cons_zero, List.set_cons_succ]
            refine wpAnyH_take (i := 10) (oi := { dst := some 133, op := Op.move (Operand.tmp 18), type := 3, pos := "law.go:236", after := #[{ on := 2, ground := Ground.guard }], guard := some (2, true) }) (v := .int .i64 (i : Int)) rfl (by kernel_rfl) (by kernel_rfl) (by kernel_rfl) (fun _ _ _ h => h) (Or.inl ⟨by rfl, fun w' hSw => by clear hSw; go_simp⟩) (by assumption) ?_
            simp only [Act.put, List.setIfInBounds_toArray, List.set_cons_zero, List.set_cons_succ]
            refine wpAnyH_take (i := 4) (oi := { dst := some 127, op := Op.load 25 (Operand.tmp 126), type := 25, pos := "law.go:236", after := #[{ on := 3, ground := Ground.data }, { on := 2, ground := Ground.guard }], guard := some (2, true) }) (v := .slice (some ⟨g0, 0, none⟩) m0 c0) rfl (by kernel_rfl) (by kernel_rfl) (by kernel_rfl) (fun _ _ _ h => h) (yieldsIf_load_cell (by rfl) 25 _ rfl _ rfl (fun W hW => ((HWR.out.more hW).c0)) (fun W hc => ld_ints hc)) (by assumption) ?_
            simp only [Act.put, List.setIfInBounds_toArray, List.set_cons_zero, List.set_cons_succ]
            refine wpAnyH_take (i := 9) (oi := { dst := some 132, op := Op.load 25 (Operand.tmp 131), type := 25, pos := "law.go:236", after := #[{ on := 8, ground := Ground.data }, { on := 2, ground := Ground.guard }], guard := some (2, true) }) (v := .slice (some ⟨g0, 0, none⟩) m0 c0) rfl (by kernel_rfl) (by kernel_rfl) (by kernel_rfl) (fun _ _ _ h => h) (yieldsIf_load_cell (by rfl) 25 _ rfl _ rfl (fun W hW => ((HWR.out.more hW).c0)) (fun W hc => ld_ints hc)) (by assumption) ?_
            simp only [Act.put, List.setIfInBounds_toArray, List.set_cons_zero, List.set_cons_succ]
            refine wpAnyH_take (i := 11) (oi := { dst := some 134, op := Op.binOp BinOp.sub 3 (Operand.tmp 133) (Operand.const (Value.int IntKind.i64 1)) 3, type := 3, pos := "law.go:236", after := #[{ on := 10, ground := Ground.data }, { on := 2, ground := Ground.guard }], guard := some (2, true) }) (v := .int .i64 ((i : Int) - 1)) rfl (by kernel_rfl) (by kernel_rfl) (by kernel_rfl) (fun _ _ _ h => h) (Or.inl ⟨by rfl, fun w' hSw => by clear hSw; go_simp⟩) (by assumption) ?_
            simp only [Act.put, List.setIfInBounds_toArray, List.set_cons_zero, List.set_cons_succ]
            refine wpAnyH_take (i := 6) (oi := { dst := some 129, op := Op.indexAddr 25 (Operand.tmp 127) (Operand.tmp 128), type := 0, pos := "law.go:236", after := #[{ on := 4, ground := Ground.data }, { on := 5, ground := Ground.data }, { on := 2, ground := Ground.guard }], guard := some (2, true) }) (v := .pointer (some ⟨g0, i, none⟩)) rfl (by kernel_rfl) (by kernel_rfl) (by kernel_rfl) (fun _ _ _ h => h) (Or.inl ⟨by rfl, fun w' hSw => by clear hSw; go_simp⟩) (by assumption) ?_
            simp only [Act.put, List.setIfInBounds_toArray, List.set_cons_zero, List.set_cons_succ]
            refine wpAnyH_take (i := 12) (oi := { dst := some 135, op := Op.indexAddr 25 (Operand.tmp 132) (Operand.tmp 134), type := 0, pos := "law.go:236", after := #[{ on := 9, ground := Ground.data }, { on := 11, ground := Ground.data }, { on := 2, ground := Ground.guard }], guard := some (2, true) }) (v := .pointer (some ⟨g0, i - 1, none⟩)) rfl (by kernel_rfl) (by kernel_rfl) (by kernel_rfl) (fun _ _ _ h => h) (Or.inl ⟨by rfl, fun w' hSw => by clear hSw; go_simp⟩) (by assumption) ?_
            simp only [Act.put, List.setIfInBounds_toArray, List.set_cons_zero, List.set_cons_succ]
            refine wpAnyH_take (i := 7) (oi := { dst := some 130, op := Op.load 3 (Operand.tmp 129), type := 3, pos := "law.go:236", after := #[{ on := 6, ground := Ground.data }, { on := 2, ground := Ground.guard }], guard := some (2, true) }) (v := .int .i64 (js : Int)) rfl (by kernel_rfl) (by kernel_rfl) (by kernel_rfl) (fun _ _ _ h => h) (yieldsIf_load_cell (by rfl) 3 _ rfl _ rfl (fun W hW => (hW.cell (p := ⟨g0, i, none⟩) HGL.out (fun h => h)).trans HC0.out) (fun W hc => ld_int hc)) (by assumption) ?_
            simp only [Act.put, List.setIfInBounds_toArray, List.set_cons_zero, List.set_cons_succ]
            refine wpAnyH_take (i := 13) (oi := { dst := some 136, op := Op.load 3 (Operand.tmp 135), type := 3, pos := "law.go:236", after := #[{ on := 12, ground := Ground.data }, { on := 2, ground := Ground.guard }], guard := some (2, true) }) (v := .int .i64 jp) rfl (by kernel_rfl) (by kernel_rfl) (by kernel_rfl) (fun _ _ _ h => h) (yieldsIf_load_cell (by rfl) 3 _ rfl _ rfl (fun W hW => (hW.cell (p := ⟨g0, i - 1, none⟩) HGL.out (fun h => h)).trans HCP.out) (fun W hc => ld_int hc)) (by assumption) ?_
            simp only [Act.put, List.setIfInBounds_toArray, List.set_cons_zero, List.set_cons_succ]
            refine wpAnyH_take (i := 14) (oi := { dst := some 137, op := Op.binOp BinOp.leq 3 (Operand.tmp 130) (Operand.tmp 136) 3, type := 4, pos := "law.go:236", after := #[{ on := 7, ground := Ground.data }, { on := 13, ground := Ground.data }, { on := 2, ground := Ground.guard }], guard := some (2, true) }) (v := .bool false) rfl (by kernel_rfl) (by kernel_rfl) (by kernel_rfl) (fun _ _ _ h => h) (Or.inl ⟨by rfl, fun w' hSw => by clear hSw; go_simp⟩) (by assumption) ?_
            simp only [Act.put, List.setIfInBounds_toArray, List.set_cons_zero, List.set_cons_succ]
            refine wpAnyH_take (i := 15) (oi := { dst := some 138, op := Op.pick (Operand.tmp 125) (Operand.tmp 137) (Operand.const (Value.bool false)), type := 4, pos := "law.go:236", after := #[{ on := 2, ground := Ground.data }, { on := 14, ground := Ground.data }], guard := none }) (v := .bool false) rfl (by kernel_rfl) (by kernel_rfl) (by kernel_rfl) (fun _ _ _ h => h) (Or.inl ⟨by rfl, fun w' hSw => by clear hSw; go_simp⟩) (by assumption) ?_
            simp only [Act.put, List.setIfInBounds_toArray, List.set_cons_zero, List.set_cons_succ]
            refine wpAnyH_take (i := 16) (oi := { dst := some 139, op := Op.move (Operand.tmp 138), type := 4, pos := "law.go:236", after := #[{ on := 15, ground := Ground.data }, { on := 2, ground := Ground.chain }], guard := none }) (v := .bool false) rfl (by kernel_rfl) (by kernel_rfl) (by kernel_rfl) (fun _ _ _ h => h) (Or.inl ⟨by rfl, fun w' hSw => by clear hSw; go_simp⟩) (by assumption) ?_
            simp only [Act.put, List.setIfInBounds_toArray, List.set_cons_zero, List.set_cons_succ]
            refine wpAnyH_take (i := 17) (oi := { dst := some 140, op := Op.fieldAddr 30 (Operand.tmp 9) 5, type := 0, pos := "law.go:236", after := #[{ on := 16, ground := Ground.guard }], guard := some (16, false) }) (v := .pointer (some ⟨b9, 5, none⟩)) rfl (by kernel_rfl) (by kernel_rfl) (by kernel_rfl) (fun _ _ _ h => h) (Or.inl ⟨by rfl, fun w' hSw => by clear hSw; go_simp⟩) (by assumption) ?_
            simp only [Act.put, List.setIfInBounds_toArray, List.set_cons_zero, List.set_cons_succ]
            refine wpAnyH_take (i := 19) (oi := { dst := some 142, op := Op.fieldAddr 39 (Operand.tmp 10) 0, type := 0, pos := "law.go:236", after := #[{ on := 16, ground := Ground.guard }], guard := some (16, false) }) (v := .pointer (some ⟨b10, 0, none⟩)) rfl (by kernel_rfl) (by kernel_rfl) (by kernel_rfl) (fun _ _ _ h => h) (Or.inl ⟨by rfl, fun w' hSw => by clear hSw; go_simp⟩) (by assumption) ?_
            simp only [Act.put, List.setIfInBounds_toArray, List.set_cons_zero, List.set_cons_succ]
            refine wpAnyH_take (i := 21) (oi := { dst := some 144, op := Op.move (Operand.tmp 18), type := 3, pos := "law.go:236", after := #[{ on := 16, ground := Ground.guard }], guard := some (16, false) }) (v := .int .i64 (i : Int)) rfl (by kernel_rfl) (by kernel_rfl) (by kernel_rfl) (fun _ _ _ h => h) (Or.inl ⟨by rfl, fun w' hSw => by clear hSw; go_simp⟩) (by assumption) ?_
            simp only [Act.put, List.setIfInBounds_toArray, List.set_cons_zero, List.set_cons_succ]
            refine wpAnyH_take (i := 18) (oi := { dst := some 141, op := Op.load 28 (Operand.tmp 140), type := 28, pos := "law.go:236", after := #[{ on := 17, ground := Ground.data }, { on := 16, ground := Ground.guard }], guard := some (16, false) }) (v := .slice (some ⟨Bi, oi, none⟩) ni ci) rfl (by kernel_rfl) (by kernel_rfl) (by kernel_rfl) (fun _ _ _ h => h) (yieldsIf_load_cell (by rfl) 28 _ rfl _ rfl (fun W hW => ((HPR.out.more hW).c5)) (fun W hc => ld_strings hc)) (by assumption) ?_
            simp only [Act.put, List.setIfInBounds_toArray, List.set_cons_zero, List.set_cons_succ]
            refine wpAnyH_take (i := 20) (oi := { dst := some 143, op := Op.load 25 (Operand.tmp 142), type := 25, pos := "law.go:236", after := #[{ on := 19, ground := Ground.data }, { on := 16, ground := Ground.guard }], guard := some (16, false) }) (v := .slice (some ⟨g0, 0, none⟩) m0 c0) rfl (by kernel_rfl) (by kernel_rfl) (by kernel_rfl) (fun _ _ _ h => h) (yieldsIf_load_cell (by rfl) 25 _ rfl _ rfl (fun W hW => ((HWR.out.more hW).c0)) (fun W hc => ld_ints hc)) (by assumption) ?_
            simp only [Act.put, List.setIfInBounds_toArray, List.set_cons_zero, List.set_cons_succ]
            refine wpAnyH_take (i := 22) (oi := { dst := some 145, op := Op.indexAddr 25 (Operand.tmp 143) (Operand.tmp 144), type := 0, pos := "law.go:236", after := #[{ on := 20, ground := Ground.data }, { on := 21, ground := Ground.data }, { on := 16, ground := Ground.guard }], guard := some (16, false) }) (v := .pointer (some ⟨g0, i, none⟩)) rfl (by kernel_rfl) (by kernel_rfl) (by kernel_rfl) (fun _ _ _ h => h) (Or.inl ⟨by rfl, fun w' hSw => by clear hSw; go_simp⟩) (by assumption) ?_
            simp only [Act.put, List.setIfInBounds_toArray, List.set_cons_zero, List.set_cons_succ]
            refine wpAnyH_take (i := 23) (oi := { dst := some 146, op := Op.load 3 (Operand.tmp 145), type := 3, pos := "law.go:236", after := #[{ on := 22, ground := Ground.data }, { on := 16, ground := Ground.guard }], guard := some (16, false) }) (v := .int .i64 (js : Int)) rfl (by kernel_rfl) (by kernel_rfl) (by kernel_rfl) (fun _ _ _ h => h) (yieldsIf_load_cell (by rfl) 3 _ rfl _ rfl (fun W hW => (hW.cell (p := ⟨g0, i, none⟩) HGL.out (fun h => h)).trans HC0.out) (fun W hc => ld_int hc)) (by assumption) ?_
            simp only [Act.put, List.setIfInBounds_toArray, List.set_cons_zero, List.set_cons_succ]
            refine wpAnyH_take (i := 24) (oi := { dst := some 147, op := Op.indexAddr 28 (Operand.tmp 141) (Operand.tmp 146), type := 0, pos := "law.go:236", after := #[{ on := 18, ground := Ground.data }, { on := 23, ground := Ground.data }, { on := 16, ground := Ground.guard }], guard := some (16, false) }) (v := .pointer (some ⟨Bi, oi + js, none⟩)) rfl (by kernel_rfl) (by kernel_rfl) (by kernel_rfl) (fun _ _ _ h => h) (Or.inl ⟨by rfl, fun w' hSw => by clear hSw; go_simp⟩) (by assumption) ?_
            simp only [Act.put, List.setIfInBounds_toArray, List.set_cons_zero, List.set_cons_succ]
            refine wpAnyH_take (i := 25) (oi := { dst := some 148, op := Op.load 9 (Operand.tmp 147), type := 9, pos := "law.go:236", after := #[{ on := 24, ground := Ground.data }, { on := 16, ground := Ground.guard }], guard := some (16, false) }) (v := .string s) rfl (by kernel_rfl) (by kernel_rfl) (by kernel_rfl) (fun _ _ _ h => h) (yieldsIf_load_cell (by rfl) 9 _ rfl _ rfl (fun W hW => (hW.cell (p := ⟨Bi, oi + js, none⟩) HIL.out (fun h => h)).trans HCI.out) (fun W hc => ld_string hc)) (by assumption) ?_
            simp only [Act.put, List.setIfInBounds_toArray, List.set_cons_zero, List.set_cons_succ]
            refine wpAnyH_ready (rs := [26]) (by kernel_rfl) (by simp) ?_
            refine AllReadyH.cons (o := { dst := some 149, op := Op.call { callee := Callee.value (Operand.func 8), args := #[Operand.tmp 148], argTypes := #[9] }, type := 45, pos := "law.go:236", after := #[{ on := 25, ground := Ground.data }, { on := 16, ground := Ground.chain }, { on := 16, ground := Ground.guard }], guard := some (16, false) }) rfl (fun K hK => ?_) (AllReadyH.nil)
            go_simp
            refine (HST.out _).mono ?_
            rintro e w7 ⟨rfl, ho7⟩
            have HO7 := hide (o2 (Only.drew (fun _ => False) wr) ho7)
            clear ho7
            refine hK.out _ _ (HO7.out) (fun hHeld => ?_)
            clear hK K
            try simp only [Act.put, List.setIfInBounds_toArray, List.set_cons_zero, List.set_cons_succ]
            refine wpAnyH_take (i := 27) (oi := { dst := some 150, op := Op.binOp BinOp.neq 45 (Operand.tmp 149) (Operand.const (Value.int IntKind.u8 3)) 45, type := 4, pos := "law.go:236", after := #[{ on := 26, ground := Ground.data }, { on := 16, ground := Ground.guard }], guard := some (16, false) }) (v := .bool false) rfl (by kernel_rfl) (by kernel_rfl) (by kernel_rfl) (fun _ _ _ h => h) (Or.inl ⟨by rfl, fun w' hSw => by clear hSw; go_simp⟩) (by assumption) ?_
            simp only [Act.put, List.setIfInBounds_toArray, List.set_cons_zero, List.set_cons_succ]
            refine wpAnyH_take (i := 28) (oi := { dst := some 151, op := Op.pick (Operand.tmp 139) (Operand.const (Value.bool true)) (Operand.tmp 150), type := 4, pos := "law.go:236", after := #[{ on := 16, ground := Ground.data }, { on := 27, ground := Ground.data }], guard := none }) (v := .bool false) rfl (by kernel_rfl) (by kernel_rfl) (by kernel_rfl) (fun _ _ _ h => h) (Or.inl ⟨by rfl, fun w' hSw => by clear hSw; go_simp⟩) (by assumption) ?_
            simp only [Act.put, List.setIfInBounds_toArray, List.set_cons_zero, List.set_cons_succ]
            refine wpAnyH_done (by kernel_rfl) ?_ _
            refine NoPanic.normal ?_
            go_wp2_with fail
            go_roundw
            case rel => exact ⟨i + 1, HLT.out, by go_num, hide (o2 HO.out HO7.out)⟩
            case measure => have := HLT.out; simp [intOf]; omega
        · have hi2 : ¬ (i : Int) < (m0 : Int) := by omega
          go_wp2_with fail
          refine (HAW.out _).mono ?_
          rintro e w8 ⟨rfl, ho8⟩
          have HO8 := hide (o2 HOW3.out (o2 HO.out ho8))
          clear ho8
          go_wp2_with fail
          go_ret
          exact ⟨rfl, HO8.out⟩
end Go.Proofs.Ytpnbhddmdfcjdaa
