/- Parts. -/
import Derived.Test.YtpnbhddmdfcjdaaGreatK40
import Derived.Test.YtpnbhddmdfcjdaaGreatK45
set_option maxRecDepth 100000
namespace Go.Proofs.YtpnbhddmdfcjdaaGreat
open Go.RowKit
theorem cells_sv (w : World) (t : TypeId) : (w.alloc (.cells (lA.flatMap Sv.cl).toArray t)) = w.alloc (.cells #[.int .i64 2, .int .i64 1, .int .i64 0, .bool false, .string ⟨#[97]⟩, .string ⟨#[]⟩, .string ⟨#[]⟩, .int .i64 2, .int .i64 2, .int .i64 0, .bool false, .string ⟨#[98]⟩, .string ⟨#[]⟩, .string ⟨#[]⟩, .int .i64 0, .int .i64 0, .int .i64 0, .bool false, .string ⟨#[]⟩, .string ⟨#[]⟩, .string ⟨#[]⟩, .int .i64 1, .int .i64 0, .int .i64 0, .bool false, .string ⟨#[107]⟩, .string ⟨#[]⟩, .string ⟨#[]⟩, .int .i64 2, .int .i64 1, .int .i64 2, .bool false, .string ⟨#[99]⟩, .string ⟨#[]⟩, .string ⟨#[]⟩] t) := rfl
theorem wk_lit (w : World) : WkAt (((w.alloc (.cells #[.int .i64 0, .int .i64 4] 3)).alloc (.cells #[.int .i64 4] 3)).alloc (.cells #[.string ⟨#[98]⟩, .int .i64 7, .int .i64 1, .string ⟨#[107]⟩, .int .i64 7, .int .i64 3] 74)) w.heap.size (.slice (some ⟨w.heap.size, 0, none⟩) 2 2) (.slice (some ⟨w.heap.size + 1, 0, none⟩) 1 1) (.slice (some ⟨w.heap.size + 1 + 1, 0, none⟩) 2 2) kA := by
  obtain ⟨w1, hw1⟩ : ∃ x, w.alloc (.cells #[.int .i64 0, .int .i64 4] 3) = x := ⟨_, rfl⟩
  have h1 : IRw w1 w.heap.size (.slice (some ⟨w.heap.size, 0, none⟩) 2 2) [0, 4] := by rw [← hw1]; exact GRow.lit (E := EIi) w w.heap.size [0, 4] (by decide) (Nat.le_refl _)
  have hs1 : w1.heap.size = w.heap.size + 1 := by rw [← hw1]; simp
  rw [hw1]
  obtain ⟨w2, hw2⟩ : ∃ x, w1.alloc (.cells #[.int .i64 4] 3) = x := ⟨_, rfl⟩
  have h2 : IRw w2 w.heap.size (.slice (some ⟨w.heap.size + 1, 0, none⟩) 1 1) [4] := by rw [← hw2, ← hs1]; exact GRow.lit (E := EIi) w1 w.heap.size [4] (by decide) (by omega)
  have hs2 : w2.heap.size = w.heap.size + 1 + 1 := by rw [← hw2, ← hs1]; simp
  have h1b : IRw w2 w.heap.size (.slice (some ⟨w.heap.size, 0, none⟩) 2 2) [0, 4] := by rw [← hw2]; exact h1.more (onlyA _ _)
  rw [hw2]
  have h3 : ERows (w2.alloc (.cells #[.string ⟨#[98]⟩, .int .i64 7, .int .i64 1, .string ⟨#[107]⟩, .int .i64 7, .int .i64 3] 74)) w.heap.size (.slice (some ⟨w.heap.size + 1 + 1, 0, none⟩) 2 2) [⟨⟨#[98]⟩, 7, 1⟩, ⟨⟨#[107]⟩, 7, 3⟩] := by rw [← hs2]; exact GRow.lit (E := EEn) w2 w.heap.size [⟨⟨#[98]⟩, 7, 1⟩, ⟨⟨#[107]⟩, 7, 3⟩] (by decide) (by omega)
  refine ⟨h1b.more (onlyA _ _), h2.more (onlyA _ _), h3, ?_, ?_, ?_⟩
  · intro k hk hk2
    simp [Value.ownBlock] at hk hk2
    omega
  · intro k hk hk2
    simp [Value.ownBlock] at hk hk2
    omega
  · intro k hk hk2
    simp [Value.ownBlock] at hk hk2
    omega
theorem vsort_heap (w : World) (V : Vw) (q : Lo) (h pg a lv r : Int) (hi : ByteArray) (B cp : Nat) (ao : Option Addr) (l : List ByteArray) (hV : Sn w V q) (hl : Strs w B ao l) (hh : I64 h) (hb : l.length < 4398046511104) :
    Calls Tryz.prog 7 #[.agg #[.int .i64 V.m, .int .i64 V.next, .slice q.aA V.act.length q.cA, .int .i64 V.own, .slice q.aR V.run.length q.cR, .int .i64 V.pg.lsn, .int .i64 V.pg.kind, .int .i64 V.pg.level, .int .i64 V.pg.right, .string V.pg.high, .slice q.aP V.pg.items.length q.cP], .int .i64 h, .int .i64 pg, .agg #[.int .i64 a, .int .i64 2, .int .i64 lv, .int .i64 r, .string hi, .slice ao l.length cp]] w fun e w' => ∃ v0 v1 v2, e = .returned (.agg #[v0, v1, v2]) ∧ WkAt w' w.heap.size v0 v1 v2 (wkN V h pg l l.length) ∧ Only (fun _ => False) w w' :=
  (vsort_any w V q h pg a 2 lv r hi B cp ao l hV hl hh hb).mono (fun e w' ⟨v0, v1, v2, h1, h2, h3⟩ => ⟨v0, v1, v2, h1, by rw [if_pos rfl] at h2; exact h2, h3⟩)
set_option maxRecDepth 100000 in
set_option maxHeartbeats 3200000 in
theorem vawake_any (w : World) : Calls Tryz.prog 15 #[] w fun e w' => e = .returned (.bool true) ∧ Only (fun _ => False) w w' := by
  obtain ⟨W0, hW0⟩ : ∃ W, ((w.alloc (.cells #[.int .i64 1, .int .u8 2, .int .i64 2, .int .u8 3, .int .i64 3, .int .u8 2] 60)).alloc (.cells #[.int .i64 3] 3)).alloc (.cells #[.int .i64 4] 3) = W := ⟨_, rfl⟩
  have HO0 : Hid (Only (fun _ => False) w W0) := by unfold Hid; rw [← hW0]; exact o2 (onlyA _ _) (o2 (onlyA _ _) (onlyA _ _))
  have HSD : Hid (Sds W0 w.heap.size (some ⟨w.heap.size, 0, none⟩) 3 sX sS) := by unfold Hid; rw [← hW0]; exact (Sds.lit w).more (o2 (onlyA _ _) (onlyA _ _))
  have HSN : Hid (Sn W0 ⟨0, 4, [3], 0, [4], Pg.none⟩ ⟨w.heap.size + 1, some ⟨w.heap.size + 1, 0, none⟩, 1, w.heap.size + 1 + 1, some ⟨w.heap.size + 1 + 1, 0, none⟩, 1, 0, none, 0⟩) := by
    unfold Hid
    obtain ⟨w1, hw1⟩ : ∃ x, w.alloc (.cells #[.int .i64 1, .int .u8 2, .int .i64 2, .int .u8 3, .int .i64 3, .int .u8 2] 60) = x := ⟨_, rfl⟩
    have hs1 : w1.heap.size = w.heap.size + 1 := by rw [← hw1]; simp
    rw [hw1] at hW0
    have n1 := Nz.one w1 3 (i64 (by omega) (by omega))
    obtain ⟨w2, hw2⟩ : ∃ x, w1.alloc (.cells #[.int .i64 3] 3) = x := ⟨_, rfl⟩
    have hs2 : w2.heap.size = w.heap.size + 1 + 1 := by rw [← hw2, ← hs1]; simp
    rw [hw2] at hW0 n1
    have n2 := Nz.one w2 4 (i64 (by omega) (by omega))
    rw [hW0] at n2
    rw [hs1] at n1
    rw [hs2] at n2
    exact ⟨n1.more (by rw [← hW0]; exact onlyA _ _), n2, Strs.nil _ _ _, ⟨fun _ => rfl, by simp [Pg.none], by simp⟩, i64 (n := 0) (by omega) (by omega), i64 (n := 4) (by omega) (by omega), i64 (n := 0) (by omega) (by omega)⟩
  have HM := hide (made_ok W0 16 1 w.heap.size (some ⟨w.heap.size, 0, none⟩) 3 3 sX sS ⟨0, 4, [3], 0, [4], Pg.none⟩ _ (id16 (by omega) (by omega)) HSD.out HSN.out)
  simp only [Pg.none, List.length_cons, List.length_nil, Nat.zero_add] at HM
  clear HSD HSN
  go_enter Tryz.func15, Tryz.ntmps15
  go_wp2_with fail
  clear hW0
  refine HM.out.mono ?_
  rintro e w2 ⟨B2, ao2, cp2, hq⟩
  obtain ⟨q, hqq⟩ : ∃ q : Lo, (⟨w.heap.size + 1, some ⟨w.heap.size + 1, 0, none⟩, 1, w.heap.size + 1 + 1, some ⟨w.heap.size + 1 + 1, 0, none⟩, 1, B2, ao2, cp2⟩ : Lo) = q := ⟨_, rfl⟩
  rw [hqq, say3] at hq
  have HVX : Hid (∀ (W : World), Sn W sV q → Calls Tryz.prog 6 #[.slice (some ⟨W.heap.size, 0, none⟩) 5 5] (W.alloc (.cells (lA.flatMap Sv.cl).toArray 64)) fun e w' => ∃ v, e = .returned (.agg #[.int .i64 1, .int .i64 2, .int .i64 0, .int .i64 0, .string ⟨#[]⟩, v]) ∧ SRw w' (W.heap.size + 1) v (lA.map Sv.item) ∧ Only (fun _ => False) (W.alloc (.cells (lA.flatMap Sv.cl).toArray 64)) w') := fun W _ => by
    have h := vlpage_any (W.alloc (.cells (lA.flatMap Sv.cl).toArray 64)) W.heap.size 5 _ lA (Svs.lit W)
    rw [World.size_alloc] at h
    exact h
  simp only [cells_sv] at HVX
  obtain ⟨V, hV⟩ : ∃ V, sV = V := ⟨_, rfl⟩
  have hV2 : (⟨16, 4, [3], 0, [4], sP 46⟩ : Vw) = V := hV
  rw [hV2] at hq
  rw [hV] at HVX
  obtain ⟨rfl, hsn, ho2⟩ := hq
  have HN := hide hsn
  have HO2 := hide (o2 HO0.out ho2)
  have HB := hide (VB.new w2 (.int .i64 V.m) (.int .i64 V.next) (.slice q.aA V.act.length q.cA) (.int .i64 V.own) (.slice q.aR V.run.length q.cR) (.int .i64 V.pg.lsn) (.int .i64 V.pg.kind) (.int .i64 V.pg.level) (.int .i64 V.pg.right) (.string V.pg.high) (.slice q.aP V.pg.items.length q.cP))
  have HOB := hide (onlyA w2 (.cells #[.int .i64 V.m, .int .i64 V.next, .slice q.aA V.act.length q.cA, .int .i64 V.own, .slice q.aR V.run.length q.cR, .int .i64 V.pg.lsn, .int .i64 V.pg.kind, .int .i64 V.pg.level, .int .i64 V.pg.right, .string V.pg.high, .slice q.aP V.pg.items.length q.cP] 32))
  have HSO := hide (fun W (hs : Sn W V q) (B cp : Nat) (ao : Option Addr) (l : List ByteArray) (hl : Strs W B ao l) (hb : l.length < 4398046511104) => vsort_heap W V q 4 7 1 0 0 ⟨#[]⟩ B cp ao l hs hl (i64 (by omega) (by omega)) hb)
  have HWK : Hid (wkN V 4 7 (lA.map Sv.item) (lA.map Sv.item).length = kA) := by unfold Hid; rw [← hV]; exact wk_A _ items_A
  clear hsn ho2 HM hV hV2 hqq HO0
  go_upto_region 2 with fail
  obtain ⟨W2, hW2⟩ : ∃ W, w2.alloc (.cells #[.int .i64 V.m, .int .i64 V.next, .slice q.aA V.act.length q.cA, .int .i64 V.own, .slice q.aR V.run.length q.cR, .int .i64 V.pg.lsn, .int .i64 V.pg.kind, .int .i64 V.pg.level, .int .i64 V.pg.right, .string V.pg.high, .slice q.aP V.pg.items.length q.cP] 32) = W := ⟨_, rfl⟩
  rw [hW2] at HB HOB ⊢
  clear hW2
  have HN := hide (HN.out.more HOB.out)
  have HO := hide (o2 HO2.out HOB.out)
  obtain ⟨b, hb⟩ : ∃ b, w2.heap.size = b := ⟨_, rfl⟩
  rw [hb] at HB ⊢
  clear hb HOB HO2
  go_wp2_with fail
  refine (HVX.out W2 HN.out).mono ?_
  rintro e w3 ⟨v3, rfl, hr3, ho3⟩
  have HO3 := hide (o2 (onlyA W2 _) ho3)
  obtain ⟨a3, n3, c3, rfl⟩ := hr3.frm
  have HR3 := hide hr3
  have HB3 := hide ((HB.out.more HO3.out).more (onlyA w3 (.cells #[.int .i64 1, .int .i64 2, .int .i64 0, .int .i64 0, .string ⟨#[]⟩, .slice a3 n3 c3] 30)))
  have HP3 := hide (Pag.new w3 (.int .i64 1) (.int .i64 2) (.int .i64 0) (.int .i64 0) (.string ⟨#[]⟩) (.slice a3 n3 c3))
  have HO3b := hide (o2 HO3.out (onlyA w3 (.cells #[.int .i64 1, .int .i64 2, .int .i64 0, .int .i64 0, .string ⟨#[]⟩, .slice a3 n3 c3] 30)))
  have HR3b := hide (HR3.out.more (onlyA w3 (.cells #[.int .i64 1, .int .i64 2, .int .i64 0, .int .i64 0, .string ⟨#[]⟩, .slice a3 n3 c3] 30)))
  clear hr3 ho3 HVX
  go_upto_region 5 with fail
  obtain ⟨W3, hW3⟩ : ∃ W, w3.alloc (.cells #[.int .i64 1, .int .i64 2, .int .i64 0, .int .i64 0, .string ⟨#[]⟩, .slice a3 n3 c3] 30) = W := ⟨_, rfl⟩
  rw [hW3] at HB3 HP3 HO3b HR3b ⊢
  clear hW3
  obtain ⟨b3, hb3⟩ : ∃ b, w3.heap.size = b := ⟨_, rfl⟩
  rw [hb3] at HP3 ⊢
  clear hb3 HR3 HO3 HB
  have HN3 := hide (HN.out.more HO3b.out)
  have HO3 := hide (o2 HO.out HO3b.out)
  clear HO3b HN HO
  have HLN : Hid ((lA.map Sv.item).length = n3) := by
    obtain ⟨_, _, e⟩ := HR3b.out.form
    injection e with _ e2 _
    exact e2.symm
  obtain ⟨B4, hst, _, _⟩ := (show SRw W3 (W2.heap.size + 1) (.slice a3 (lA.map Sv.item).length c3) (lA.map Sv.item) by rw [HLN.out]; exact HR3b.out).strs (by decide) (by rw [items_A]; decide)
  have HSO4 : Hid (Calls Tryz.prog 7 #[.agg #[.int .i64 V.m, .int .i64 V.next, .slice q.aA V.act.length q.cA, .int .i64 V.own, .slice q.aR V.run.length q.cR, .int .i64 V.pg.lsn, .int .i64 V.pg.kind, .int .i64 V.pg.level, .int .i64 V.pg.right, .string V.pg.high, .slice q.aP V.pg.items.length q.cP], .int .i64 4, .int .i64 7, .agg #[.int .i64 1, .int .i64 2, .int .i64 0, .int .i64 0, .string ⟨#[]⟩, .slice a3 n3 c3]] W3 fun e w' => ∃ v0 v1 v2, e = .returned (.agg #[v0, v1, v2]) ∧ WkAt w' W3.heap.size v0 v1 v2 kA ∧ Only (fun _ => False) W3 w') := by
    have h := HSO.out W3 HN3.out B4 c3 a3 (lA.map Sv.item) hst (by decide)
    rw [HWK.out, HLN.out] at h
    exact h
  clear hst HSO HWK
  obtain ⟨vc0, vc1, vc2, vc3, vc4, vc5, vc6, vc7, vc8, vc9, vc10, _, _, _, _, _, _, _, _, _, _, _, _⟩ := HB3.out
  obtain ⟨p0, p1, p2, p3, p4, p5, _⟩ := HP3.out
  go_wp2_with fail
  refine HSO4.out.mono ?_
  rintro e w4 ⟨u0, u1, u2, rfl, hk4, ho4⟩
  have HO4 := hide (o2 HO3.out ho4)
  obtain ⟨x0, m0, y0, rfl⟩ := hk4.fr.frm
  obtain ⟨x1, m1, y1, rfl⟩ := hk4.of.frm
  obtain ⟨x2, m2, y2, rfl⟩ := hk4.gn.frm
  have HW4 := hide (WB.new w4 39 (.slice x0 m0 y0) (.slice x1 m1 y1) (.slice x2 m2 y2))
  have HOA := hide (onlyA w4 (.cells #[.slice x0 m0 y0, .slice x1 m1 y1, .slice x2 m2 y2] 39))
  have HK4 := hide (hk4.more HOA.out)
  clear hk4 ho4 HSO4 vc0 vc1 vc2 vc3 vc4 vc5 vc6 vc7 vc8 vc9 vc10 p0 p1 p2 p3 p4 p5
  go_upto_region 6 with fail
  obtain ⟨W4, hW4⟩ : ∃ W, w4.alloc (.cells #[.slice x0 m0 y0, .slice x1 m1 y1, .slice x2 m2 y2] 39) = W := ⟨_, rfl⟩
  rw [hW4] at HW4 HOA HK4 ⊢
  clear hW4
  obtain ⟨b5, hb5⟩ : ∃ b, w4.heap.size = b := ⟨_, rfl⟩
  rw [hb5] at HW4 ⊢
  clear hb5
  obtain ⟨z0, z1, z2, _, _, _, _⟩ := HW4.out
  have HLT := hide (wk_lit W4)
  have HSA : Hid (∀ W, Only (fun _ => False) W4 W → WkAt W W4.heap.size (.slice (some ⟨W4.heap.size, 0, none⟩) 2 2) (.slice (some ⟨W4.heap.size + 1, 0, none⟩) 1 1) (.slice (some ⟨W4.heap.size + 1 + 1, 0, none⟩) 2 2) kA → Calls Tryz.prog 9 #[.agg #[.slice x0 m0 y0, .slice x1 m1 y1, .slice x2 m2 y2], .agg #[.slice (some ⟨W4.heap.size, 0, none⟩) 2 2, .slice (some ⟨W4.heap.size + 1, 0, none⟩) 1 1, .slice (some ⟨W4.heap.size + 1 + 1, 0, none⟩) 2 2]] W fun e w' => e = .returned (.bool true) ∧ Only (fun _ => False) W w') := fun W ho hk => vsame_eq W _ _ _ _ _ _ _ _ kA (HK4.out.more ho) hk ⟨by decide, by decide, by decide⟩
  have HOL := hide (o2 (o2 (onlyA W4 (.cells #[.int .i64 0, .int .i64 4] 3)) (onlyA _ (.cells #[.int .i64 4] 3))) (onlyA _ (.cells #[.string ⟨#[98]⟩, .int .i64 7, .int .i64 1, .string ⟨#[107]⟩, .int .i64 7, .int .i64 3] 74)))
  go_wp2_with fail
  refine (HSA.out _ HOL.out HLT.out).mono ?_
  rintro e w5 ⟨rfl, ho5⟩
  have HO5 := hide (o2 HO4.out (o2 HOA.out (o2 HOL.out ho5)))
  clear ho5
  go_wp2_with fail
  go_ret
  exact ⟨rfl, HO5.out⟩
theorem view_any (w : World) (m fr : Int) (BO : Nat) (aO : Option Addr) (n cap : Nat) (X : Nat → Int) (S : Nat → Nat) (V : Vw) (q : Lo) (hm : I64 m) (hfr : I64 fr) (hS : Sds w BO aO n X S) (h : Sn w V q) :
    Calls Tryz.prog 5 #[.agg #[.int .i64 m, .int .i64 fr, .slice aO n cap], .agg #[.int .i64 V.m, .int .i64 V.next, .slice q.aA V.act.length q.cA, .int .i64 V.own, .slice q.aR V.run.length q.cR, .int .i64 V.pg.lsn, .int .i64 V.pg.kind, .int .i64 V.pg.level, .int .i64 V.pg.right, .string V.pg.high, .slice q.aP V.pg.items.length q.cP]] w fun e w' => ∃ V' q' b, MdQ w w' e V' q' b := by
  by_cases hI : Idd m fr
  · exact (made_ok w m fr BO aO n cap X S V q hI hS h).mono (fun e w' ⟨B, ao, cp, hq⟩ => ⟨_, _, _, hq⟩)
  · exact (made_no w m fr (.slice aO n cap) V q hm hfr hI h).mono (fun e w' hq => ⟨_, _, _, hq⟩)
theorem xv_new (w : World) (m fr : Int) (va : Value) (V : Vw) (q : Lo) : XB ((w.alloc (.cells #[.int .i64 m, .int .i64 fr, va] 24)).alloc (.cells #[.int .i64 V.m, .int .i64 V.next, .slice q.aA V.act.length q.cA, .int .i64 V.own, .slice q.aR V.run.length q.cR, .int .i64 V.pg.lsn, .int .i64 V.pg.kind, .int .i64 V.pg.level, .int .i64 V.pg.right, .string V.pg.high, .slice q.aP V.pg.items.length q.cP] 32)) w.heap.size (.int .i64 m) (.int .i64 fr) va ∧ VB ((w.alloc (.cells #[.int .i64 m, .int .i64 fr, va] 24)).alloc (.cells #[.int .i64 V.m, .int .i64 V.next, .slice q.aA V.act.length q.cA, .int .i64 V.own, .slice q.aR V.run.length q.cR, .int .i64 V.pg.lsn, .int .i64 V.pg.kind, .int .i64 V.pg.level, .int .i64 V.pg.right, .string V.pg.high, .slice q.aP V.pg.items.length q.cP] 32)) (w.heap.size + 1) (.int .i64 V.m) (.int .i64 V.next) (.slice q.aA V.act.length q.cA) (.int .i64 V.own) (.slice q.aR V.run.length q.cR) (.int .i64 V.pg.lsn) (.int .i64 V.pg.kind) (.int .i64 V.pg.level) (.int .i64 V.pg.right) (.string V.pg.high) (.slice q.aP V.pg.items.length q.cP) ∧ Only (fun _ => False) w ((w.alloc (.cells #[.int .i64 m, .int .i64 fr, va] 24)).alloc (.cells #[.int .i64 V.m, .int .i64 V.next, .slice q.aA V.act.length q.cA, .int .i64 V.own, .slice q.aR V.run.length q.cR, .int .i64 V.pg.lsn, .int .i64 V.pg.kind, .int .i64 V.pg.level, .int .i64 V.pg.right, .string V.pg.high, .slice q.aP V.pg.items.length q.cP] 32)) := by
  obtain ⟨w1, hw1⟩ : ∃ x, w.alloc (.cells #[.int .i64 m, .int .i64 fr, va] 24) = x := ⟨_, rfl⟩
  have hs1 : w1.heap.size = w.heap.size + 1 := by rw [← hw1]; simp
  have hx : XB w1 w.heap.size (.int .i64 m) (.int .i64 fr) va := by rw [← hw1]; exact ⟨by simp, by simp, by simp, by simp⟩
  have ho1 : Only (fun _ => False) w w1 := by rw [← hw1]; exact onlyA _ _
  rw [hw1]
  have h7 := VB.new w1 (.int .i64 V.m) (.int .i64 V.next) (.slice q.aA V.act.length q.cA) (.int .i64 V.own) (.slice q.aR V.run.length q.cR) (.int .i64 V.pg.lsn) (.int .i64 V.pg.kind) (.int .i64 V.pg.level) (.int .i64 V.pg.right) (.string V.pg.high) (.slice q.aP V.pg.items.length q.cP)
  rw [hs1] at h7
  exact ⟨hx.more (onlyA _ _), h7, o2 ho1 (onlyA _ _)⟩
end Go.Proofs.YtpnbhddmdfcjdaaGreat
