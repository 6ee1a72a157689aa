/- Parts. -/
import Derived.Test.YtpnbhddmdfcjdaaGreatK46
import Derived.Test.YtpnbhddmdfcjdaaGreatK50
import Derived.ProofKit
import Derived.OpenShut
import Derived.ShutString
import Derived.SizedLaws
import Derived.Deep.Strs
import Derived.Deep.Draws
set_option maxRecDepth 100000
namespace Go.Proofs.YtpnbhddmdfcjdaaGreat
open Go.RowKit
theorem cells_sv (w : World) (t : TypeId) : (w.alloc (.cells (lA.flatMap Sv.cl).toArray t)) = w.alloc (.cells #[.int .i64 2, .int .i64 1, .int .i64 0, .bool false, .string ⟨#[97]⟩, .string ⟨#[]⟩, .string ⟨#[]⟩, .int .i64 2, .int .i64 2, .int .i64 0, .bool false, .string ⟨#[98]⟩, .string ⟨#[]⟩, .string ⟨#[]⟩, .int .i64 0, .int .i64 0, .int .i64 0, .bool false, .string ⟨#[]⟩, .string ⟨#[]⟩, .string ⟨#[]⟩, .int .i64 1, .int .i64 0, .int .i64 0, .bool false, .string ⟨#[107]⟩, .string ⟨#[]⟩, .string ⟨#[]⟩, .int .i64 2, .int .i64 1, .int .i64 2, .bool false, .string ⟨#[99]⟩, .string ⟨#[]⟩, .string ⟨#[]⟩] t) := rfl
theorem wk_lit (w : World) : WkAt (((w.alloc (.cells #[.int .i64 0, .int .i64 4] 3)).alloc (.cells #[.int .i64 4] 3)).alloc (.cells #[.string ⟨#[98]⟩, .int .i64 7, .int .i64 1, .string ⟨#[107]⟩, .int .i64 7, .int .i64 3] 74)) w.heap.size (.slice (some ⟨w.heap.size, 0, none⟩) 2 2) (.slice (some ⟨w.heap.size + 1, 0, none⟩) 1 1) (.slice (some ⟨w.heap.size + 1 + 1, 0, none⟩) 2 2) kA := by
  obtain ⟨w1, hw1⟩ : ∃ x, w.alloc (.cells #[.int .i64 0, .int .i64 4] 3) = x := ⟨_, rfl⟩
  have h1 : IRw w1 w.heap.size (.slice (some ⟨w.heap.size, 0, none⟩) 2 2) [0, 4] := by rw [← hw1]; exact GRow.lit (E := EIi) w w.heap.size [0, 4] (by decide) (Nat.le_refl _)
  have hs1 : w1.heap.size = w.heap.size + 1 := by rw [← hw1]; simp
  rw [hw1]
  obtain ⟨w2, hw2⟩ : ∃ x, w1.alloc (.cells #[.int .i64 4] 3) = x := ⟨_, rfl⟩
  have h2 : IRw w2 w.heap.size (.slice (some ⟨w.heap.size + 1, 0, none⟩) 1 1) [4] := by rw [← hw2, ← hs1]; exact GRow.lit (E := EIi) w1 w.heap.size [4] (by decide) (by omega)
  have hs2 : w2.heap.size = w.heap.size + 1 + 1 := by rw [← hw2, ← hs1]; simp
  have h1b : IRw w2 w.heap.size (.slice (some ⟨w.heap.size, 0, none⟩) 2 2) [0, 4] := by rw [← hw2]; exact h1.more (onlyA _ _)
  rw [hw2]
  have h3 : ERows (w2.alloc (.cells #[.string ⟨#[98]⟩, .int .i64 7, .int .i64 1, .string ⟨#[107]⟩, .int .i64 7, .int .i64 3] 74)) w.heap.size (.slice (some ⟨w.heap.size + 1 + 1, 0, none⟩) 2 2) [⟨⟨#[98]⟩, 7, 1⟩, ⟨⟨#[107]⟩, 7, 3⟩] := by rw [← hs2]; exact GRow.lit (E := EEn) w2 w.heap.size [⟨⟨#[98]⟩, 7, 1⟩, ⟨⟨#[107]⟩, 7, 3⟩] (by decide) (by omega)
  refine ⟨h1b.more (onlyA _ _), h2.more (onlyA _ _), h3, ?_, ?_, ?_⟩
  · intro k hk hk2
    simp [Value.ownBlock] at hk hk2
    omega
  · intro k hk hk2
    simp [Value.ownBlock] at hk hk2
    omega
  · intro k hk hk2
    simp [Value.ownBlock] at hk hk2
    omega
theorem vsort_heap (w : World) (V : Vw) (q : Lo) (h pg a lv r : Int) (hi : ByteArray) (B cp : Nat) (ao : Option Addr) (l : List ByteArray) (hV : Sn w V q) (hl : Strs w B ao l) (hh : I64 h) (hb : l.length < 4398046511104) :
    Calls Tryz.prog 7 #[.agg #[.int .i64 V.m, .int .i64 V.next, .slice q.aA V.act.length q.cA, .int .i64 V.own, .slice q.aR V.run.length q.cR, .int .i64 V.pg.lsn, .int .i64 V.pg.kind, .int .i64 V.pg.level, .int .i64 V.pg.right, .string V.pg.high, .slice q.aP V.pg.items.length q.cP], .int .i64 h, .int .i64 pg, .agg #[.int .i64 a, .int .i64 2, .int .i64 lv, .int .i64 r, .string hi, .slice ao l.length cp]] w fun e w' => ∃ v0 v1 v2, e = .returned (.agg #[v0, v1, v2]) ∧ WkAt w' w.heap.size v0 v1 v2 (wkN V h pg l l.length) ∧ Only (fun _ => False) w w' :=
  (vsort_any w V q h pg a 2 lv r hi B cp ao l hV hl hh hb).mono (fun e w' ⟨v0, v1, v2, h1, h2, h3⟩ => ⟨v0, v1, v2, h1, by rw [if_pos rfl] at h2; exact h2, h3⟩)
set_option maxRecDepth 100000 in
set_option maxHeartbeats 3200000 in
theorem vawake_any (w : World) : Calls Tryz.prog 15 #[] w fun e w' => e = .returned (.bool true) ∧ Only (fun _ => False) w w' := by
  obtain ⟨W0, hW0⟩ : ∃ W, ((w.alloc (.cells #[.int .i64 1, .int .u8 2, .int .i64 2, .int .u8 3, .int .i64 3, .int .u8 2] 60)).alloc (.cells #[.int .i64 3] 3)).alloc (.cells #[.int .i64 4] 3) = W := ⟨_, rfl⟩
  have HO0 : Hid (Only (fun _ => False) w W0) := by unfold Hid; rw [← hW0]; exact o2 (onlyA _ _) (o2 (onlyA _ _) (onlyA _ _))
  have HSD : Hid (Sds W0 w.heap.size (some ⟨w.heap.size, 0, none⟩) 3 sX sS) := by unfold Hid; rw [← hW0]; exact (Sds.lit w).more (o2 (onlyA _ _) (onlyA _ _))
  have HSN : Hid (Sn W0 ⟨0, 4, [3], 0, [4], Pg.none⟩ ⟨w.heap.size + 1, some ⟨w.heap.size + 1, 0, none⟩, 1, w.heap.size + 1 + 1, some ⟨w.heap.size + 1 + 1, 0, none⟩, 1, 0, none, 0⟩) := by
    unfold Hid
    obtain ⟨w1, hw1⟩ : ∃ x, w.alloc (.cells #[.int .i64 1, .int .u8 2, .int .i64 2, .int .u8 3, .int .i64 3, .int .u8 2] 60) = x := ⟨_, rfl⟩
    have hs1 : w1.heap.size = w.heap.size + 1 := by rw [← hw1]; simp
    rw [hw1] at hW0
    have n1 := Nz.one w1 3 (i64 (by omega) (by omega))
    obtain ⟨w2, hw2⟩ : ∃ x, w1.alloc (.cells #[.int .i64 3] 3) = x := ⟨_, rfl⟩
    have hs2 : w2.heap.size = w.heap.size + 1 + 1 := by rw [← hw2, ← hs1]; simp
    rw [hw2] at hW0 n1
    have n2 := Nz.one w2 4 (i64 (by omega) (by omega))
    rw [hW0] at n2
    rw [hs1] at n1
    rw [hs2] at n2
    exact ⟨n1.more (by rw [← hW0]; exact onlyA _ _), n2, Strs.nil _ _ _, ⟨fun _ => rfl, by simp [Pg.none], by simp⟩, i64 (n := 0) (by omega) (by omega), i64 (n := 4) (by omega) (by omega), i64 (n := 0) (by omega) (by omega)⟩
  have HM := hide (made_ok W0 16 1 w.heap.size (some ⟨w.heap.size, 0, none⟩) 3 3 sX sS ⟨0, 4, [3], 0, [4], Pg.none⟩ _ (id16 (by omega) (by omega)) HSD.out HSN.out)
  simp only [Pg.none, List.length_cons, List.length_nil, Nat.zero_add] at HM
  clear HSD HSN
  go_enter Tryz.func15, Tryz.ntmps15
  go_wp2_with fail
  clear hW0
  refine HM.out.mono ?_
  rintro e w2 ⟨B2, ao2, cp2, hq⟩
  obtain ⟨q, hqq⟩ : ∃ q : Lo, (⟨w.heap.size + 1, some ⟨w.heap.size + 1, 0, none⟩, 1, w.heap.size + 1 + 1, some ⟨w.heap.size + 1 + 1, 0, none⟩, 1, B2, ao2, cp2⟩ : Lo) = q := ⟨_, rfl⟩
  rw [hqq, say3] at hq
  have HVX : Hid (∀ (W : World), Sn W sV q → Calls Tryz.prog 6 #[.slice (some ⟨W.heap.size, 0, none⟩) 5 5] (W.alloc (.cells (lA.flatMap Sv.cl).toArray 64)) fun e w' => ∃ v, e = .returned (.agg #[.int .i64 1, .int .i64 2, .int .i64 0, .int .i64 0, .string ⟨#[]⟩, v]) ∧ SRw w' (W.heap.size + 1) v (lA.map Sv.item) ∧ Only (fun _ => False) (W.alloc (.cells (lA.flatMap Sv.cl).toArray 64)) w') := fun W _ => by
    have h := vlpage_any (W.alloc (.cells (lA.flatMap Sv.cl).toArray 64)) W.heap.size 5 _ lA (Svs.lit W)
    rw [World.size_alloc] at h
    exact h
  simp only [cells_sv] at HVX
  obtain ⟨V, hV⟩ : ∃ V, sV = V := ⟨_, rfl⟩
  have hV2 : (⟨16, 4, [3], 0, [4], sP 46⟩ : Vw) = V := hV
  rw [hV2] at hq
  rw [hV] at HVX
  obtain ⟨rfl, hsn, ho2⟩ := hq
  have HN := hide hsn
  have HO2 := hide (o2 HO0.out ho2)
  have HB := hide (VB.new w2 (.int .i64 V.m) (.int .i64 V.next) (.slice q.aA V.act.length q.cA) (.int .i64 V.own) (.slice q.aR V.run.length q.cR) (.int .i64 V.pg.lsn) (.int .i64 V.pg.kind) (.int .i64 V.pg.level) (.int .i64 V.pg.right) (.string V.pg.high) (.slice q.aP V.pg.items.length q.cP))
  have HOB := hide (onlyA w2 (.cells #[.int .i64 V.m, .int .i64 V.next, .slice q.aA V.act.length q.cA, .int .i64 V.own, .slice q.aR V.run.length q.cR, .int .i64 V.pg.lsn, .int .i64 V.pg.kind, .int .i64 V.pg.level, .int .i64 V.pg.right, .string V.pg.high, .slice q.aP V.pg.items.length q.cP] 32))
  have HSO := hide (fun W (hs : Sn W V q) (B cp : Nat) (ao : Option Addr) (l : List ByteArray) (hl : Strs W B ao l) (hb : l.length < 4398046511104) => vsort_heap W V q 4 7 1 0 0 ⟨#[]⟩ B cp ao l hs hl (i64 (by omega) (by omega)) hb)
  have HWK : Hid (wkN V 4 7 (lA.map Sv.item) (lA.map Sv.item).length = kA) := by unfold Hid; rw [← hV]; exact wk_A _ items_A
  clear hsn ho2 HM hV hV2 hqq HO0
  go_upto_region 2 with fail
  obtain ⟨W2, hW2⟩ : ∃ W, w2.alloc (.cells #[.int .i64 V.m, .int .i64 V.next, .slice q.aA V.act.length q.cA, .int .i64 V.own, .slice q.aR V.run.length q.cR, .int .i64 V.pg.lsn, .int .i64 V.pg.kind, .int .i64 V.pg.level, .int .i64 V.pg.right, .string V.pg.high, .slice q.aP V.pg.items.length q.cP] 32) = W := ⟨_, rfl⟩
  rw [hW2] at HB HOB ⊢
  clear hW2
  have HN := hide (HN.out.more HOB.out)
  have HO := hide (o2 HO2.out HOB.out)
  obtain ⟨b, hb⟩ : ∃ b, w2.heap.size = b := ⟨_, rfl⟩
  rw [hb] at HB ⊢
  clear hb HOB HO2
  go_wp2_with fail
  refine (HVX.out W2 HN.out).mono ?_
  rintro e w3 ⟨v3, rfl, hr3, ho3⟩
  have HO3 := hide (o2 (onlyA W2 _) ho3)
  obtain ⟨a3, n3, c3, rfl⟩ := hr3.frm
  have HR3 := hide hr3
  have HB3 := hide ((HB.out.more HO3.out).more (onlyA w3 (.cells #[.int .i64 1, .int .i64 2, .int .i64 0, .int .i64 0, .string ⟨#[]⟩, .slice a3 n3 c3] 30)))
  have HP3 := hide (Pag.new w3 (.int .i64 1) (.int .i64 2) (.int .i64 0) (.int .i64 0) (.string ⟨#[]⟩) (.slice a3 n3 c3))
  have HO3b := hide (o2 HO3.out (onlyA w3 (.cells #[.int .i64 1, .int .i64 2, .int .i64 0, .int .i64 0, .string ⟨#[]⟩, .slice a3 n3 c3] 30)))
  have HR3b := hide (HR3.out.more (onlyA w3 (.cells #[.int .i64 1, .int .i64 2, .int .i64 0, .int .i64 0, .string ⟨#[]⟩, .slice a3 n3 c3] 30)))
  clear hr3 ho3 HVX
  go_upto_region 5 with fail
  obtain ⟨W3, hW3⟩ : ∃ W, w3.alloc (.cells #[.int .i64 1, .int .i64 2, .int .i64 0, .int .i64 0, .string ⟨#[]⟩, .slice a3 n3 c3] 30) = W := ⟨_, rfl⟩
  rw [hW3] at HB3 HP3 HO3b HR3b ⊢
  clear hW3
  obtain ⟨b3, hb3⟩ : ∃ b, w3.heap.size = b := ⟨_, rfl⟩
  rw [hb3] at HP3 ⊢
  clear hb3 HR3 HO3 HB
  have HN3 := hide (HN.out.more HO3b.out)
  have HO3 := hide (o2 HO.out HO3b.out)
  clear HO3b HN HO
  have HLN : Hid ((lA.map Sv.item).length = n3) := by
    obtain ⟨_, _, e⟩ := HR3b.out.form
    injection e with _ e2 _
    exact e2.symm
  obtain ⟨B4, hst, _, _⟩ := (show SRw W3 (W2.heap.size + 1) (.slice a3 (lA.map Sv.item).length c3) (lA.map Sv.item) by rw [HLN.out]; exact HR3b.out).strs (by decide) (by rw [items_A]; decide)
  have HSO4 : Hid (Calls Tryz.prog 7 #[.agg #[.int .i64 V.m, .int .i64 V.next, .slice q.aA V.act.length q.cA, .int .i64 V.own, .slice q.aR V.run.length q.cR, .int .i64 V.pg.lsn, .int .i64 V.pg.kind, .int .i64 V.pg.level, .int .i64 V.pg.right, .string V.pg.high, .slice q.aP V.pg.items.length q.cP], .int .i64 4, .int .i64 7, .agg #[.int .i64 1, .int .i64 2, .int .i64 0, .int .i64 0, .string ⟨#[]⟩, .slice a3 n3 c3]] W3 fun e w' => ∃ v0 v1 v2, e = .returned (.agg #[v0, v1, v2]) ∧ WkAt w' W3.heap.size v0 v1 v2 kA ∧ Only (fun _ => False) W3 w') := by
    have h := HSO.out W3 HN3.out B4 c3 a3 (lA.map Sv.item) hst (by decide)
    rw [HWK.out, HLN.out] at h
    exact h
  clear hst HSO HWK
  obtain ⟨vc0, vc1, vc2, vc3, vc4, vc5, vc6, vc7, vc8, vc9, vc10, _, _, _, _, _, _, _, _, _, _, _, _⟩ := HB3.out
  obtain ⟨p0, p1, p2, p3, p4, p5, _⟩ := HP3.out
  go_wp2_with fail
  refine HSO4.out.mono ?_
  rintro e w4 ⟨u0, u1, u2, rfl, hk4, ho4⟩
  have HO4 := hide (o2 HO3.out ho4)
  obtain ⟨x0, m0, y0, rfl⟩ := hk4.fr.frm
  obtain ⟨x1, m1, y1, rfl⟩ := hk4.of.frm
  obtain ⟨x2, m2, y2, rfl⟩ := hk4.gn.frm
  have HW4 := hide (WB.new w4 39 (.slice x0 m0 y0) (.slice x1 m1 y1) (.slice x2 m2 y2))
  have HOA := hide (onlyA w4 (.cells #[.slice x0 m0 y0, .slice x1 m1 y1, .slice x2 m2 y2] 39))
  have HK4 := hide (hk4.more HOA.out)
  clear hk4 ho4 HSO4 vc0 vc1 vc2 vc3 vc4 vc5 vc6 vc7 vc8 vc9 vc10 p0 p1 p2 p3 p4 p5
  go_upto_region 6 with fail
  obtain ⟨W4, hW4⟩ : ∃ W, w4.alloc (.cells #[.slice x0 m0 y0, .slice x1 m1 y1, .slice x2 m2 y2] 39) = W := ⟨_, rfl⟩
  rw [hW4] at HW4 HOA HK4 ⊢
  clear hW4
  obtain ⟨b5, hb5⟩ : ∃ b, w4.heap.size = b := ⟨_, rfl⟩
  rw [hb5] at HW4 ⊢
  clear hb5
  obtain ⟨z0, z1, z2, _, _, _, _⟩ := HW4.out
  have HLT := hide (wk_lit W4)
  have HSA : Hid (∀ W, Only (fun _ => False) W4 W → WkAt W W4.heap.size (.slice (some ⟨W4.heap.size, 0, none⟩) 2 2) (.slice (some ⟨W4.heap.size + 1, 0, none⟩) 1 1) (.slice (some ⟨W4.heap.size + 1 + 1, 0, none⟩) 2 2) kA → Calls Tryz.prog 9 #[.agg #[.slice x0 m0 y0, .slice x1 m1 y1, .slice x2 m2 y2], .agg #[.slice (some ⟨W4.heap.size, 0, none⟩) 2 2, .slice (some ⟨W4.heap.size + 1, 0, none⟩) 1 1, .slice (some ⟨W4.heap.size + 1 + 1, 0, none⟩) 2 2]] W fun e w' => e = .returned (.bool true) ∧ Only (fun _ => False) W w') := fun W ho hk => vsame_eq W _ _ _ _ _ _ _ _ kA (HK4.out.more ho) hk ⟨by decide, by decide, by decide⟩
  have HOL := hide (o2 (o2 (onlyA W4 (.cells #[.int .i64 0, .int .i64 4] 3)) (onlyA _ (.cells #[.int .i64 4] 3))) (onlyA _ (.cells #[.string ⟨#[98]⟩, .int .i64 7, .int .i64 1, .string ⟨#[107]⟩, .int .i64 7, .int .i64 3] 74)))
  go_wp2_with fail
  refine (HSA.out _ HOL.out HLT.out).mono ?_
  rintro e w5 ⟨rfl, ho5⟩
  have HO5 := hide (o2 HO4.out (o2 HOA.out (o2 HOL.out ho5)))
  clear ho5
  go_wp2_with fail
  go_ret
  exact ⟨rfl, HO5.out⟩
theorem view_any (w : World) (m fr : Int) (BO : Nat) (aO : Option Addr) (n cap : Nat) (X : Nat → Int) (S : Nat → Nat) (V : Vw) (q : Lo) (hm : I64 m) (hfr : I64 fr) (hS : Sds w BO aO n X S) (h : Sn w V q) :
    Calls Tryz.prog 5 #[.agg #[.int .i64 m, .int .i64 fr, .slice aO n cap], .agg #[.int .i64 V.m, .int .i64 V.next, .slice q.aA V.act.length q.cA, .int .i64 V.own, .slice q.aR V.run.length q.cR, .int .i64 V.pg.lsn, .int .i64 V.pg.kind, .int .i64 V.pg.level, .int .i64 V.pg.right, .string V.pg.high, .slice q.aP V.pg.items.length q.cP]] w fun e w' => ∃ V' q' b, MdQ w w' e V' q' b := by
  by_cases hI : Idd m fr
  · exact (made_ok w m fr BO aO n cap X S V q hI hS h).mono (fun e w' ⟨B, ao, cp, hq⟩ => ⟨_, _, _, hq⟩)
  · exact (made_no w m fr (.slice aO n cap) V q hm hfr hI h).mono (fun e w' hq => ⟨_, _, _, hq⟩)
theorem xv_new (w : World) (m fr : Int) (va : Value) (V : Vw) (q : Lo) : XB ((w.alloc (.cells #[.int .i64 m, .int .i64 fr, va] 24)).alloc (.cells #[.int .i64 V.m, .int .i64 V.next, .slice q.aA V.act.length q.cA, .int .i64 V.own, .slice q.aR V.run.length q.cR, .int .i64 V.pg.lsn, .int .i64 V.pg.kind, .int .i64 V.pg.level, .int .i64 V.pg.right, .string V.pg.high, .slice q.aP V.pg.items.length q.cP] 32)) w.heap.size (.int .i64 m) (.int .i64 fr) va ∧ VB ((w.alloc (.cells #[.int .i64 m, .int .i64 fr, va] 24)).alloc (.cells #[.int .i64 V.m, .int .i64 V.next, .slice q.aA V.act.length q.cA, .int .i64 V.own, .slice q.aR V.run.length q.cR, .int .i64 V.pg.lsn, .int .i64 V.pg.kind, .int .i64 V.pg.level, .int .i64 V.pg.right, .string V.pg.high, .slice q.aP V.pg.items.length q.cP] 32)) (w.heap.size + 1) (.int .i64 V.m) (.int .i64 V.next) (.slice q.aA V.act.length q.cA) (.int .i64 V.own) (.slice q.aR V.run.length q.cR) (.int .i64 V.pg.lsn) (.int .i64 V.pg.kind) (.int .i64 V.pg.level) (.int .i64 V.pg.right) (.string V.pg.high) (.slice q.aP V.pg.items.length q.cP) ∧ Only (fun _ => False) w ((w.alloc (.cells #[.int .i64 m, .int .i64 fr, va] 24)).alloc (.cells #[.int .i64 V.m, .int .i64 V.next, .slice q.aA V.act.length q.cA, .int .i64 V.own, .slice q.aR V.run.length q.cR, .int .i64 V.pg.lsn, .int .i64 V.pg.kind, .int .i64 V.pg.level, .int .i64 V.pg.right, .string V.pg.high, .slice q.aP V.pg.items.length q.cP] 32)) := by
  obtain ⟨w1, hw1⟩ : ∃ x, w.alloc (.cells #[.int .i64 m, .int .i64 fr, va] 24) = x := ⟨_, rfl⟩
  have hs1 : w1.heap.size = w.heap.size + 1 := by rw [← hw1]; simp
  have hx : XB w1 w.heap.size (.int .i64 m) (.int .i64 fr) va := by rw [← hw1]; exact ⟨by simp, by simp, by simp, by simp⟩
  have ho1 : Only (fun _ => False) w w1 := by rw [← hw1]; exact onlyA _ _
  rw [hw1]
  have h7 := VB.new w1 (.int .i64 V.m) (.int .i64 V.next) (.slice q.aA V.act.length q.cA) (.int .i64 V.own) (.slice q.aR V.run.length q.cR) (.int .i64 V.pg.lsn) (.int .i64 V.pg.kind) (.int .i64 V.pg.level) (.int .i64 V.pg.right) (.string V.pg.high) (.slice q.aP V.pg.items.length q.cP)
  rw [hs1] at h7
  exact ⟨hx.more (onlyA _ _), h7, o2 ho1 (onlyA _ _)⟩
end Go.Proofs.YtpnbhddmdfcjdaaGreat
namespace Go.Proofs.YtpnbhddmdfcjdaaGreat
open Go.ChangeShapes Go.WideShapes Go.ChangeAt Go.RowKit Go.Deep
theorem Tryz.laidOut : laidOutB Tryz.prog = true := by kernel_rfl
theorem Tryz.cellsInt : Tryz.prog.cellsOf 3 = 1 := by kernel_rfl
theorem Tryz.cellsBool : Tryz.prog.cellsOf 4 = 1 := by kernel_rfl
theorem Tryz.cellsSt : Tryz.prog.cellsOf 58 = 1 := by kernel_rfl
theorem Tryz.cellsInts : Tryz.prog.cellsOf 25 = 1 := by kernel_rfl
theorem Tryz.cellsSaid : Tryz.prog.cellsOf 60 = 2 := by kernel_rfl
theorem Tryz.cellsSaids : Tryz.prog.cellsOf 22 = 1 := by kernel_rfl
theorem Tryz.cellsSPage : Tryz.prog.cellsOf 24 = 3 := by kernel_rfl
theorem Tryz.cellsStr : Tryz.prog.cellsOf 9 = 1 := by kernel_rfl
theorem Tryz.cellsStrs : Tryz.prog.cellsOf 28 = 1 := by kernel_rfl
theorem Tryz.bytesStr : Tryz.prog.bytesOf 9 = 16 := by kernel_rfl
theorem cell_spot {w : World} {a : Addr} {v : Value} (h : w.cell? a = some v) : a = ⟨a.block, a.off, none⟩ := by
  obtain ⟨b, o, s⟩ := a
  cases s with
  | none => rfl
  | some q =>
    unfold World.cell? at h
    split at h
    · simp at h
    · simp at h
theorem weightsAll_mem {H : Type} {P : Program} {e : TypeId} {d : DataW H} {l : List (DataW H)} {n : Nat} (hd : d ∈ l) (hn : n ∈ d.weights P e) : n ∈ DataW.weightsAll P e l := by
  induction l with
  | nil => cases hd
  | cons x t ih =>
    rw [DataW.weightsAll, List.mem_append]
    rcases List.mem_cons.1 hd with rfl | h
    · exact .inl hn
    · exact .inr (ih h)
theorem strs_of_trod {H : Type} {enc : TypeId × Value → H} {W : World} {c : Value} {x : DataW H × List MemPlace} {n : Nat} (h : DataW.trod enc Tryz.prog W 0 (fun _ => true) true n 28 [c] = some x) (hw : ∀ m ∈ x.1.weights Tryz.prog 28, m ≤ reachBytes) :
    ∃ (B : Nat) (ao : Option Addr) (cp : Nat) (l : List ByteArray), c = .slice ao l.length cp ∧ Strs W B ao l ∧ Fit ao l.length cp ∧ l.length ≤ 8796093021952 := by
  rcases open_strs Tryz.underlying28 Tryz.underlying9 Tryz.cellsStr h with ⟨hcs, _⟩ | ⟨ad, len, cap, m, Sx, hcs, _, hl, hm, hmm, hx, hc⟩
  · simp at hcs
    subst hcs
    exact ⟨0, none, 0, [], rfl, Strs.nil _ _ _, ⟨fun _ => rfl, by simp, (by unfold maxLen; omega)⟩, by simp⟩
  · simp at hcs hmm
    subst hcs
    subst hmm
    rw [hx] at hw
    simp only [DataW.weights, Tryz.underlying28, Tryz.bytesStr] at hw
    have hwb := hw ((((List.range len).map fun i => DataW.lit (H := H) (.string (Sx i).data.toList)).length + ((List.range (m - len)).map fun j => DataW.lit (H := H) (.string (Sx (len + j)).data.toList)).length) * 16) (by simp)
    simp only [List.length_map, List.length_range] at hwb
    have hlen : ((List.range len).map Sx).length = len := by simp
    have hwr : reachBytes = 140737488351232 := by decide
    refine ⟨ad.block, some ad, m, (List.range len).map Sx, by rw [hlen], ⟨fun h0 => ?_, fun h0 => ?_, by rw [hlen]; omega, fun s hs => ?_⟩, ⟨(fun h => by cases h), (by rw [hlen]; exact hl), hm⟩, by rw [hlen]; omega⟩
    · rw [hlen] at h0
      have c0 := (hc 0 (by omega)).1
      have e0 : ad.add 0 = ad := by unfold Addr.add; split <;> simp_all
      rw [e0] at c0
      have ha := cell_spot c0
      refine ⟨ad.off, by rw [← ha], fun j hj => ?_⟩
      rw [hlen] at hj
      have cj := (hc j (by omega)).1
      rw [ha, add_at] at cj
      rw [cj]
      simp
    · rw [hlen] at h0
      have c0 := (hc 0 (by omega)).1
      have e0 : ad.add 0 = ad := by unfold Addr.add; split <;> simp_all
      rw [e0] at c0
      exact World.block_lt_of_cell? W _ c0
    · obtain ⟨i, hi, rfl⟩ := List.mem_map.1 hs
      have hmem : (DataW.lit (H := H) (.string (Sx i).data.toList)) ∈ (List.range len).map fun i => DataW.lit (H := H) (.string (Sx i).data.toList) := List.mem_map.2 ⟨i, hi, rfl⟩
      have := hw (Sx i).data.toList.length (by
        refine List.mem_cons_of_mem _ (List.mem_append.2 (.inl (weightsAll_mem hmem ?_)))
        simp [DataW.weights])
      rw [show (Sx i).data.toList.length = (Sx i).size from bl_len _] at this
      omega
theorem sized_mem {H : Type} {ts : List TypeId} {ds : List (DataW H)} (h : (DataW.weightsEach Tryz.prog ts ds).all (· ≤ reachBytes) = true) {j : Nat} {t : TypeId} {d : DataW H} (ht : ts[j]? = some t) (hd : ds[j]? = some d) : ∀ n ∈ d.weights Tryz.prog t, n ≤ reachBytes := by
  intro n hn
  have := List.all_eq_true.1 h _ (DataW.weights_mem_each ht hd n hn)
  simpa using this
theorem Tryz.cellsSnapshot : Tryz.prog.cellsOf 27 = 2 := by kernel_rfl
theorem sadd_at (b o j : Nat) : (⟨b, o, none⟩ : Addr).add j = ⟨b, o + j, none⟩ := by simp [Addr.add]
theorem sadd_nought (a : Addr) : a.add 0 = a := by simp [Addr.add]
set_option maxRecDepth 100000 in
theorem ns_of_trod {H : Type} {enc : TypeId × Value → H} {W : World} {c : Value} {x : DataW H × List MemPlace} {n : Nat} (h : DataW.trod enc Tryz.prog W 0 (fun _ => true) true n 25 [c] = some x) :
    ∃ (B : Nat) (ao : Option Addr) (cp : Nat) (l : List Int), c = .slice ao l.length cp ∧ Nz W B ao l ∧ (ao = none → cp = 0) := by
  rcases open_slice Tryz.underlying25 h with ⟨hcs, hx⟩ | ⟨a', len, cap, m, n, D, Pl, hcs, hb, hl, hm, hmm, hx, hit⟩
  · simp at hcs
    subst hcs
    exact ⟨0, none, 0, [], rfl, Nz.nil _ _ _, fun _ => rfl⟩
  · simp at hcs
    subst hcs
    have hlm : len ≤ m := by rw [hmm]; split <;> omega
    have one : ∀ i, i < len → ∃ z : Int, W.cell? (a'.add i) = some (.int .i64 z) ∧ I64 z := fun i hi => by
      obtain ⟨cs', h1, h2⟩ := hit i (by omega)
      rw [Tryz.cellsInt] at h1
      obtain ⟨_, hlen, hcell⟩ := World.cells?_some h1
      match cs', hlen with
      | [v0], _ =>
        obtain ⟨z, e0, _, wz⟩ := DataW.trod_int Tryz.underlying3 h2
        simp at e0
        subst e0
        have c0 := hcell 0 (by omega)
        rw [sadd_nought, Nat.mul_one] at c0
        have b0 := bounds_i64 wz
        exact ⟨z, by simpa using c0, b0.1, by omega⟩
    obtain ⟨q, hq⟩ := choose_lt (n := len) one
    have hlen : ((List.range len).map q).length = len := by simp
    have hmx : maxLen = 9223372036854775807 := rfl
    refine ⟨a'.block, some a', cap, (List.range len).map q, by rw [hlen], ⟨fun h0 => ?_, fun x hx => ?_, fun h0 => ?_, by rw [hlen]; omega⟩, fun h => by cases h⟩
    · rw [hlen] at h0
      have c0 := (hq 0 (by omega)).1
      rw [sadd_nought] at c0
      have ha := cell_spot c0
      refine ⟨a'.off, by rw [← ha], fun j hj => ?_⟩
      rw [hlen] at hj
      have cj := (hq j (by omega)).1
      rw [ha, sadd_at] at cj
      rw [cj]
      simp
    · obtain ⟨i, hi, rfl⟩ := List.mem_map.1 hx
      exact (hq i (by simpa using hi)).2
    · rw [hlen] at h0
      have c0 := (hq 0 (by omega)).1
      rw [sadd_nought] at c0
      exact World.block_lt_of_cell? W _ c0
set_option maxRecDepth 100000 in
theorem said_of_trod {H : Type} {enc : TypeId × Value → H} {W : World} {sp : Nat → Bool} {hd : Bool} {cs : List Value} {x : DataW H × List MemPlace} {n : Nat} (h : DataW.trod enc Tryz.prog W 0 sp hd n 60 cs = some x) (hl : cs.length = 2) :
    ∃ q : Int × Nat, cs = [.int .i64 q.1, .int .u8 (q.2 : Int)] ∧ I64 q.1 ∧ q.2 < 256 := by
  obtain ⟨y0, y1, m, _, _, g0, g1⟩ := trod_struct2 Tryz.underlying60 h
  match cs, hl with
  | [v0, v1], _ =>
    simp [Tryz.cellsInt, Tryz.cellsSt] at g0 g1
    obtain ⟨z, e1, _, wz⟩ := DataW.trod_int Tryz.underlying3 g0
    obtain ⟨s, e2, _, ws⟩ := DataW.trod_int Tryz.underlying58 g1
    simp at e1 e2
    subst e1 e2
    have b0 := bounds_u8 ws
    have b1 := bounds_i64 wz
    have hs : ((s.toNat : Nat) : Int) = s := by omega
    exact ⟨(z, s.toNat), by simp only [hs], ⟨b1.1, by show z < _; omega⟩, by show s.toNat < 256; omega⟩
set_option maxRecDepth 100000 in
theorem saids_of_trod {H : Type} {enc : TypeId × Value → H} {W : World} {c : Value} {x : DataW H × List MemPlace} {fuel : Nat} (h : DataW.trod enc Tryz.prog W 0 (fun _ => true) true fuel 22 [c] = some x) :
    ∃ (B : Nat) (ao : Option Addr) (n cap : Nat) (X : Nat → Int) (S : Nat → Nat), c = .slice ao n cap ∧ Sds W B ao n X S := by
  rcases open_slice Tryz.underlying22 h with ⟨hcs, hx⟩ | ⟨a', len, cap, m, n, D, Pl, hcs, hb, hl, hm, hmm, hx, hit⟩
  · simp at hcs
    subst hcs
    exact ⟨0, none, 0, 0, fun _ => 0, fun _ => 0, rfl, ⟨fun h => by omega, fun j h => by omega, fun h => by omega, by omega⟩⟩
  · simp at hcs
    subst hcs
    have hlm : len ≤ m := by rw [hmm]; split <;> omega
    have each : ∀ i, i < len → ∃ q : Int × Nat, W.cell? (a'.add (i * 2)) = some (.int .i64 q.1) ∧ W.cell? (a'.add (i * 2 + 1)) = some (.int .u8 (q.2 : Int)) ∧ I64 q.1 ∧ q.2 < 256 := by
      intro i hi
      obtain ⟨cs', h1, h2⟩ := hit i (by omega)
      rw [Tryz.cellsSaid] at h1
      obtain ⟨_, hlen, hcell⟩ := World.cells?_some h1
      obtain ⟨q, e, k1, k2⟩ := said_of_trod h2 hlen
      subst e
      have c0 := hcell 0 (by omega)
      have c1 := hcell 1 (by omega)
      rw [add_add] at c0 c1
      exact ⟨q, by simpa using c0, by simpa using c1, k1, k2⟩
    obtain ⟨q, hq⟩ := choose_lt (n := len) each
    have hlen : len < 9223372036854775808 := by
      have hmx : maxLen = 9223372036854775807 := rfl
      omega
    by_cases h0 : len = 0
    · subst h0
      exact ⟨0, some a', 0, cap, fun _ => 0, fun _ => 0, rfl, ⟨fun h => by omega, fun j h => by omega, fun h => by omega, by omega⟩⟩
    · have z0 := (hq 0 (by omega)).1
      rw [Nat.zero_mul, sadd_nought] at z0
      have e : a' = ⟨a'.block, a'.off, none⟩ := cell_spot z0
      have hbl := World.block_lt_of_cell? W _ z0
      obtain ⟨bb, oo, ss⟩ := a'
      simp at e
      subst e
      refine ⟨bb, some ⟨bb, oo, none⟩, len, cap, fun i => (q i).1, fun i => (q i).2, rfl, ⟨fun _ => ⟨oo, rfl, fun j hj => ?_⟩, fun j hj => (hq j hj).2.2, fun _ => hbl, hlen⟩⟩
      obtain ⟨c0, c1, _⟩ := hq j hj
      rw [sadd_at] at c0 c1
      exact ⟨c0, c1⟩
set_option maxRecDepth 100000 in
theorem open_spage {H : Type} {enc : TypeId × Value → H} {W : World} {base : Nat} {v : Value} {d : DataW H} {ps : List MemPlace} (hok : Value.okWide Tryz.prog W .any base 24 v) (h : DataW.Trod enc Tryz.prog W 0 (fun _ => true) true 24 v d ps) :
    ∃ (m fr : Int) (B : Nat) (ao : Option Addr) (n cap : Nat) (X : Nat → Int) (S : Nat → Nat), v = .agg #[.int .i64 m, .int .i64 fr, .slice ao n cap] ∧ I64 m ∧ I64 fr ∧ Sds W B ao n X S := by
  obtain ⟨cs, rfl, hs⟩ := okWide_struct Tryz.underlying24 hok
  obtain ⟨fuel, hf⟩ := h
  rw [Tryz.cellsSPage] at hs
  obtain ⟨y0, y1, y2, n, _, _, g0, g1, g2⟩ := trod_struct3 Tryz.underlying24 hf
  obtain ⟨c0, c1, c2, rfl⟩ : ∃ c0 c1 c2, cs = #[c0, c1, c2] := by
    obtain ⟨l⟩ := cs
    match l, hs with
    | [a, b, c], _ => exact ⟨a, b, c, rfl⟩
  simp [Value.cells, Tryz.cellsInt, Tryz.cellsSaids] at g0 g1 g2
  obtain ⟨x, e0, _, w0⟩ := DataW.trod_int Tryz.underlying3 g0
  obtain ⟨y, e1, _, w1⟩ := DataW.trod_int Tryz.underlying3 g1
  obtain ⟨B, ao, k, cap, X, S, e2, hS⟩ := saids_of_trod g2
  simp at e0 e1
  subst e0 e1 e2
  have b0 := bounds_i64 w0
  have b1 := bounds_i64 w1
  exact ⟨x, y, B, ao, k, cap, X, S, rfl, ⟨b0.1, by omega⟩, ⟨b1.1, by omega⟩, hS⟩
set_option maxRecDepth 100000 in
theorem page_of_trod {H : Type} {enc : TypeId × Value → H} {W : World} {c0 c1 c2 c3 c4 c5 : Value} {x : DataW H × List MemPlace} {n : Nat} (h : DataW.trod enc Tryz.prog W 0 (fun _ => true) true n 30 [c0, c1, c2, c3, c4, c5] = some x) (hw : ∀ m ∈ x.1.weights Tryz.prog 30, m ≤ reachBytes) :
    ∃ (p : Pg) (B : Nat) (ao : Option Addr) (cp : Nat), c0 = .int .i64 p.lsn ∧ c1 = .int .i64 p.kind ∧ c2 = .int .i64 p.level ∧ c3 = .int .i64 p.right ∧ c4 = .string p.high ∧ c5 = .slice ao p.items.length cp ∧ Strs W B ao p.items ∧ Fit ao p.items.length cp := by
  obtain ⟨xs, n', _, hx, _, hlen, hfs⟩ := DataW.trod_struct Tryz.underlying30 h
  match xs, hlen with
  | [y0, y1, y2, y3, y4, y5], _ =>
    have g0 := hfs 0 _ rfl
    have g1 := hfs 1 _ rfl
    have g2 := hfs 2 _ rfl
    have g3 := hfs 3 _ rfl
    have g4 := hfs 4 _ rfl
    have g5 := hfs 5 _ rfl
    simp [Tryz.cellsInt, Tryz.cellsStr, Tryz.cellsStrs] at g0 g1 g2 g3 g4 g5
    obtain ⟨a, e0, _, w0⟩ := DataW.trod_int Tryz.underlying3 g0
    obtain ⟨k, e1, _, w1⟩ := DataW.trod_int Tryz.underlying3 g1
    obtain ⟨u, e2, _, w2⟩ := DataW.trod_int Tryz.underlying3 g2
    obtain ⟨r, e3, _, w3⟩ := DataW.trod_int Tryz.underlying3 g3
    obtain ⟨h, e4, f4, _⟩ := DataW.trod_string Tryz.underlying9 g4
    simp at e0 e1 e2 e3 e4
    rw [hx] at hw
    simp only [DataW.weights, Tryz.underlying30] at hw
    have hw5 : ∀ m ∈ y5.1.weights Tryz.prog 28, m ≤ reachBytes := fun m hm => hw m (DataW.weights_mem_each (j := 5) (t := 28) (d := y5.1) rfl rfl m hm)
    obtain ⟨B, ao, cp, l, e5, hS, hF, hL⟩ := strs_of_trod g5 hw5
    exact ⟨⟨a, k, u, r, h, l⟩, B, ao, cp, e0, e1, e2, e3, e4, e5, hS, hF⟩
set_option maxRecDepth 100000 in
theorem open_view {H : Type} {enc : TypeId × Value → H} {W : World} {base : Nat} {v : Value} {d : DataW H} {ps : List MemPlace} (hok : Value.okWide Tryz.prog W .any base 32 v) (h : DataW.Trod enc Tryz.prog W 0 (fun _ => true) true 32 v d ps)
    (hw : ∀ m ∈ d.weights Tryz.prog 32, m ≤ reachBytes) : ∃ (V : Vw) (q : Lo), v = .agg #[.int .i64 V.m, .int .i64 V.next, .slice q.aA V.act.length q.cA, .int .i64 V.own, .slice q.aR V.run.length q.cR, .int .i64 V.pg.lsn, .int .i64 V.pg.kind, .int .i64 V.pg.level, .int .i64 V.pg.right, .string V.pg.high, .slice q.aP V.pg.items.length q.cP] ∧ Sn W V q := by
  obtain ⟨cs, rfl, hs⟩ := okWide_struct Tryz.underlying32 hok
  obtain ⟨fuel, hf⟩ := h
  rw [Tryz.cellsView] at hs
  obtain ⟨xs, n, _, hx, _, hlen, hfs⟩ := DataW.trod_struct Tryz.underlying32 hf
  obtain ⟨c0, c1, c2, c3, c4, c5, c6, c7, c8, c9, c10, rfl⟩ : ∃ c0 c1 c2 c3 c4 c5 c6 c7 c8 c9 c10, cs = #[c0, c1, c2, c3, c4, c5, c6, c7, c8, c9, c10] := by
    obtain ⟨l⟩ := cs
    match l, hs with
    | [c0, c1, c2, c3, c4, c5, c6, c7, c8, c9, c10], _ => exact ⟨c0, c1, c2, c3, c4, c5, c6, c7, c8, c9, c10, rfl⟩
  match xs, hlen with
  | [y0, y1, y2, y3, y4], _ =>
    simp only [Prod.mk.injEq] at hx
    have g0 := hfs 0 _ rfl
    have g1 := hfs 1 _ rfl
    have g2 := hfs 2 _ rfl
    have g3 := hfs 3 _ rfl
    have g4 := hfs 4 _ rfl
    simp [Value.cells, Tryz.cellsInt, Tryz.cellsInts, Tryz.cellsSnapshot, Tryz.cellsPage] at g0 g1 g2 g3 g4
    obtain ⟨a, e0, _, w0⟩ := DataW.trod_int Tryz.underlying3 g0
    obtain ⟨z0, z1, n2, _, _, k0, k1⟩ := trod_struct2 Tryz.underlying27 g1
    simp [Tryz.cellsInt, Tryz.cellsInts] at k0 k1
    obtain ⟨b, e1, _, w1⟩ := DataW.trod_int Tryz.underlying3 k0
    obtain ⟨BA, aA, cA, lA, e2, hA, _⟩ := ns_of_trod k1
    obtain ⟨c, e3, _, w3⟩ := DataW.trod_int Tryz.underlying3 g2
    obtain ⟨BR, aR, cR, lR, e4, hR, _⟩ := ns_of_trod g3
    rw [hx.1] at hw
    simp only [DataW.weights, Tryz.underlying32] at hw
    have hw4 : ∀ m ∈ y4.1.weights Tryz.prog 30, m ≤ reachBytes := fun m hm => hw m (DataW.weights_mem_each (j := 4) (t := 30) (d := y4.1) rfl rfl m hm)
    obtain ⟨p, BP, aP, cP, f0, f1, f2, f3, f4, f5, hP, hF⟩ := page_of_trod g4 hw4
    simp at e0 e1 e3
    subst e0 e1 e2 e3 e4 f0 f1 f2 f3 f4 f5
    have b0 := bounds_i64 w0
    have b1 := bounds_i64 w1
    have b3 := bounds_i64 w3
    exact ⟨⟨a, b, lA, c, lR, p⟩, ⟨BA, aA, cA, BR, aR, cR, BP, aP, cP⟩, rfl, ⟨hA, hR, hP, hF, ⟨b0.1, by show a < _; omega⟩, ⟨b1.1, by show b < _; omega⟩, ⟨b3.1, by show c < _; omega⟩⟩⟩
theorem slice_reachI {H : Type} {enc : TypeId × Value → H} {W : World} {t e : TypeId} {c : Value} {x : DataW H × List MemPlace} {n : Nat} (ht : Tryz.prog.underlying t = some (.slice e)) (h : DataW.trod enc Tryz.prog W 0 (fun _ => true) true n t [c] = some x) (hw : ∀ m ∈ x.1.weights Tryz.prog t, m ≤ reachBytes) :
    c = .slice none 0 0 ∨ ∃ (a : Addr) (len cap m : Nat) (D : Nat → DataW H) (Pl : Nat → List MemPlace), c = .slice (some a) len cap ∧ len ≤ cap ∧ cap ≤ maxLen ∧ cap * Tryz.prog.bytesOf e ≤ reachBytes ∧
      (∀ i, i < cap → ∃ cs', W.cells? 0 (a.add (i * Tryz.prog.cellsOf e)) (Tryz.prog.cellsOf e) = some cs' ∧ DataW.trod enc Tryz.prog W 0 (fun _ => true) true m e cs' = some (D i, Pl i)) ∧
      (∀ i, i < len → ∀ k ∈ (D i).weights Tryz.prog e, k ≤ reachBytes) := by
  rcases open_slice ht h with ⟨hcs, hx⟩ | ⟨a', len', cap', m, n', D, Pl, hcs, hb', hl, hm, hmm, hx, hit⟩
  · simp at hcs
    exact .inl hcs
  · simp at hcs hmm
    subst hmm
    rw [hx] at hw
    simp only [DataW.weights, ht] at hw
    have hwb := hw ((((List.range len').map D).length + ((List.range (m - len')).map fun j => D (len' + j)).length) * Tryz.prog.bytesOf e) (by simp)
    simp only [List.length_map, List.length_range] at hwb
    have e1 : len' + (m - len') = m := by omega
    rw [e1] at hwb
    refine .inr ⟨a', len', m, n', D, Pl, hcs, hl, hm, hwb, hit, fun i hi k hk => ?_⟩
    refine hw k (List.mem_cons_of_mem _ (List.mem_append.2 (.inl (weightsAll_mem (d := D i) (List.mem_map.2 ⟨i, List.mem_range.2 hi, rfl⟩) hk))))
theorem Tryz.cellsSlotT : Tryz.prog.cellsOf 64 = 7 := by kernel_rfl
theorem Tryz.bytesSlotT : Tryz.prog.bytesOf 64 = 80 := by kernel_rfl
theorem Tryz.cellsTupleI : Tryz.prog.cellsOf 62 = 5 := by kernel_rfl
set_option maxRecDepth 100000 in
theorem tuple_of_trodI {H : Type} {enc : TypeId × Value → H} {W : World} {c0 c1 c2 c3 c4 : Value} {x : DataW H × List MemPlace} {n : Nat} (h : DataW.trod enc Tryz.prog W 0 (fun _ => true) true n 62 [c0, c1, c2, c3, c4] = some x) :
    ∃ t : Tu, c0 = .int .i64 t.xmin ∧ c1 = .int .i64 t.xmax ∧ c2 = .bool t.frozen ∧ c3 = .string t.key ∧ c4 = .string t.value ∧ I64 t.xmin ∧ I64 t.xmax := by
  obtain ⟨xs, n, _, hx, _, hlen, hfs⟩ := DataW.trod_struct Tryz.underlying62 h
  match xs, hlen with
  | [y0, y1, y2, y3, y4], _ =>
    have g0 := hfs 0 _ rfl
    have g1 := hfs 1 _ rfl
    have g2 := hfs 2 _ rfl
    have g3 := hfs 3 _ rfl
    have g4 := hfs 4 _ rfl
    simp [Tryz.cellsInt, Tryz.cellsStr, Tryz.cellsBool] at g0 g1 g2 g3 g4
    obtain ⟨a, e0, _, w0⟩ := DataW.trod_int Tryz.underlying3 g0
    obtain ⟨b, e1, _, w1⟩ := DataW.trod_int Tryz.underlying3 g1
    obtain ⟨c, e2, _⟩ := DataW.trod_bool Tryz.underlying4 g2
    obtain ⟨k, e3, _, _⟩ := DataW.trod_string Tryz.underlying9 g3
    obtain ⟨u, e4, _, _⟩ := DataW.trod_string Tryz.underlying9 g4
    simp at e0 e1 e2 e3 e4
    have b0 := bounds_i64 w0
    have b1 := bounds_i64 w1
    exact ⟨⟨a, b, c, k, u⟩, e0, e1, e2, e3, e4, ⟨b0.1, by show a < _; omega⟩, ⟨b1.1, by show b < _; omega⟩⟩
set_option maxRecDepth 100000 in
theorem slot_of_trod {H : Type} {enc : TypeId × Value → H} {W : World} {cs : List Value} {x : DataW H × List MemPlace} {n : Nat} (h : DataW.trod enc Tryz.prog W 0 (fun _ => true) true n 64 cs = some x) (hl : cs.length = 7) (hw : ∀ m ∈ x.1.weights Tryz.prog 64, m ≤ reachBytes) :
    ∃ s : Sv, cs = s.cl ∧ I64 s.kind ∧ I64 s.t.xmin ∧ I64 s.t.xmax ∧ s.raw.size ≤ 140737488355328 := by
  obtain ⟨xs, n, _, hx, _, hlen, hfs⟩ := DataW.trod_struct Tryz.underlying64 h
  match cs, hl with
  | [v0, v1, v2, v3, v4, v5, v6], _ =>
    match xs, hlen with
    | [y0, y1, y2], _ =>
      have g0 := hfs 0 _ rfl
      have g1 := hfs 1 _ rfl
      have g2 := hfs 2 _ rfl
      simp [Tryz.cellsInt, Tryz.cellsStr, Tryz.cellsTupleI] at g0 g1 g2
      obtain ⟨a, e0, _, w0⟩ := DataW.trod_int Tryz.underlying3 g0
      obtain ⟨t, e1, e2, e3, e4, e5, k1, k2⟩ := tuple_of_trodI g1
      obtain ⟨r, e6, f6, _⟩ := DataW.trod_string Tryz.underlying9 g2
      simp at e0 e6
      subst e0 e1 e2 e3 e4 e5 e6
      have b0 := bounds_i64 w0
      rw [hx] at hw
      simp only [DataW.weights, Tryz.underlying64] at hw
      have hr : ∀ m ∈ y2.1.weights Tryz.prog 9, m ≤ reachBytes := fun m hm => hw m (DataW.weights_mem_each (j := 2) (t := 9) (d := y2.1) rfl rfl m hm)
      have hwr : reachBytes = 140737488351232 := by decide
      have hs := hr r.size (by rw [f6]; simp [DataW.weights])
      exact ⟨⟨a, t, r⟩, rfl, ⟨b0.1, by show a < _; omega⟩, k1, k2, by show r.size ≤ _; omega⟩
set_option maxRecDepth 100000 in
theorem open_slots {H : Type} {enc : TypeId × Value → H} {W : World} {base : Nat} {v : Value} {d : DataW H} {ps : List MemPlace} (hok : Value.okWide Tryz.prog W .any base 33 v) (h : DataW.Trod enc Tryz.prog W 0 (fun _ => true) true 33 v d ps)
    (hw : ∀ m ∈ d.weights Tryz.prog 33, m ≤ reachBytes) : ∃ (B : Nat) (ao : Option Addr) (cp : Nat) (l : List Sv), v = .slice ao l.length cp ∧ Svs W B ao l := by
  obtain ⟨fuel, hf⟩ := h
  have hv : v.cells.toList = [v] := by
    rcases okWide_slice Tryz.underlying33 hok with ⟨a, b, c, rfl⟩
    rfl
  rw [hv] at hf
  have none0 : ∀ ao, Svs W 0 ao [] := fun ao => ⟨fun h => absurd h (by simp), fun h => absurd h (by simp), (fun _ h => by cases h), by simp⟩
  rcases slice_reachI Tryz.underlying33 hf hw with rfl | ⟨a, len, cap, m, D, Pl, rfl, hl, hm, hc, hit, hwe⟩
  · exact ⟨0, none, 0, [], rfl, none0 _⟩
  · rw [Tryz.bytesSlotT] at hc
    have hwr : reachBytes = 140737488351232 := by decide
    by_cases hl0 : len = 0
    · subst hl0
      exact ⟨0, some a, cap, [], rfl, none0 _⟩
    have one : ∀ i, i < len → ∃ z : Sv, (∀ j u, z.cl[j]? = some u → W.cell? ((a.add (i * 7)).add j) = some u) ∧ (I64 z.kind ∧ I64 z.t.xmin ∧ I64 z.t.xmax ∧ z.raw.size ≤ 140737488355328) := fun i hi => by
      obtain ⟨cs', h1, h2⟩ := hit i (by omega)
      rw [Tryz.cellsSlotT] at h1
      obtain ⟨_, hlen, hcell⟩ := World.cells?_some h1
      obtain ⟨s, he, hb⟩ := slot_of_trod h2 hlen (hwe i hi)
      refine ⟨s, fun j u hu => ?_, hb⟩
      have hj : j < 7 := by
        have := (List.getElem?_eq_some_iff.1 hu).1
        exact this
      rw [hcell j hj, he, hu]
    have inh : Inhabited Sv := ⟨⟨0, noT, ⟨#[]⟩⟩⟩
    obtain ⟨q, hq⟩ := choose_lt (n := len) one
    have ha : a = ⟨a.block, a.off, none⟩ := by
      have c0 := (hq 0 (by omega)).1 0 _ rfl
      rw [Nat.zero_mul, sadd_nought, sadd_nought] at c0
      exact cell_spot c0
    have hlen : ((List.range len).map q).length = len := by simp
    refine ⟨a.block, some a, cap, (List.range len).map q, by rw [hlen], ⟨fun h0 => ⟨a.off, by rw [← ha], fun j hj i u hu => ?_⟩, fun h0 => ?_, fun z hz => ?_, ?_⟩⟩
    · rw [hlen] at hj
      have hu2 : (q j).cl[i]? = some u := by simpa using hu
      have := (hq j hj).1 i u hu2
      rw [ha, sadd_at, sadd_at] at this
      exact this
    · have c0 := (hq 0 (by omega)).1 0 _ rfl
      rw [ha, sadd_at, sadd_at] at c0
      exact World.block_lt_of_cell? W ⟨a.block, a.off + 0 * 7 + 0, none⟩ c0
    · obtain ⟨j, hj, rfl⟩ := List.mem_map.1 hz
      exact (hq j (List.mem_range.1 hj)).2
    · rw [hlen]
      omega
end Go.Proofs.YtpnbhddmdfcjdaaGreat
