/- Parts. -/
import Derived.Test.YtpnbhddmdfcjdaaGreatK17
set_option maxRecDepth 100000
namespace Go.Proofs.YtpnbhddmdfcjdaaGreat
open Go.RowKit
/-- Three cells in block b. -/
structure XB (w : World) (b : Nat) (v0 v1 v2 : Value) : Prop where
  c0 : w.cell? ⟨b, 0, none⟩ = some v0
  c1 : w.cell? ⟨b, 1, none⟩ = some v1
  c2 : w.cell? ⟨b, 2, none⟩ = some v2
  lt : b < w.heap.size
theorem XB.kept {S : Nat → Prop} {w w' : World} {b : Nat} {v0 v1 v2 : Value} (h : XB w b v0 v1 v2) (ho : Only S w w') (hS : ¬ S b) : XB w' b v0 v1 v2 :=
  ⟨(ho.cell (p := ⟨b, 0, none⟩) h.lt hS).trans h.c0, (ho.cell (p := ⟨b, 1, none⟩) h.lt hS).trans h.c1, (ho.cell (p := ⟨b, 2, none⟩) h.lt hS).trans h.c2, Nat.lt_of_lt_of_le h.lt ho.size⟩
theorem XB.more {w w' : World} {b : Nat} {v0 v1 v2 : Value} (h : XB w b v0 v1 v2) (ho : Only (fun _ => False) w w') : XB w' b v0 v1 v2 := h.kept ho (fun h => h)
theorem ld_saids {w : World} {p : Addr} {v : Value} (h : w.cell? p = some v) : (loadVar 22 p).run Tryz.prog w = .ok v w := by simp [loadVar, go_sem, h]
theorem view_new (w : World) (m fr : Int) (va : Value) (V : Vw) (q : Lo) : XB (((w.alloc (.cells #[.int .i64 m, .int .i64 fr, va] 24)).alloc (.cells #[.int .i64 V.m, .int .i64 V.next, .slice q.aA V.act.length q.cA, .int .i64 V.own, .slice q.aR V.run.length q.cR, .int .i64 V.pg.lsn, .int .i64 V.pg.kind, .int .i64 V.pg.level, .int .i64 V.pg.right, .string V.pg.high, .slice q.aP V.pg.items.length q.cP] 32)).alloc (.cells #[.int .i64 0, .int .i64 0, .slice none 0 0, .int .i64 0, .slice none 0 0, .int .i64 0, .int .i64 0, .int .i64 0, .int .i64 0, .string ⟨#[]⟩, .slice none 0 0] 32)) w.heap.size (.int .i64 m) (.int .i64 fr) va ∧ VB (((w.alloc (.cells #[.int .i64 m, .int .i64 fr, va] 24)).alloc (.cells #[.int .i64 V.m, .int .i64 V.next, .slice q.aA V.act.length q.cA, .int .i64 V.own, .slice q.aR V.run.length q.cR, .int .i64 V.pg.lsn, .int .i64 V.pg.kind, .int .i64 V.pg.level, .int .i64 V.pg.right, .string V.pg.high, .slice q.aP V.pg.items.length q.cP] 32)).alloc (.cells #[.int .i64 0, .int .i64 0, .slice none 0 0, .int .i64 0, .slice none 0 0, .int .i64 0, .int .i64 0, .int .i64 0, .int .i64 0, .string ⟨#[]⟩, .slice none 0 0] 32)) (w.heap.size + 1) (.int .i64 V.m) (.int .i64 V.next) (.slice q.aA V.act.length q.cA) (.int .i64 V.own) (.slice q.aR V.run.length q.cR) (.int .i64 V.pg.lsn) (.int .i64 V.pg.kind) (.int .i64 V.pg.level) (.int .i64 V.pg.right) (.string V.pg.high) (.slice q.aP V.pg.items.length q.cP) ∧ VB (((w.alloc (.cells #[.int .i64 m, .int .i64 fr, va] 24)).alloc (.cells #[.int .i64 V.m, .int .i64 V.next, .slice q.aA V.act.length q.cA, .int .i64 V.own, .slice q.aR V.run.length q.cR, .int .i64 V.pg.lsn, .int .i64 V.pg.kind, .int .i64 V.pg.level, .int .i64 V.pg.right, .string V.pg.high, .slice q.aP V.pg.items.length q.cP] 32)).alloc (.cells #[.int .i64 0, .int .i64 0, .slice none 0 0, .int .i64 0, .slice none 0 0, .int .i64 0, .int .i64 0, .int .i64 0, .int .i64 0, .string ⟨#[]⟩, .slice none 0 0] 32)) (w.heap.size + 1 + 1) (.int .i64 0) (.int .i64 0) (.slice none 0 0) (.int .i64 0) (.slice none 0 0) (.int .i64 0) (.int .i64 0) (.int .i64 0) (.int .i64 0) (.string ⟨#[]⟩) (.slice none 0 0) ∧ Only (fun _ => False) w (((w.alloc (.cells #[.int .i64 m, .int .i64 fr, va] 24)).alloc (.cells #[.int .i64 V.m, .int .i64 V.next, .slice q.aA V.act.length q.cA, .int .i64 V.own, .slice q.aR V.run.length q.cR, .int .i64 V.pg.lsn, .int .i64 V.pg.kind, .int .i64 V.pg.level, .int .i64 V.pg.right, .string V.pg.high, .slice q.aP V.pg.items.length q.cP] 32)).alloc (.cells #[.int .i64 0, .int .i64 0, .slice none 0 0, .int .i64 0, .slice none 0 0, .int .i64 0, .int .i64 0, .int .i64 0, .int .i64 0, .string ⟨#[]⟩, .slice none 0 0] 32)) ∧ (((w.alloc (.cells #[.int .i64 m, .int .i64 fr, va] 24)).alloc (.cells #[.int .i64 V.m, .int .i64 V.next, .slice q.aA V.act.length q.cA, .int .i64 V.own, .slice q.aR V.run.length q.cR, .int .i64 V.pg.lsn, .int .i64 V.pg.kind, .int .i64 V.pg.level, .int .i64 V.pg.right, .string V.pg.high, .slice q.aP V.pg.items.length q.cP] 32)).alloc (.cells #[.int .i64 0, .int .i64 0, .slice none 0 0, .int .i64 0, .slice none 0 0, .int .i64 0, .int .i64 0, .int .i64 0, .int .i64 0, .string ⟨#[]⟩, .slice none 0 0] 32)).heap.size = w.heap.size + 3 := by
  obtain ⟨w1, hw1⟩ : ∃ x, w.alloc (.cells #[.int .i64 m, .int .i64 fr, va] 24) = x := ⟨_, rfl⟩
  have hs1 : w1.heap.size = w.heap.size + 1 := by rw [← hw1]; simp
  have hx : XB w1 w.heap.size (.int .i64 m) (.int .i64 fr) va := by rw [← hw1]; exact ⟨by simp, by simp, by simp, by simp⟩
  have ho1 : Only (fun _ => False) w w1 := by rw [← hw1]; exact onlyA _ _
  rw [hw1]
  have h7 := VB.new w1 (.int .i64 V.m) (.int .i64 V.next) (.slice q.aA V.act.length q.cA) (.int .i64 V.own) (.slice q.aR V.run.length q.cR) (.int .i64 V.pg.lsn) (.int .i64 V.pg.kind) (.int .i64 V.pg.level) (.int .i64 V.pg.right) (.string V.pg.high) (.slice q.aP V.pg.items.length q.cP)
  obtain ⟨w2, hw2⟩ : ∃ x, w1.alloc (.cells #[.int .i64 V.m, .int .i64 V.next, .slice q.aA V.act.length q.cA, .int .i64 V.own, .slice q.aR V.run.length q.cR, .int .i64 V.pg.lsn, .int .i64 V.pg.kind, .int .i64 V.pg.level, .int .i64 V.pg.right, .string V.pg.high, .slice q.aP V.pg.items.length q.cP] 32) = x := ⟨_, rfl⟩
  have hs2 : w2.heap.size = w.heap.size + 1 + 1 := by rw [← hw2, ← hs1]; simp
  have ho2 : Only (fun _ => False) w1 w2 := by rw [← hw2]; exact onlyA _ _
  rw [hw2] at h7 ⊢
  have h8 := VB.new w2 (.int .i64 0) (.int .i64 0) (.slice none 0 0) (.int .i64 0) (.slice none 0 0) (.int .i64 0) (.int .i64 0) (.int .i64 0) (.int .i64 0) (.string ⟨#[]⟩) (.slice none 0 0)
  rw [hs1] at h7
  rw [hs2] at h8
  exact ⟨hx.more (o2 ho2 (onlyA _ _)), h7.more (onlyA _ _), h8, o2 ho1 (o2 ho2 (onlyA _ _)), by simp; omega⟩
/-- What made leaves where the page can be laid. -/
structure MdQ (w w' : World) (e : Ending) (V : Vw) (q : Lo) (b : Bool) : Prop where
  ret : e = .returned (.tuple #[.agg #[.int .i64 V.m, .int .i64 V.next, .slice q.aA V.act.length q.cA, .int .i64 V.own, .slice q.aR V.run.length q.cR, .int .i64 V.pg.lsn, .int .i64 V.pg.kind, .int .i64 V.pg.level, .int .i64 V.pg.right, .string V.pg.high, .slice q.aP V.pg.items.length q.cP], .bool b])
  sn : Sn w' V q
  only : Only (fun _ => False) w w'
set_option maxRecDepth 100000 in
set_option maxHeartbeats 1600000 in
theorem made_no (w : World) (m fr : Int) (va : Value) (V : Vw) (q : Lo) (hm : I64 m) (hfr : I64 fr) (hI : ¬ Idd m fr) (h : Sn w V q) :
    Calls Tryz.prog 5 #[.agg #[.int .i64 m, .int .i64 fr, va], .agg #[.int .i64 V.m, .int .i64 V.next, .slice q.aA V.act.length q.cA, .int .i64 V.own, .slice q.aR V.run.length q.cR, .int .i64 V.pg.lsn, .int .i64 V.pg.kind, .int .i64 V.pg.level, .int .i64 V.pg.right, .string V.pg.high, .slice q.aP V.pg.items.length q.cP]] w fun e w' => MdQ w w' e V q false := by
  have HB := hide (fun W => cblank_err W m fr hm hfr hI)
  have HN := hide h
  have HNW := hide (view_new w m fr (va) V q)
  clear hm hfr hI h
  go_enter Tryz.func5, Tryz.ntmps5
  go_upto_region 1 with fail
  obtain ⟨W0, hW0⟩ : ∃ W, ((w.alloc (.cells #[.int .i64 m, .int .i64 fr, va] 24)).alloc (.cells #[.int .i64 V.m, .int .i64 V.next, .slice q.aA V.act.length q.cA, .int .i64 V.own, .slice q.aR V.run.length q.cR, .int .i64 V.pg.lsn, .int .i64 V.pg.kind, .int .i64 V.pg.level, .int .i64 V.pg.right, .string V.pg.high, .slice q.aP V.pg.items.length q.cP] 32)).alloc (.cells #[.int .i64 0, .int .i64 0, .slice none 0 0, .int .i64 0, .slice none 0 0, .int .i64 0, .int .i64 0, .int .i64 0, .int .i64 0, .string ⟨#[]⟩, .slice none 0 0] 32) = W := ⟨_, rfl⟩
  rw [hW0] at HNW ⊢
  clear hW0
  obtain ⟨b8, hb8⟩ : ∃ b, w.heap.size + 1 + 1 = b := ⟨_, rfl⟩
  rw [hb8] at HNW ⊢
  obtain ⟨b7, hb7⟩ : ∃ b, w.heap.size + 1 = b := ⟨_, rfl⟩
  rw [hb7] at HNW ⊢
  obtain ⟨b6, hb6⟩ : ∃ b, w.heap.size = b := ⟨_, rfl⟩
  rw [hb6] at HNW ⊢
  have HBK : Hid (b6 = w.heap.size ∧ b7 = b6 + 1 ∧ b8 = b6 + 2) := ⟨hb6.symm, by omega, by omega⟩
  clear hb6 hb7 hb8
  have HX := hide HNW.out.1
  have HV7 := hide HNW.out.2.1
  have HV8 := hide HNW.out.2.2.1
  have HO := hide HNW.out.2.2.2.1
  have HSZ := hide HNW.out.2.2.2.2
  clear HNW
  obtain ⟨x0, x1, x2, xl⟩ := HX.out
  go_wp2_with fail
  refine (HB.out _).mono ?_
  rintro e w1 ⟨B1, ao1, cp1, rfl, hS1, hF1, ho1, hB1⟩
  have HO1 := hide (o2 (o2 HO.out ho1) (onlyA w1 (.cells #[.int .i64 Pg.none.lsn, .int .i64 Pg.none.kind, .int .i64 Pg.none.level, .int .i64 Pg.none.right, .string Pg.none.high, .slice ao1 Pg.none.items.length cp1] 30)))
  have HV7 := hide (HV7.out.more (o2 ho1 (onlyA w1 (.cells #[.int .i64 Pg.none.lsn, .int .i64 Pg.none.kind, .int .i64 Pg.none.level, .int .i64 Pg.none.right, .string Pg.none.high, .slice ao1 Pg.none.items.length cp1] 30))))
  have HV8 := hide (HV8.out.more (o2 ho1 (onlyA w1 (.cells #[.int .i64 Pg.none.lsn, .int .i64 Pg.none.kind, .int .i64 Pg.none.level, .int .i64 Pg.none.right, .string Pg.none.high, .slice ao1 Pg.none.items.length cp1] 30))))
  clear hS1 hF1 ho1 hB1 x0 x1 x2 xl
  go_upto_region 2 with fail
  obtain ⟨W1, hW1⟩ : ∃ W, w1.alloc (.cells #[.int .i64 Pg.none.lsn, .int .i64 Pg.none.kind, .int .i64 Pg.none.level, .int .i64 Pg.none.right, .string Pg.none.high, .slice ao1 Pg.none.items.length cp1] 30) = W := ⟨_, rfl⟩
  rw [hW1] at HO1 HV7 HV8 ⊢
  clear hW1
  obtain ⟨vc0, vc1, vc2, vc3, vc4, vc5, vc6, vc7, vc8, vc9, vc10, vf0, vf1, vf2, vf3, vf4, vf5, vf6, vf7, vf8, vf9, vf10, vl⟩ := HV7.out
  obtain ⟨zc0, zc1, zc2, zc3, zc4, zc5, zc6, zc7, zc8, zc9, zc10, zf0, zf1, zf2, zf3, zf4, zf5, zf6, zf7, zf8, zf9, zf10, zl⟩ := HV8.out
  go_wp2_with fail
  have hbk := HBK.out
  refine bodyPost_ret (results_view rfl rfl (HV8.out.all (.int .i64 V.m) (.int .i64 V.next) (.slice q.aA V.act.length q.cA) (.int .i64 V.own) (.slice q.aR V.run.length q.cR) (.int .i64 V.pg.lsn) (.int .i64 V.pg.kind) (.int .i64 V.pg.level) (.int .i64 V.pg.right) (.string V.pg.high) (.slice q.aP V.pg.items.length q.cP))) rfl ?_
  refine ⟨rfl, ?_, ?_⟩
  · exact HN.out.more (HO1.out.trans (Only.eleven _ _ (.int .i64 V.m) (.int .i64 V.next) (.slice q.aA V.act.length q.cA) (.int .i64 V.own) (.slice q.aR V.run.length q.cR) (.int .i64 V.pg.lsn) (.int .i64 V.pg.kind) (.int .i64 V.pg.level) (.int .i64 V.pg.right) (.string V.pg.high) (.slice q.aP V.pg.items.length q.cP)) (fun i hi e => by omega))
  · exact HO1.out.trans (Only.eleven _ _ (.int .i64 V.m) (.int .i64 V.next) (.slice q.aA V.act.length q.cA) (.int .i64 V.own) (.slice q.aR V.run.length q.cR) (.int .i64 V.pg.lsn) (.int .i64 V.pg.kind) (.int .i64 V.pg.level) (.int .i64 V.pg.right) (.string V.pg.high) (.slice q.aP V.pg.items.length q.cP)) (fun i hi e => by omega)
set_option maxRecDepth 100000 in
set_option maxHeartbeats 3200000 in
theorem made_ok (w : World) (m fr : Int) (BO : Nat) (aO : Option Addr) (n cap : Nat) (X : Nat → Int) (S : Nat → Nat) (V : Vw) (q : Lo) (hI : Idd m fr) (hS : Sds w BO aO n X S) (h : Sn w V q) :
    Calls Tryz.prog 5 #[.agg #[.int .i64 m, .int .i64 fr, .slice aO n cap], .agg #[.int .i64 V.m, .int .i64 V.next, .slice q.aA V.act.length q.cA, .int .i64 V.own, .slice q.aR V.run.length q.cR, .int .i64 V.pg.lsn, .int .i64 V.pg.kind, .int .i64 V.pg.level, .int .i64 V.pg.right, .string V.pg.high, .slice q.aP V.pg.items.length q.cP]] w fun e w' => ∃ B ao cp, MdQ w w' e ⟨m, V.next, V.act, V.own, V.run, sayP m fr X S n⟩ ⟨q.bA, q.aA, q.cA, q.bR, q.aR, q.cR, B, ao, cp⟩ true := by
  have HB := hide (fun W => cblank_ok W m fr hI)
  have HK0 := hide (OkP.blank hI)
  have hm1 := hI.1.1
  have hm2 := hI.1.2.1
  have HIM : Hid (I64 m) := ⟨by omega, by omega⟩
  have HOPS := hide hS
  have hn := hS.len
  have HN := hide h
  have HNW := hide (view_new w m fr (.slice aO n cap) V q)
  obtain ⟨P0, hP0⟩ : ∃ P, blankP m fr = P := ⟨_, rfl⟩
  have HLS : Hid (P0.lsn = 0) := by unfold Hid; rw [← hP0]; rfl
  have HSA0 : Hid (P0 = sayP m fr X S 0) := hP0.symm
  simp only [hP0] at HB HK0
  obtain ⟨f, hf⟩ : ∃ f, lim m (it0 P0) = f := ⟨_, rfl⟩
  have HF := hide hf
  clear hP0 hI hS h hf
  go_enter Tryz.func5, Tryz.ntmps5
  go_upto_region 1 with fail
  obtain ⟨W0, hW0⟩ : ∃ W, ((w.alloc (.cells #[.int .i64 m, .int .i64 fr, .slice aO n cap] 24)).alloc (.cells #[.int .i64 V.m, .int .i64 V.next, .slice q.aA V.act.length q.cA, .int .i64 V.own, .slice q.aR V.run.length q.cR, .int .i64 V.pg.lsn, .int .i64 V.pg.kind, .int .i64 V.pg.level, .int .i64 V.pg.right, .string V.pg.high, .slice q.aP V.pg.items.length q.cP] 32)).alloc (.cells #[.int .i64 0, .int .i64 0, .slice none 0 0, .int .i64 0, .slice none 0 0, .int .i64 0, .int .i64 0, .int .i64 0, .int .i64 0, .string ⟨#[]⟩, .slice none 0 0] 32) = W := ⟨_, rfl⟩
  rw [hW0] at HNW ⊢
  clear hW0
  obtain ⟨b8, hb8⟩ : ∃ b, w.heap.size + 1 + 1 = b := ⟨_, rfl⟩
  rw [hb8] at HNW ⊢
  obtain ⟨b7, hb7⟩ : ∃ b, w.heap.size + 1 = b := ⟨_, rfl⟩
  rw [hb7] at HNW ⊢
  obtain ⟨b6, hb6⟩ : ∃ b, w.heap.size = b := ⟨_, rfl⟩
  rw [hb6] at HNW ⊢
  have HBK : Hid (b6 = w.heap.size ∧ b7 = b6 + 1 ∧ b8 = b6 + 2) := ⟨hb6.symm, by omega, by omega⟩
  clear hb6 hb7 hb8
  have HX := hide HNW.out.1
  have HV7 := hide HNW.out.2.1
  have HV8 := hide HNW.out.2.2.1
  have HO0 := hide HNW.out.2.2.2.1
  have HSZ := hide HNW.out.2.2.2.2
  clear HNW
  obtain ⟨x0, x1, x2, xl⟩ := HX.out
  go_wp2_with fail
  refine (HB.out _).mono ?_
  rintro e w1 ⟨B1, ao1, cp1, rfl, hS1, hF1, ho1, hB1⟩
  have HP := hide (PgB.new hS1 hF1)
  have hoA := o2 ho1 (onlyA w1 (.cells #[.int .i64 P0.lsn, .int .i64 P0.kind, .int .i64 P0.level, .int .i64 P0.right, .string P0.high, .slice ao1 P0.items.length cp1] 30))
  have HOA := hide (o2 HO0.out hoA)
  have HV7 := hide (HV7.out.more hoA)
  have HV8 := hide (HV8.out.more hoA)
  have HX := hide (HX.out.more hoA)
  have HB1 : Hid (b6 + 3 ≤ w1.heap.size) := by unfold Hid; have := HSZ.out; have := ho1.size; omega
  have HNE : Hid (B1 < w1.heap.size) := hS1.lt (by rw [HK0.out.two]; omega)
  have HB2 : Hid (b8 < B1) := by unfold Hid; have := HSZ.out; have := HBK.out; have := hB1 (by rw [HK0.out.two]; omega); omega
  clear hS1 hF1 hB1 ho1 hoA HSZ x0 x1 x2 xl
  go_upto_region 2 with fail
  obtain ⟨b1, hb1⟩ : ∃ b, w1.heap.size = b := ⟨_, rfl⟩
  obtain ⟨W1, hW1⟩ : ∃ W, w1.alloc (.cells #[.int .i64 P0.lsn, .int .i64 P0.kind, .int .i64 P0.level, .int .i64 P0.right, .string P0.high, .slice ao1 P0.items.length cp1] 30) = W := ⟨_, rfl⟩
  rw [hW1] at HP HOA HV7 HV8 HX ⊢
  rw [hb1] at HP HB1 HNE ⊢
  clear hW1 hb1
  have HV0 : Hid (Var m W1 W1 b1 f P0 B1 ao1 cp1) := ⟨HP.out, by have := HNE.out; omega, HK0.out, HF.out, HLS.out, Only.refl _ _⟩
  clear HP HK0 HNE HLS HF
  go_wp2_with fail
  go_loopw [8] (fun t wr => ∃ (i : Nat) (p : Pg) (B : Nat) (ao : Option Addr) (cp : Nat), i ≤ n ∧ t = .int .i64 (i : Int) ∧ Hid (Var m W1 wr b1 f p B ao cp) ∧ Hid (p = sayP m fr X S i) ∧ Hid (b8 < B)) (fun t _ => n - (intOf t).toNat)
  case atStart => exact ⟨0, _, _, _, _, by omega, rfl, HV0, HSA0, HB2⟩
  case round =>
    obtain ⟨i, p, B, ao, cp, hi, rfl, HV, HSA_, HBB⟩ := hrel
    have HOW : Hid (Only (fun _ => False) w wr) := HOA.out.trans HV.out.only (fun i hi e => by have := HB1.out; have := HBK.out; omega)
    have HXW := hide (HX.out.kept HV.out.only (fun e => by have e2 : b6 = b1 := e; have := HB1.out; omega))
    obtain ⟨x0, x1, x2, xl⟩ := HXW.out
    have HOPW := hide (HOPS.out.more HOW.out)
    by_cases hlt : i < n
    · obtain ⟨oO, eO, hcO⟩ := HOPW.out.at_ (by omega)
      subst eO
      have HC1 := hide (hcO i hlt).1
      have HC2 := hide (hcO i hlt).2
      have HBO := hide (HOPW.out.lt (by omega))
      obtain ⟨wfx, wfs⟩ := HOPW.out.wf i hlt
      have HSETq := hide (fun W (ho : Only (fun _ => False) wr W) => cset_any W m p.lsn p.kind p.level p.right (X i) p.high cp B ao p.items (S i) HIM.out wfx (HV.out.pg.strs.more ho) wfs)
      have e0 : (⟨p.lsn, p.kind, p.level, p.right, p.high, p.items⟩ : Pg) = p := rfl
      simp only [e0] at HSETq
      have HRO := hide (fun h => setR_ok (m := m) (x := X i) (p := p) (s := S i) h)
      have hkb := setC_bd m p (X i) (S i)
      have HY : Hid (setC m p (X i) (S i) = 0 → setR m p (X i) (S i) = sayP m fr X S (i + 1)) := fun h => by rw [sayP, ← HSA_.out, if_pos h]
      have HNX : Hid (¬ setC m p (X i) (S i) = 0 → p = sayP m fr X S (i + 1)) := fun h => by rw [sayP, ← HSA_.out, if_neg h]
      obtain ⟨kc, hkc⟩ : ∃ k, setC m p (X i) (S i) = k := ⟨_, rfl⟩
      obtain ⟨q5, hq⟩ : ∃ q, setR m p (X i) (S i) = q := ⟨_, rfl⟩
      simp only [hkc, hq] at HSETq HRO hkb HY HNX
      have HSET := HSETq
      have wx1 := wfx.1
      have wx2 := wfx.2
      clear hcO hkc hq HSETq e0 wfx
      have hin : (i : Int) < (n : Int) := by omega
      go_upto_region 7 with fail
      go_cut [9, 10] (fun t u wc => ∃ b5 B5 ao5 cp5, t = .pointer (some ⟨b5, 0, none⟩) ∧ u = .int .i64 kc ∧ Hid (Laid wr wc b5 q5 B5 ao5 cp5))
      case first =>
        refine wp_region_noPanic ?_
        refine wp_region_held_drew (S := fun W => Only (fun _ => False) wr W) (by kernel_rfl) (Only.drew _ wr) (fun hHeld => ?_)
        refine wpAnyH_take (i := 0) (oi := { dst := some 30, op := Op.fieldAddr 24 (Operand.tmp 2) 0, type := 0, pos := "law.go:42", after := #[], guard := none }) (v := .pointer (some ⟨b6, 0, none⟩)) rfl (by kernel_rfl) (by kernel_rfl) (by kernel_rfl) (fun _ _ _ h => h) (Or.inl ⟨by rfl, fun w' hSw => by clear hSw; go_simp⟩) (by assumption) ?_
        simp only [Act.put, List.setIfInBounds_toArray, List.set_cons_zero, List.set_cons_succ]
        refine wpAnyH_take (i := 2) (oi := { dst := some 32, op := Op.load 30 (Operand.tmp 6), type := 30, pos := "law.go:42", after := #[], guard := none }) (v := .agg #[.int .i64 p.lsn, .int .i64 p.kind, .int .i64 p.level, .int .i64 p.right, .string p.high, .slice ao p.items.length cp]) rfl (by kernel_rfl) (by kernel_rfl) (by kernel_rfl) (fun _ _ _ h => h) (yieldsIf_load_pageI (by rfl) _ rfl _ rfl (fun W hW => (HV.out.pg.more hW).pag)) (by assumption) ?_
        simp only [Act.put, List.setIfInBounds_toArray, List.set_cons_zero, List.set_cons_succ]
        refine wpAnyH_take (i := 3) (oi := { dst := some 33, op := Op.fieldAddr 24 (Operand.tmp 2) 2, type := 0, pos := "law.go:42", after := #[], guard := none }) (v := .pointer (some ⟨b6, 2, none⟩)) rfl (by kernel_rfl) (by kernel_rfl) (by kernel_rfl) (fun _ _ _ h => h) (Or.inl ⟨by rfl, fun w' hSw => by clear hSw; go_simp⟩) (by assumption) ?_
        simp only [Act.put, List.setIfInBounds_toArray, List.set_cons_zero, List.set_cons_succ]
        refine wpAnyH_take (i := 5) (oi := { dst := some 35, op := Op.move (Operand.tmp 8), type := 3, pos := "law.go:42", after := #[], guard := none }) (v := .int .i64 (i : Int)) rfl (by kernel_rfl) (by kernel_rfl) (by kernel_rfl) (fun _ _ _ h => h) (Or.inl ⟨by rfl, fun w' hSw => by clear hSw; go_simp⟩) (by assumption) ?_
        simp only [Act.put, List.setIfInBounds_toArray, List.set_cons_zero, List.set_cons_succ]
        refine wpAnyH_take (i := 9) (oi := { dst := some 39, op := Op.fieldAddr 24 (Operand.tmp 2) 2, type := 0, pos := "law.go:42", after := #[], guard := none }) (v := .pointer (some ⟨b6, 2, none⟩)) rfl (by kernel_rfl) (by kernel_rfl) (by kernel_rfl) (fun _ _ _ h => h) (Or.inl ⟨by rfl, fun w' hSw => by clear hSw; go_simp⟩) (by assumption) ?_
        simp only [Act.put, List.setIfInBounds_toArray, List.set_cons_zero, List.set_cons_succ]
        refine wpAnyH_take (i := 11) (oi := { dst := some 41, op := Op.move (Operand.tmp 8), type := 3, pos := "law.go:42", after := #[], guard := none }) (v := .int .i64 (i : Int)) rfl (by kernel_rfl) (by kernel_rfl) (by kernel_rfl) (fun _ _ _ h => h) (Or.inl ⟨by rfl, fun w' hSw => by clear hSw; go_simp⟩) (by assumption) ?_
        simp only [Act.put, List.setIfInBounds_toArray, List.set_cons_zero, List.set_cons_succ]
        refine wpAnyH_take (i := 1) (oi := { dst := some 31, op := Op.load 3 (Operand.tmp 30), type := 3, pos := "law.go:42", after := #[{ on := 0, ground := Ground.data }], guard := none }) (v := .int .i64 m) rfl (by kernel_rfl) (by kernel_rfl) (by kernel_rfl) (fun _ _ _ h => h) (yieldsIf_load_cell (by rfl) 3 _ rfl _ rfl (fun W hW => (hW.cell (p := ⟨b6, 0, none⟩) HXW.out.lt (fun h => h)).trans HXW.out.c0) (fun W hc => ld_int hc)) (by assumption) ?_
        simp only [Act.put, List.setIfInBounds_toArray, List.set_cons_zero, List.set_cons_succ]
        refine wpAnyH_take (i := 4) (oi := { dst := some 34, op := Op.load 22 (Operand.tmp 33), type := 22, pos := "law.go:42", after := #[{ on := 3, ground := Ground.data }], guard := none }) (v := .slice (some ⟨BO, oO, none⟩) n cap) rfl (by kernel_rfl) (by kernel_rfl) (by kernel_rfl) (fun _ _ _ h => h) (yieldsIf_load_cell (by rfl) 22 _ rfl _ rfl (fun W hW => (hW.cell (p := ⟨b6, 2, none⟩) HXW.out.lt (fun h => h)).trans HXW.out.c2) (fun W hc => ld_saids hc)) (by assumption) ?_
        simp only [Act.put, List.setIfInBounds_toArray, List.set_cons_zero, List.set_cons_succ]
        refine wpAnyH_take (i := 10) (oi := { dst := some 40, op := Op.load 22 (Operand.tmp 39), type := 22, pos := "law.go:42", after := #[{ on := 9, ground := Ground.data }], guard := none }) (v := .slice (some ⟨BO, oO, none⟩) n cap) rfl (by kernel_rfl) (by kernel_rfl) (by kernel_rfl) (fun _ _ _ h => h) (yieldsIf_load_cell (by rfl) 22 _ rfl _ rfl (fun W hW => (hW.cell (p := ⟨b6, 2, none⟩) HXW.out.lt (fun h => h)).trans HXW.out.c2) (fun W hc => ld_saids hc)) (by assumption) ?_
        simp only [Act.put, List.setIfInBounds_toArray, List.set_cons_zero, List.set_cons_succ]
        refine wpAnyH_take (i := 6) (oi := { dst := some 36, op := Op.indexAddr 22 (Operand.tmp 34) (Operand.tmp 35), type := 0, pos := "law.go:42", after := #[{ on := 4, ground := Ground.data }, { on := 5, ground := Ground.data }], guard := none }) (v := .pointer (some ⟨BO, oO + i * 2, none⟩)) rfl (by kernel_rfl) (by kernel_rfl) (by kernel_rfl) (fun _ _ _ h => h) (Or.inl ⟨by rfl, fun w' hSw => by clear hSw; go_simp⟩) (by assumption) ?_
        simp only [Act.put, List.setIfInBounds_toArray, List.set_cons_zero, List.set_cons_succ]
        refine wpAnyH_take (i := 12) (oi := { dst := some 42, op := Op.indexAddr 22 (Operand.tmp 40) (Operand.tmp 41), type := 0, pos := "law.go:42", after := #[{ on := 10, ground := Ground.data }, { on := 11, ground := Ground.data }], guard := none }) (v := .pointer (some ⟨BO, oO + i * 2, none⟩)) rfl (by kernel_rfl) (by kernel_rfl) (by kernel_rfl) (fun _ _ _ h => h) (Or.inl ⟨by rfl, fun w' hSw => by clear hSw; go_simp⟩) (by assumption) ?_
        simp only [Act.put, List.setIfInBounds_toArray, List.set_cons_zero, List.set_cons_succ]
        refine wpAnyH_take (i := 7) (oi := { dst := some 37, op := Op.fieldAddr 60 (Operand.tmp 36) 0, type := 0, pos := "law.go:42", after := #[{ on := 6, ground := Ground.data }], guard := none }) (v := .pointer (some ⟨BO, oO + i * 2, none⟩)) rfl (by kernel_rfl) (by kernel_rfl) (by kernel_rfl) (fun _ _ _ h => h) (Or.inl ⟨by rfl, fun w' hSw => by clear hSw; go_simp⟩) (by assumption) ?_
        simp only [Act.put, List.setIfInBounds_toArray, List.set_cons_zero, List.set_cons_succ]
        refine wpAnyH_take (i := 13) (oi := { dst := some 43, op := Op.fieldAddr 60 (Operand.tmp 42) 1, type := 0, pos := "law.go:42", after := #[{ on := 12, ground := Ground.data }], guard := none }) (v := .pointer (some ⟨BO, oO + i * 2 + 1, none⟩)) rfl (by kernel_rfl) (by kernel_rfl) (by kernel_rfl) (fun _ _ _ h => h) (Or.inl ⟨by rfl, fun w' hSw => by clear hSw; go_simp⟩) (by assumption) ?_
        simp only [Act.put, List.setIfInBounds_toArray, List.set_cons_zero, List.set_cons_succ]
        refine wpAnyH_take (i := 8) (oi := { dst := some 38, op := Op.load 3 (Operand.tmp 37), type := 3, pos := "law.go:42", after := #[{ on := 7, ground := Ground.data }], guard := none }) (v := .int .i64 (X i)) rfl (by kernel_rfl) (by kernel_rfl) (by kernel_rfl) (fun _ _ _ h => h) (yieldsIf_load_cell (by rfl) 3 _ rfl _ rfl (fun W hW => (hW.cell (p := ⟨BO, oO + i * 2, none⟩) HBO.out (fun h => h)).trans HC1.out) (fun W hc => ld_int hc)) (by assumption) ?_
        simp only [Act.put, List.setIfInBounds_toArray, List.set_cons_zero, List.set_cons_succ]
        refine wpAnyH_take (i := 14) (oi := { dst := some 44, op := Op.load 58 (Operand.tmp 43), type := 58, pos := "law.go:42", after := #[{ on := 13, ground := Ground.data }], guard := none }) (v := .int .u8 (S i : Int)) rfl (by kernel_rfl) (by kernel_rfl) (by kernel_rfl) (fun _ _ _ h => h) (yieldsIf_load_cell (by rfl) 58 _ rfl _ rfl (fun W hW => (hW.cell (p := ⟨BO, oO + i * 2 + 1, none⟩) HBO.out (fun h => h)).trans HC2.out) (fun W hc => ld_status hc)) (by assumption) ?_
        simp only [Act.put, List.setIfInBounds_toArray, List.set_cons_zero, List.set_cons_succ]
        refine wpAnyH_ready (rs := [15, 19]) (by kernel_rfl) (by simp) ?_
        refine AllReadyH.cons (o := { dst := some 45, op := Op.call { callee := Callee.value (Operand.func 18), args := #[Operand.tmp 31, Operand.tmp 32, Operand.tmp 38, Operand.tmp 44], argTypes := #[3, 30, 3, 58] }, type := 54, pos := "law.go:42", after := #[{ on := 1, ground := Ground.data }, { on := 2, ground := Ground.data }, { on := 8, ground := Ground.data }, { on := 14, ground := Ground.data }], guard := none }) rfl (fun K hK => ?_) (AllReadyH.cons (o := { dst := some 9, op := Op.alloc 30, type := 0, pos := "law.go:42", after := #[], guard := none }) rfl (fun K hK => ?_) (AllReadyH.nil))
        · go_simp
          refine (HSET.out _ (Only.drew _ wr)).mono ?_
          rintro e w5 ⟨B5, ao5, cp5, rfl, hS5, hF5, ho5, hB5⟩
          have HO5 := hide (o2 (Only.drew _ wr) ho5)
          have HL := hide (Laid.first hS5 hF5 HO5.out hB5)
          clear hS5 hF5 ho5 hB5
          refine hK.out _ _ (HO5.out) (fun hHeld => ?_)
          clear hK K
          try simp only [Act.put, List.setIfInBounds_toArray, List.set_cons_zero, List.set_cons_succ]
          refine wpAnyH_take (i := 16) (oi := { dst := some 29, op := Op.move (Operand.tmp 45), type := 54, pos := "law.go:42", after := #[{ on := 15, ground := Ground.data }], guard := none }) (v := .tuple #[.agg #[.int .i64 q5.lsn, .int .i64 q5.kind, .int .i64 q5.level, .int .i64 q5.right, .string q5.high, .slice ao5 q5.items.length cp5], .int .i64 kc]) rfl (by kernel_rfl) (by kernel_rfl) (by kernel_rfl) (fun _ _ _ h => h) (Or.inl ⟨by rfl, fun w' hSw => by clear hSw; go_simp⟩) (by assumption) ?_
          simp only [Act.put, List.setIfInBounds_toArray, List.set_cons_zero, List.set_cons_succ]
          refine wpAnyH_take (i := 17) (oi := { dst := some 46, op := Op.extract (Operand.tmp 29) 0, type := 30, pos := "law.go:42", after := #[{ on := 16, ground := Ground.data }], guard := none }) (v := .agg #[.int .i64 q5.lsn, .int .i64 q5.kind, .int .i64 q5.level, .int .i64 q5.right, .string q5.high, .slice ao5 q5.items.length cp5]) rfl (by kernel_rfl) (by kernel_rfl) (by kernel_rfl) (fun _ _ _ h => h) (Or.inl ⟨by rfl, fun w' hSw => by clear hSw; go_simp⟩) (by assumption) ?_
          simp only [Act.put, List.setIfInBounds_toArray, List.set_cons_zero, List.set_cons_succ]
          refine wpAnyH_take (i := 18) (oi := { dst := some 47, op := Op.extract (Operand.tmp 29) 1, type := 53, pos := "law.go:42", after := #[{ on := 16, ground := Ground.data }, { on := 20, ground := Ground.gcOnly Departure.lateStores }], guard := none }) (v := .int .i64 kc) rfl (by kernel_rfl) (by kernel_rfl) (by kernel_rfl) (fun _ _ _ h => h) (Or.inl ⟨by rfl, fun w' hSw => by clear hSw; go_simp⟩) (by assumption) ?_
          simp only [Act.put, List.setIfInBounds_toArray, List.set_cons_zero, List.set_cons_succ]
          refine wpAnyH_ready (rs := [19]) (by kernel_rfl) (by simp) ?_
          refine AllReadyH.cons (o := { dst := some 9, op := Op.alloc 30, type := 0, pos := "law.go:42", after := #[], guard := none }) rfl (fun K hK => ?_) (AllReadyH.nil)
          go_simp
          refine hK.out _ _ (o2 HO5.out (onlyA _ _)) (fun hHeld => ?_)
          clear hK K
          try simp only [Act.put, List.setIfInBounds_toArray, List.set_cons_zero, List.set_cons_succ]
          refine wpAnyH_ready (rs := [20]) (by kernel_rfl) (by simp) ?_
          refine AllReadyH.cons (o := { dst := none, op := Op.store 30 (Operand.tmp 9) (Operand.tmp 46), type := 0, pos := "law.go:42", after := #[{ on := 19, ground := Ground.data }, { on := 17, ground := Ground.data }, { on := 15, ground := Ground.chain }, { on := 0, ground := Ground.phase }, { on := 1, ground := Ground.phase }, { on := 2, ground := Ground.phase }, { on := 3, ground := Ground.phase }, { on := 4, ground := Ground.phase }, { on := 5, ground := Ground.phase }, { on := 6, ground := Ground.phase }, { on := 7, ground := Ground.phase }, { on := 8, ground := Ground.phase }, { on := 9, ground := Ground.phase }, { on := 10, ground := Ground.phase }, { on := 11, ground := Ground.phase }, { on := 12, ground := Ground.phase }, { on := 13, ground := Ground.phase }, { on := 14, ground := Ground.phase }, { on := 15, ground := Ground.phase }, { on := 16, ground := Ground.phase }, { on := 17, ground := Ground.phase }, { on := 18, ground := Ground.textOnly Departure.lateStores }, { on := 19, ground := Ground.phase }], guard := none }) rfl (fun K hK => ?_) (AllReadyH.nil)
          go_simp
          refine hK.out _ _ (HL.out.only) (fun hHeld => ?_)
          clear hK K
          try simp only [Act.put, List.setIfInBounds_toArray, List.set_cons_zero, List.set_cons_succ]
          refine wpAnyH_take (i := 21) (oi := { dst := some 10, op := Op.assign (Operand.tmp 47), type := 53, pos := "law.go:42", after := #[{ on := 18, ground := Ground.data }, { on := 20, ground := Ground.chain }, { on := 0, ground := Ground.phase }, { on := 1, ground := Ground.phase }, { on := 2, ground := Ground.phase }, { on := 3, ground := Ground.phase }, { on := 4, ground := Ground.phase }, { on := 5, ground := Ground.phase }, { on := 6, ground := Ground.phase }, { on := 7, ground := Ground.phase }, { on := 8, ground := Ground.phase }, { on := 9, ground := Ground.phase }, { on := 10, ground := Ground.phase }, { on := 11, ground := Ground.phase }, { on := 12, ground := Ground.phase }, { on := 13, ground := Ground.phase }, { on := 14, ground := Ground.phase }, { on := 15, ground := Ground.phase }, { on := 16, ground := Ground.phase }, { on := 17, ground := Ground.phase }, { on := 18, ground := Ground.phase }, { on := 19, ground := Ground.phase }, { on := 20, ground := Ground.phase }], guard := none }) (v := .int .i64 kc) rfl (by kernel_rfl) (by kernel_rfl) (by kernel_rfl) (fun _ _ _ h => h) (Or.inl ⟨by rfl, fun w' hSw => by clear hSw; go_simp⟩) (by assumption) ?_
          simp only [Act.put, List.setIfInBounds_toArray, List.set_cons_zero, List.set_cons_succ]
          refine wpAnyH_done (by kernel_rfl) ?_ _
          refine NoPanic.normal ?_
          go_wp2_with fail
          go_meet
          exact ⟨_, B5, ao5, cp5, rfl, rfl, HL⟩
        · go_simp
          have HSA : Hid (Only (fun _ => False) wr ((wr.alloc (.cells #[.int .i64 0, .int .i64 0, .int .i64 0, .int .i64 0, .string ⟨#[]⟩, .slice none 0 0] 30)).drew)) := o2 (onlyA _ _) (Only.drew _ _)
          have HZA : Hid (Pag ((wr.alloc (.cells #[.int .i64 0, .int .i64 0, .int .i64 0, .int .i64 0, .string ⟨#[]⟩, .slice none 0 0] 30)).drew) wr.heap.size (.int .i64 0) (.int .i64 0) (.int .i64 0) (.int .i64 0) (.string ⟨#[]⟩) (.slice none 0 0)) := (Pag.zero wr).more (Only.drew _ _)
          refine hK.out _ _ (HSA.out) (fun hHeld => ?_)
          clear hK K
          try simp only [Act.put, List.setIfInBounds_toArray, List.set_cons_zero, List.set_cons_succ]
          refine wpAnyH_ready (rs := [15]) (by kernel_rfl) (by simp) ?_
          refine AllReadyH.cons (o := { dst := some 45, op := Op.call { callee := Callee.value (Operand.func 18), args := #[Operand.tmp 31, Operand.tmp 32, Operand.tmp 38, Operand.tmp 44], argTypes := #[3, 30, 3, 58] }, type := 54, pos := "law.go:42", after := #[{ on := 1, ground := Ground.data }, { on := 2, ground := Ground.data }, { on := 8, ground := Ground.data }, { on := 14, ground := Ground.data }], guard := none }) rfl (fun K hK => ?_) (AllReadyH.nil)
          go_simp
          refine (HSET.out _ HSA.out).mono ?_
          rintro e w5 ⟨B5, ao5, cp5, rfl, hS5, hF5, ho5, hB5⟩
          have HZ := hide (HZA.out.more ho5)
          obtain ⟨z0, z1, z2, z3, z4, z5, y0, y1, y2, y3, y4, y5, zl⟩ := HZ.out
          have HO5 := hide (o2 HSA.out ho5)
          have HB5 : Hid (0 < q5.items.length → wr.heap.size < B5) := fun h => by have := hB5 h; have := HZA.out.lt; omega
          have HL := hide (Laid.then HZ.out hS5 hF5 HO5.out (Nat.le_refl _) HB5.out)
          clear hS5 hF5 ho5 hB5
          refine hK.out _ _ (HO5.out) (fun hHeld => ?_)
          clear hK K
          try simp only [Act.put, List.setIfInBounds_toArray, List.set_cons_zero, List.set_cons_succ]
          refine wpAnyH_take (i := 16) (oi := { dst := some 29, op := Op.move (Operand.tmp 45), type := 54, pos := "law.go:42", after := #[{ on := 15, ground := Ground.data }], guard := none }) (v := .tuple #[.agg #[.int .i64 q5.lsn, .int .i64 q5.kind, .int .i64 q5.level, .int .i64 q5.right, .string q5.high, .slice ao5 q5.items.length cp5], .int .i64 kc]) rfl (by kernel_rfl) (by kernel_rfl) (by kernel_rfl) (fun _ _ _ h => h) (Or.inl ⟨by rfl, fun w' hSw => by clear hSw; go_simp⟩) (by assumption) ?_
          simp only [Act.put, List.setIfInBounds_toArray, List.set_cons_zero, List.set_cons_succ]
          refine wpAnyH_take (i := 17) (oi := { dst := some 46, op := Op.extract (Operand.tmp 29) 0, type := 30, pos := "law.go:42", after := #[{ on := 16, ground := Ground.data }], guard := none }) (v := .agg #[.int .i64 q5.lsn, .int .i64 q5.kind, .int .i64 q5.level, .int .i64 q5.right, .string q5.high, .slice ao5 q5.items.length cp5]) rfl (by kernel_rfl) (by kernel_rfl) (by kernel_rfl) (fun _ _ _ h => h) (Or.inl ⟨by rfl, fun w' hSw => by clear hSw; go_simp⟩) (by assumption) ?_
          simp only [Act.put, List.setIfInBounds_toArray, List.set_cons_zero, List.set_cons_succ]
          refine wpAnyH_take (i := 18) (oi := { dst := some 47, op := Op.extract (Operand.tmp 29) 1, type := 53, pos := "law.go:42", after := #[{ on := 16, ground := Ground.data }, { on := 20, ground := Ground.gcOnly Departure.lateStores }], guard := none }) (v := .int .i64 kc) rfl (by kernel_rfl) (by kernel_rfl) (by kernel_rfl) (fun _ _ _ h => h) (Or.inl ⟨by rfl, fun w' hSw => by clear hSw; go_simp⟩) (by assumption) ?_
          simp only [Act.put, List.setIfInBounds_toArray, List.set_cons_zero, List.set_cons_succ]
          refine wpAnyH_ready (rs := [20]) (by kernel_rfl) (by simp) ?_
          refine AllReadyH.cons (o := { dst := none, op := Op.store 30 (Operand.tmp 9) (Operand.tmp 46), type := 0, pos := "law.go:42", after := #[{ on := 19, ground := Ground.data }, { on := 17, ground := Ground.data }, { on := 15, ground := Ground.chain }, { on := 0, ground := Ground.phase }, { on := 1, ground := Ground.phase }, { on := 2, ground := Ground.phase }, { on := 3, ground := Ground.phase }, { on := 4, ground := Ground.phase }, { on := 5, ground := Ground.phase }, { on := 6, ground := Ground.phase }, { on := 7, ground := Ground.phase }, { on := 8, ground := Ground.phase }, { on := 9, ground := Ground.phase }, { on := 10, ground := Ground.phase }, { on := 11, ground := Ground.phase }, { on := 12, ground := Ground.phase }, { on := 13, ground := Ground.phase }, { on := 14, ground := Ground.phase }, { on := 15, ground := Ground.phase }, { on := 16, ground := Ground.phase }, { on := 17, ground := Ground.phase }, { on := 18, ground := Ground.textOnly Departure.lateStores }, { on := 19, ground := Ground.phase }], guard := none }) rfl (fun K hK => ?_) (AllReadyH.nil)
          go_simp
          refine hK.out _ _ (HL.out.only) (fun hHeld => ?_)
          clear hK K
          try simp only [Act.put, List.setIfInBounds_toArray, List.set_cons_zero, List.set_cons_succ]
          refine wpAnyH_take (i := 21) (oi := { dst := some 10, op := Op.assign (Operand.tmp 47), type := 53, pos := "law.go:42", after := #[{ on := 18, ground := Ground.data }, { on := 20, ground := Ground.chain }, { on := 0, ground := Ground.phase }, { on := 1, ground := Ground.phase }, { on := 2, ground := Ground.phase }, { on := 3, ground := Ground.phase }, { on := 4, ground := Ground.phase }, { on := 5, ground := Ground.phase }, { on := 6, ground := Ground.phase }, { on := 7, ground := Ground.phase }, { on := 8, ground := Ground.phase }, { on := 9, ground := Ground.phase }, { on := 10, ground := Ground.phase }, { on := 11, ground := Ground.phase }, { on := 12, ground := Ground.phase }, { on := 13, ground := Ground.phase }, { on := 14, ground := Ground.phase }, { on := 15, ground := Ground.phase }, { on := 16, ground := Ground.phase }, { on := 17, ground := Ground.phase }, { on := 18, ground := Ground.phase }, { on := 19, ground := Ground.phase }, { on := 20, ground := Ground.phase }], guard := none }) (v := .int .i64 kc) rfl (by kernel_rfl) (by kernel_rfl) (by kernel_rfl) (fun _ _ _ h => h) (Or.inl ⟨by rfl, fun w' hSw => by clear hSw; go_simp⟩) (by assumption) ?_
          simp only [Act.put, List.setIfInBounds_toArray, List.set_cons_zero, List.set_cons_succ]
          refine wpAnyH_done (by kernel_rfl) ?_ _
          refine NoPanic.normal ?_
          go_wp2_with fail
          go_meet
          exact ⟨_, B5, ao5, cp5, rfl, rfl, HL⟩
      case rest =>
        obtain ⟨b5, B5, ao5, cp5, rfl, rfl, HL⟩ := hcut
        by_cases h0 : kc = 0
        · subst h0
          obtain ⟨ro, rl, rs⟩ := HRO.out rfl
          have HVN := hide (HV.out.put HL.out ro (rl.trans HV.out.lm) (rs.trans HV.out.lsn))
          have HBN : Hid (b8 < B5) := by unfold Hid; have := HBK.out; have := HL.out.hB (by rw [ro.two]; omega); have := HV.out.pg.pag.lt; have := HB1.out; omega
          have HSN := hide (HY.out rfl)
          clear ro rl rs hkb HRO HY HNX
          obtain ⟨p0, p1, p2, p3, p4, p5, f0, f1, f2, f3, f4, f5, fl⟩ := HL.out.pg.pag
          obtain ⟨q0, q1, q2, q3, q4, q5_, t0, t1, t2, t3, t4, t5, tl⟩ := (HV.out.pg.pag.more HL.out.only)
          go_wp2_with fail
          go_roundw
          case rel => exact ⟨i + 1, _, _, _, _, by omega, by go_num, HVN, HSN, HBN⟩
          case measure => simp [intOf]; omega
        · have hne : (kc == 0) = false := by simp [h0]
          have HVN := hide (HV.out.more HL.out.only)
          have HSN := hide (HNX.out h0)
          clear h0 HRO HY HNX
          go_wp2_with fail
          go_roundw
          case rel => exact ⟨i + 1, _, _, _, _, by omega, by go_num, HVN, HSN, HBB⟩
          case measure => simp [intOf]; omega
    · have e : i = n := by omega
      subst e
      clear HOPW hlt
      have hb7 : b7 ≠ b1 := by have := HB1.out; have := HBK.out; omega
      have hb8 : b8 ≠ b1 := by have := HB1.out; have := HBK.out; omega
      have HW7 := hide (HV7.out.kept HV.out.only hb7)
      have HW8 := hide (HV8.out.kept HV.out.only hb8)
      have HSTR : Hid (Strs wr B ao p.items ∧ Fit ao p.items.length cp) := ⟨HV.out.pg.strs, HV.out.pg.fit⟩
      have HPG := hide HV.out.pg.pag
      have HZa := hide (HW7.out.m (.int .i64 m))
      have HOa := hide (Only.setCell (S := fun k => k = b7) wr ⟨b7, 0, none⟩ (.int .i64 m) rfl)
      obtain ⟨vc0, vc1, vc2, vc3, vc4, vc5, vc6, vc7, vc8, vc9, vc10, vf0, vf1, vf2, vf3, vf4, vf5, vf6, vf7, vf8, vf9, vf10, vl⟩ := HW7.out
      go_upto_region 11 with fail
      clear vc0 vc1 vc2 vc3 vc4 vc5 vc6 vc7 vc8 vc9 vc10 vf0 vf1 vf2 vf3 vf4 vf5 vf6 vf7 vf8 vf9 vf10 vl
      obtain ⟨Wa, hWa⟩ : ∃ W, wr.setCell ⟨b7, 0, none⟩ (.int .i64 m) = W := ⟨_, rfl⟩
      rw [hWa] at HZa HOa ⊢
      clear hWa
      have HPa := hide (HPG.out.kept HOa.out (Ne.symm hb7))
      have HZb := hide (HZa.out.page (.int .i64 p.lsn) (.int .i64 p.kind) (.int .i64 p.level) (.int .i64 p.right) (.string p.high) (.slice ao p.items.length cp))
      have HOb := hide (Only.pageAt Wa b7 (.int .i64 p.lsn) (.int .i64 p.kind) (.int .i64 p.level) (.int .i64 p.right) (.string p.high) (.slice ao p.items.length cp))
      obtain ⟨vc0, vc1, vc2, vc3, vc4, vc5, vc6, vc7, vc8, vc9, vc10, vf0, vf1, vf2, vf3, vf4, vf5, vf6, vf7, vf8, vf9, vf10, vl⟩ := HZa.out
      obtain ⟨p0, p1, p2, p3, p4, p5, f0, f1, f2, f3, f4, f5, fl⟩ := HPa.out
      go_upto_region 12 with fail
      clear vc0 vc1 vc2 vc3 vc4 vc5 vc6 vc7 vc8 vc9 vc10 vf0 vf1 vf2 vf3 vf4 vf5 vf6 vf7 vf8 vf9 vf10 vl p0 p1 p2 p3 p4 p5 f0 f1 f2 f3 f4 f5 fl
      obtain ⟨Wb, hWb⟩ : ∃ W, ((((((Wa.setCell ⟨b7, 5, none⟩ (.int .i64 p.lsn)).setCell ⟨b7, 6, none⟩ (.int .i64 p.kind)).setCell ⟨b7, 7, none⟩ (.int .i64 p.level)).setCell ⟨b7, 8, none⟩ (.int .i64 p.right)).setCell ⟨b7, 9, none⟩ (.string p.high)).setCell ⟨b7, 10, none⟩ (.slice ao p.items.length cp)) = W := ⟨_, rfl⟩
      rw [hWb] at HZb HOb ⊢
      clear hWb
      have HOab : Hid (Only (fun k => k = b7) wr Wb) := HOa.out.trans HOb.out (fun _ _ h => h)
      have HW8b := hide (HW8.out.kept HOab.out (fun e => by have e2 : b8 = b7 := e; have := HBK.out; omega))
      obtain ⟨vc0, vc1, vc2, vc3, vc4, vc5, vc6, vc7, vc8, vc9, vc10, vf0, vf1, vf2, vf3, vf4, vf5, vf6, vf7, vf8, vf9, vf10, vl⟩ := HZb.out
      obtain ⟨zc0, zc1, zc2, zc3, zc4, zc5, zc6, zc7, zc8, zc9, zc10, zf0, zf1, zf2, zf3, zf4, zf5, zf6, zf7, zf8, zf9, zf10, zl⟩ := HW8b.out
      go_wp2_with fail
      have HOc := hide (Only.eleven Wb b8 (.int .i64 m) (.int .i64 V.next) (.slice q.aA V.act.length q.cA) (.int .i64 V.own) (.slice q.aR V.run.length q.cR) (.int .i64 p.lsn) (.int .i64 p.kind) (.int .i64 p.level) (.int .i64 p.right) (.string p.high) (.slice ao p.items.length cp))
      refine bodyPost_ret (results_view rfl rfl (HW8b.out.all (.int .i64 m) (.int .i64 V.next) (.slice q.aA V.act.length q.cA) (.int .i64 V.own) (.slice q.aR V.run.length q.cR) (.int .i64 p.lsn) (.int .i64 p.kind) (.int .i64 p.level) (.int .i64 p.right) (.string p.high) (.slice ao p.items.length cp))) rfl ?_
      have hB := HBB.out
      have hbk := HBK.out
      have hOf : Only (fun _ => False) w (((((((((((Wb.setCell ⟨b8, 0, none⟩ (.int .i64 m)).setCell ⟨b8, 1, none⟩ (.int .i64 V.next)).setCell ⟨b8, 2, none⟩ (.slice q.aA V.act.length q.cA)).setCell ⟨b8, 3, none⟩ (.int .i64 V.own)).setCell ⟨b8, 4, none⟩ (.slice q.aR V.run.length q.cR)).setCell ⟨b8, 5, none⟩ (.int .i64 p.lsn)).setCell ⟨b8, 6, none⟩ (.int .i64 p.kind)).setCell ⟨b8, 7, none⟩ (.int .i64 p.level)).setCell ⟨b8, 8, none⟩ (.int .i64 p.right)).setCell ⟨b8, 9, none⟩ (.string p.high)).setCell ⟨b8, 10, none⟩ (.slice ao p.items.length cp)) := (HOW.out.trans HOab.out (fun i hi e => by omega)).trans HOc.out (fun i hi e => by omega)
      have hOp : Only (fun k => k = b7 ∨ k = b8) wr (((((((((((Wb.setCell ⟨b8, 0, none⟩ (.int .i64 m)).setCell ⟨b8, 1, none⟩ (.int .i64 V.next)).setCell ⟨b8, 2, none⟩ (.slice q.aA V.act.length q.cA)).setCell ⟨b8, 3, none⟩ (.int .i64 V.own)).setCell ⟨b8, 4, none⟩ (.slice q.aR V.run.length q.cR)).setCell ⟨b8, 5, none⟩ (.int .i64 p.lsn)).setCell ⟨b8, 6, none⟩ (.int .i64 p.kind)).setCell ⟨b8, 7, none⟩ (.int .i64 p.level)).setCell ⟨b8, 8, none⟩ (.int .i64 p.right)).setCell ⟨b8, 9, none⟩ (.string p.high)).setCell ⟨b8, 10, none⟩ (.slice ao p.items.length cp)) := (HOab.out.mono (fun _ _ h => .inl h)).trans HOc.out (fun _ _ h => .inr h)
      refine ⟨B, ao, cp, ?_, ?_, hOf⟩
      · rw [← HSA_.out]; rfl
      · rw [← HSA_.out]
        exact ⟨HN.out.act.more hOf, HN.out.run.more hOf, HSTR.out.1.kept hOp (fun _ e => by omega), HSTR.out.2, HIM.out, HN.out.next, HN.out.own⟩
end Go.Proofs.YtpnbhddmdfcjdaaGreat
