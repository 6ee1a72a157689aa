/- Walk of SnapOne. -/
import Derived.Test.YtolfmodgkkjnbaaGreatSLawH
namespace Go.Proofs.YtolfmodgkkjnbaaGreat
open Go.RowKit

theorem one_vis {V : Vw} {T : Tp} (h : T.xmax ≠ 0) : vvis V T = ((T.fz || vsees V T.xmin) && !vsees V T.xmax) := by
  have g : (T.xmax != 0) = true := by simp [h]
  unfold vvis vbeg vend
  rw [g, Bool.true_and]
theorem open_vis {V : Vw} {x : Int} {k : ByteArray} : vvis V ⟨x, 0, false, k, ⟨#[]⟩⟩ = vsees V x := by
  unfold vvis vbeg vend
  simp
set_option maxRecDepth 100000 in
set_option maxHeartbeats 3200000 in
theorem one_law (w : World) (m fr : Int) (BO : Nat) (aO : Option Addr) (n cap : Nat) (X : Nat → Int) (S : Nat → Nat) (V : Vw) (q : Lo) (T : Tp) (hm : I64 m) (hfr : I64 fr) (hS : Sds w BO aO n X S) (h : Sn w V q) (ht : I64 T.xmin ∧ I64 T.xmax) :
    Calls Tryz.prog 5 #[.agg #[.int .i64 m, .int .i64 fr, .slice aO n cap], .agg #[.int .i64 V.m, .int .i64 V.next, .slice q.aA V.act.length q.cA, .int .i64 V.own, .slice q.aR V.run.length q.cR, .int .i64 V.pg.lsn, .int .i64 V.pg.kind, .int .i64 V.pg.level, .int .i64 V.pg.right, .string V.pg.high, .slice q.aP V.pg.items.length q.cP], .agg #[.int .i64 T.xmin, .int .i64 T.xmax, .bool T.fz, .string T.key, .string T.val]] w fun e w' => e = .returned (.bool true) ∧ Only (fun _ => False) w w' := by
  have HT1 := hide ht
  clear ht
  have HPB := hide (PB.new w (.int .i64 m) (.int .i64 fr) (.slice aO n cap))
  have HRB := hide (VB.new (w.alloc (.cells #[.int .i64 m, .int .i64 fr, .slice aO n cap] 24)) (.int .i64 V.m) (.int .i64 V.next) (.slice q.aA V.act.length q.cA) (.int .i64 V.own) (.slice q.aR V.run.length q.cR) (.int .i64 V.pg.lsn) (.int .i64 V.pg.kind) (.int .i64 V.pg.level) (.int .i64 V.pg.right) (.string V.pg.high) (.slice q.aP V.pg.items.length q.cP))
  have HPB := hide (HPB.out.more (onlyA _ (.cells #[.int .i64 V.m, .int .i64 V.next, .slice q.aA V.act.length q.cA, .int .i64 V.own, .slice q.aR V.run.length q.cR, .int .i64 V.pg.lsn, .int .i64 V.pg.kind, .int .i64 V.pg.level, .int .i64 V.pg.right, .string V.pg.high, .slice q.aP V.pg.items.length q.cP] 32)))
  have HTB := hide (TB.new ((w.alloc (.cells #[.int .i64 m, .int .i64 fr, .slice aO n cap] 24)).alloc (.cells #[.int .i64 V.m, .int .i64 V.next, .slice q.aA V.act.length q.cA, .int .i64 V.own, .slice q.aR V.run.length q.cR, .int .i64 V.pg.lsn, .int .i64 V.pg.kind, .int .i64 V.pg.level, .int .i64 V.pg.right, .string V.pg.high, .slice q.aP V.pg.items.length q.cP] 32)) (.int .i64 T.xmin) (.int .i64 T.xmax) (.bool T.fz) (.string T.key) (.string T.val))
  have HPB := hide (HPB.out.more (onlyA _ (.cells #[.int .i64 T.xmin, .int .i64 T.xmax, .bool T.fz, .string T.key, .string T.val] 34)))
  have HRB := hide (HRB.out.more (onlyA _ (.cells #[.int .i64 T.xmin, .int .i64 T.xmax, .bool T.fz, .string T.key, .string T.val] 34)))
  have HO := hide (o2 (o2 (onlyA w (.cells #[.int .i64 m, .int .i64 fr, .slice aO n cap] 24)) (onlyA _ (.cells #[.int .i64 V.m, .int .i64 V.next, .slice q.aA V.act.length q.cA, .int .i64 V.own, .slice q.aR V.run.length q.cR, .int .i64 V.pg.lsn, .int .i64 V.pg.kind, .int .i64 V.pg.level, .int .i64 V.pg.right, .string V.pg.high, .slice q.aP V.pg.items.length q.cP] 32))) (onlyA _ (.cells #[.int .i64 T.xmin, .int .i64 T.xmax, .bool T.fz, .string T.key, .string T.val] 34)))
  simp only [World.size_alloc] at HPB HRB HTB
  have HSD := hide hS
  have HN0 := hide h
  have HM := hide (fun W hs hn => made_any W m fr BO aO n cap X S V q hm hfr hs hn)
  clear hS h hm hfr
  go_enter Tryz.func5, Tryz.ntmps5
  go_upto_region 1 with fail
  obtain ⟨W0, hW0⟩ : ∃ W, ((w.alloc (.cells #[.int .i64 m, .int .i64 fr, .slice aO n cap] 24)).alloc (.cells #[.int .i64 V.m, .int .i64 V.next, .slice q.aA V.act.length q.cA, .int .i64 V.own, .slice q.aR V.run.length q.cR, .int .i64 V.pg.lsn, .int .i64 V.pg.kind, .int .i64 V.pg.level, .int .i64 V.pg.right, .string V.pg.high, .slice q.aP V.pg.items.length q.cP] 32)).alloc (.cells #[.int .i64 T.xmin, .int .i64 T.xmax, .bool T.fz, .string T.key, .string T.val] 34) = W := ⟨_, rfl⟩
  have HLT0 : Hid (w.heap.size + 1 + 1 < W0.heap.size) := by unfold Hid; rw [← hW0]; simp
  rw [hW0] at HPB HRB HTB HO ⊢
  clear hW0
  obtain ⟨pbc0, pbc1, pbc2, pbf0, pbf1, pbf2, pbl⟩ := HPB.out
  clear pbf0 pbf1 pbf2
  obtain ⟨rbc0, rbc1, rbc2, rbc3, rbc4, rbc5, rbc6, rbc7, rbc8, rbc9, rbc10, rbf0, rbf1, rbf2, rbf3, rbf4, rbf5, rbf6, rbf7, rbf8, rbf9, rbf10, rbl⟩ := HRB.out
  clear rbf0 rbf1 rbf2 rbf3 rbf4 rbf5 rbf6 rbf7 rbf8 rbf9 rbf10
  obtain ⟨tbc0, tbc1, tbc2, tbc3, tbc4, tbf0, tbf1, tbf2, tbf3, tbf4, tbl⟩ := HTB.out
  clear tbf0 tbf1 tbf2 tbf3 tbf4
  go_wp2_with fail
  refine (HM.out _ (HSD.out.more HO.out) (HN0.out.more HO.out)).mono ?_
  rintro e w1 ⟨V1, q1, ok, hq⟩
  obtain ⟨rfl, hsn, ho⟩ := hq
  clear pbc0 pbc1 pbc2 pbl
  clear rbc0 rbc1 rbc2 rbc3 rbc4 rbc5 rbc6 rbc7 rbc8 rbc9 rbc10 rbl
  clear tbc0 tbc1 tbc2 tbc3 tbc4 tbl
  have HPB := hide (HPB.out.more ho)
  have HRB := hide (HRB.out.more ho)
  have HTB := hide (HTB.out.more ho)
  have HO := hide (o2 HO.out ho)
  have HN := hide hsn
  have HB := hide (VB.new w1 (.int .i64 V1.m) (.int .i64 V1.next) (.slice q1.aA V1.act.length q1.cA) (.int .i64 V1.own) (.slice q1.aR V1.run.length q1.cR) (.int .i64 V1.pg.lsn) (.int .i64 V1.pg.kind) (.int .i64 V1.pg.level) (.int .i64 V1.pg.right) (.string V1.pg.high) (.slice q1.aP V1.pg.items.length q1.cP))
  have hoA := onlyA w1 (.cells #[.int .i64 V1.m, .int .i64 V1.next, .slice q1.aA V1.act.length q1.cA, .int .i64 V1.own, .slice q1.aR V1.run.length q1.cR, .int .i64 V1.pg.lsn, .int .i64 V1.pg.kind, .int .i64 V1.pg.level, .int .i64 V1.pg.right, .string V1.pg.high, .slice q1.aP V1.pg.items.length q1.cP] 32)
  have HPB := hide (HPB.out.more hoA)
  have HRB := hide (HRB.out.more hoA)
  have HTB := hide (HTB.out.more hoA)
  have HO := hide (o2 HO.out hoA)
  have HN := hide (HN.out.more hoA)
  have HTL : Hid (w.heap.size + 1 + 1 < w1.heap.size) := Nat.lt_of_lt_of_le HLT0.out ho.size
  clear ho hoA hsn HM HSD HN0
  go_upto_region 2 with fail
  obtain ⟨W1, hW1⟩ : ∃ W, w1.alloc (.cells #[.int .i64 V1.m, .int .i64 V1.next, .slice q1.aA V1.act.length q1.cA, .int .i64 V1.own, .slice q1.aR V1.run.length q1.cR, .int .i64 V1.pg.lsn, .int .i64 V1.pg.kind, .int .i64 V1.pg.level, .int .i64 V1.pg.right, .string V1.pg.high, .slice q1.aP V1.pg.items.length q1.cP] 32) = W := ⟨_, rfl⟩
  obtain ⟨bv, hbv⟩ : ∃ b, w1.heap.size = b := ⟨_, rfl⟩
  rw [hW1] at HPB HRB HTB HB HO HN ⊢
  rw [hbv] at HB ⊢
  have HBV : Hid (w.heap.size + 3 ≤ bv) := by unfold Hid; rw [← hbv]; have := HTL.out; omega
  clear hW1 hbv
  clear HPB HRB
  by_cases h0 : T.xmax = 0
  · have g1 : (T.xmax == 0) = true := by simp [h0]
    clear h0
    obtain ⟨tbc0, tbc1, tbc2, tbc3, tbc4, tbf0, tbf1, tbf2, tbf3, tbf4, tbl⟩ := HTB.out
    clear tbf0 tbf1 tbf2 tbf3 tbf4
    obtain ⟨vbc0, vbc1, vbc2, vbc3, vbc4, vbc5, vbc6, vbc7, vbc8, vbc9, vbc10, vbf0, vbf1, vbf2, vbf3, vbf4, vbf5, vbf6, vbf7, vbf8, vbf9, vbf10, vbl⟩ := HB.out
    clear vbf0 vbf1 vbf2 vbf3 vbf4 vbf5 vbf6 vbf7 vbf8 vbf9 vbf10
    go_wp2_with fail
    refine (sawake_any _).mono ?_
    rintro e w2 ⟨rfl, ho⟩
    clear tbc0 tbc1 tbc2 tbc3 tbc4 tbl
    clear vbc0 vbc1 vbc2 vbc3 vbc4 vbc5 vbc6 vbc7 vbc8 vbc9 vbc10 vbl
    have HO := hide (o2 HO.out ho)
    clear ho
    go_wp2_with fail
    go_ret
    exact ⟨rfl, HO.out⟩
  · have g1 : (T.xmax == 0) = false := by simp [h0]
    have C0 := hide (fun W (h : Sn W V1 q1) => visible_any W V1 q1 T h HT1.out)
    have C1 := hide (fun W (h : Sn W V1 q1) => visible_any W V1 q1 ⟨T.xmax, 0, false, T.key, ⟨#[]⟩⟩ h ⟨HT1.out.2, i64 (n := 0) (by omega) (by omega)⟩)
    have C2 := hide (fun W (h : Sn W V1 q1) => sees_any W V1 q1 T.xmin h HT1.out.1)
    simp only [one_vis h0, open_vis] at C0 C1
    obtain ⟨s, hs⟩ : ∃ b, vsees V1 T.xmin = b := ⟨_, rfl⟩
    obtain ⟨c, hc⟩ : ∃ b, vsees V1 T.xmax = b := ⟨_, rfl⟩
    obtain ⟨fz, hfz⟩ : ∃ b, T.fz = b := ⟨_, rfl⟩
    simp only [hs, hc, hfz] at C0 C1 C2 HTB
    clear hs hc hfz h0
    obtain ⟨tbc0, tbc1, tbc2, tbc3, tbc4, tbf0, tbf1, tbf2, tbf3, tbf4, tbl⟩ := HTB.out
    clear tbf0 tbf1 tbf2 tbf3 tbf4
    obtain ⟨vbc0, vbc1, vbc2, vbc3, vbc4, vbc5, vbc6, vbc7, vbc8, vbc9, vbc10, vbf0, vbf1, vbf2, vbf3, vbf4, vbf5, vbf6, vbf7, vbf8, vbf9, vbf10, vbl⟩ := HB.out
    clear vbf0 vbf1 vbf2 vbf3 vbf4 vbf5 vbf6 vbf7 vbf8 vbf9 vbf10
    go_upto_region 5 with fail
    clear tbc0 tbc1 tbc2 tbc3 tbc4 tbl
    clear vbc0 vbc1 vbc2 vbc3 vbc4 vbc5 vbc6 vbc7 vbc8 vbc9 vbc10 vbl
    have HNB := hide (TB.new W1 (.int .i64 T.xmax) (.int .i64 0) (.bool false) (.string T.key) (.string ⟨#[]⟩))
    have hoA := onlyA W1 (.cells #[.int .i64 T.xmax, .int .i64 0, .bool false, .string T.key, .string ⟨#[]⟩] 34)
    have HTB := hide (HTB.out.more hoA)
    have HB := hide (HB.out.more hoA)
    have HO := hide (o2 HO.out hoA)
    have HN := hide (HN.out.more hoA)
    obtain ⟨W2, hW2⟩ : ∃ W, W1.alloc (.cells #[.int .i64 T.xmax, .int .i64 0, .bool false, .string T.key, .string ⟨#[]⟩] 34) = W := ⟨_, rfl⟩
    obtain ⟨bn, hbn⟩ : ∃ b, W1.heap.size = b := ⟨_, rfl⟩
    rw [hW2] at HNB HTB HB HO HN ⊢
    rw [hbn] at HNB ⊢
    clear hW2 hbn hoA
    cases fz <;> cases s <;> cases c
    · obtain ⟨tbc0, tbc1, tbc2, tbc3, tbc4, tbf0, tbf1, tbf2, tbf3, tbf4, tbl⟩ := HTB.out
      clear tbf0 tbf1 tbf2 tbf3 tbf4
      obtain ⟨vbc0, vbc1, vbc2, vbc3, vbc4, vbc5, vbc6, vbc7, vbc8, vbc9, vbc10, vbf0, vbf1, vbf2, vbf3, vbf4, vbf5, vbf6, vbf7, vbf8, vbf9, vbf10, vbl⟩ := HB.out
      clear vbf0 vbf1 vbf2 vbf3 vbf4 vbf5 vbf6 vbf7 vbf8 vbf9 vbf10
      obtain ⟨nbc0, nbc1, nbc2, nbc3, nbc4, nbf0, nbf1, nbf2, nbf3, nbf4, nbl⟩ := HNB.out
      clear nbf0 nbf1 nbf2 nbf3 nbf4
      go_wp2_with fail
      refine (C0.out _ HN.out).mono ?_
      rintro e w2 ⟨rfl, ho⟩
      clear tbc0 tbc1 tbc2 tbc3 tbc4 tbl
      clear vbc0 vbc1 vbc2 vbc3 vbc4 vbc5 vbc6 vbc7 vbc8 vbc9 vbc10 vbl
      clear nbc0 nbc1 nbc2 nbc3 nbc4 nbl
      have HTB := hide (HTB.out.more ho)
      have HB := hide (HB.out.more ho)
      have HNB := hide (HNB.out.more ho)
      have HN := hide (HN.out.more ho)
      have HO := hide (o2 HO.out ho)
      clear ho
      obtain ⟨tbc0, tbc1, tbc2, tbc3, tbc4, tbf0, tbf1, tbf2, tbf3, tbf4, tbl⟩ := HTB.out
      clear tbf0 tbf1 tbf2 tbf3 tbf4
      obtain ⟨vbc0, vbc1, vbc2, vbc3, vbc4, vbc5, vbc6, vbc7, vbc8, vbc9, vbc10, vbf0, vbf1, vbf2, vbf3, vbf4, vbf5, vbf6, vbf7, vbf8, vbf9, vbf10, vbl⟩ := HB.out
      clear vbf0 vbf1 vbf2 vbf3 vbf4 vbf5 vbf6 vbf7 vbf8 vbf9 vbf10
      obtain ⟨nbc0, nbc1, nbc2, nbc3, nbc4, nbf0, nbf1, nbf2, nbf3, nbf4, nbl⟩ := HNB.out
      clear nbf0 nbf1 nbf2 nbf3 nbf4
      go_wp2_with fail
      refine (C1.out _ HN.out).mono ?_
      rintro e w3 ⟨rfl, ho⟩
      clear tbc0 tbc1 tbc2 tbc3 tbc4 tbl
      clear vbc0 vbc1 vbc2 vbc3 vbc4 vbc5 vbc6 vbc7 vbc8 vbc9 vbc10 vbl
      clear nbc0 nbc1 nbc2 nbc3 nbc4 nbl
      have HTB := hide (HTB.out.more ho)
      have HB := hide (HB.out.more ho)
      have HNB := hide (HNB.out.more ho)
      have HN := hide (HN.out.more ho)
      have HO := hide (o2 HO.out ho)
      clear ho
      obtain ⟨tbc0, tbc1, tbc2, tbc3, tbc4, tbf0, tbf1, tbf2, tbf3, tbf4, tbl⟩ := HTB.out
      clear tbf0 tbf1 tbf2 tbf3 tbf4
      obtain ⟨vbc0, vbc1, vbc2, vbc3, vbc4, vbc5, vbc6, vbc7, vbc8, vbc9, vbc10, vbf0, vbf1, vbf2, vbf3, vbf4, vbf5, vbf6, vbf7, vbf8, vbf9, vbf10, vbl⟩ := HB.out
      clear vbf0 vbf1 vbf2 vbf3 vbf4 vbf5 vbf6 vbf7 vbf8 vbf9 vbf10
      obtain ⟨nbc0, nbc1, nbc2, nbc3, nbc4, nbf0, nbf1, nbf2, nbf3, nbf4, nbl⟩ := HNB.out
      clear nbf0 nbf1 nbf2 nbf3 nbf4
      go_wp2_with fail
      refine (C2.out _ HN.out).mono ?_
      rintro e w4 ⟨rfl, ho⟩
      clear tbc0 tbc1 tbc2 tbc3 tbc4 tbl
      clear vbc0 vbc1 vbc2 vbc3 vbc4 vbc5 vbc6 vbc7 vbc8 vbc9 vbc10 vbl
      clear nbc0 nbc1 nbc2 nbc3 nbc4 nbl
      have HTB := hide (HTB.out.more ho)
      have HB := hide (HB.out.more ho)
      have HNB := hide (HNB.out.more ho)
      have HN := hide (HN.out.more ho)
      have HO := hide (o2 HO.out ho)
      clear ho
      obtain ⟨tbc0, tbc1, tbc2, tbc3, tbc4, tbf0, tbf1, tbf2, tbf3, tbf4, tbl⟩ := HTB.out
      clear tbf0 tbf1 tbf2 tbf3 tbf4
      obtain ⟨vbc0, vbc1, vbc2, vbc3, vbc4, vbc5, vbc6, vbc7, vbc8, vbc9, vbc10, vbf0, vbf1, vbf2, vbf3, vbf4, vbf5, vbf6, vbf7, vbf8, vbf9, vbf10, vbl⟩ := HB.out
      clear vbf0 vbf1 vbf2 vbf3 vbf4 vbf5 vbf6 vbf7 vbf8 vbf9 vbf10
      obtain ⟨nbc0, nbc1, nbc2, nbc3, nbc4, nbf0, nbf1, nbf2, nbf3, nbf4, nbl⟩ := HNB.out
      clear nbf0 nbf1 nbf2 nbf3 nbf4
      go_wp2_with fail
      refine (sawake_any _).mono ?_
      rintro e w5 ⟨rfl, ho⟩
      clear tbc0 tbc1 tbc2 tbc3 tbc4 tbl
      clear vbc0 vbc1 vbc2 vbc3 vbc4 vbc5 vbc6 vbc7 vbc8 vbc9 vbc10 vbl
      clear nbc0 nbc1 nbc2 nbc3 nbc4 nbl
      have HO := hide (o2 HO.out ho)
      clear ho
      go_wp2_with fail
      go_ret
      exact ⟨rfl, HO.out⟩
    · obtain ⟨tbc0, tbc1, tbc2, tbc3, tbc4, tbf0, tbf1, tbf2, tbf3, tbf4, tbl⟩ := HTB.out
      clear tbf0 tbf1 tbf2 tbf3 tbf4
      obtain ⟨vbc0, vbc1, vbc2, vbc3, vbc4, vbc5, vbc6, vbc7, vbc8, vbc9, vbc10, vbf0, vbf1, vbf2, vbf3, vbf4, vbf5, vbf6, vbf7, vbf8, vbf9, vbf10, vbl⟩ := HB.out
      clear vbf0 vbf1 vbf2 vbf3 vbf4 vbf5 vbf6 vbf7 vbf8 vbf9 vbf10
      obtain ⟨nbc0, nbc1, nbc2, nbc3, nbc4, nbf0, nbf1, nbf2, nbf3, nbf4, nbl⟩ := HNB.out
      clear nbf0 nbf1 nbf2 nbf3 nbf4
      go_wp2_with fail
      refine (C0.out _ HN.out).mono ?_
      rintro e w2 ⟨rfl, ho⟩
      clear tbc0 tbc1 tbc2 tbc3 tbc4 tbl
      clear vbc0 vbc1 vbc2 vbc3 vbc4 vbc5 vbc6 vbc7 vbc8 vbc9 vbc10 vbl
      clear nbc0 nbc1 nbc2 nbc3 nbc4 nbl
      have HTB := hide (HTB.out.more ho)
      have HB := hide (HB.out.more ho)
      have HNB := hide (HNB.out.more ho)
      have HN := hide (HN.out.more ho)
      have HO := hide (o2 HO.out ho)
      clear ho
      obtain ⟨tbc0, tbc1, tbc2, tbc3, tbc4, tbf0, tbf1, tbf2, tbf3, tbf4, tbl⟩ := HTB.out
      clear tbf0 tbf1 tbf2 tbf3 tbf4
      obtain ⟨vbc0, vbc1, vbc2, vbc3, vbc4, vbc5, vbc6, vbc7, vbc8, vbc9, vbc10, vbf0, vbf1, vbf2, vbf3, vbf4, vbf5, vbf6, vbf7, vbf8, vbf9, vbf10, vbl⟩ := HB.out
      clear vbf0 vbf1 vbf2 vbf3 vbf4 vbf5 vbf6 vbf7 vbf8 vbf9 vbf10
      obtain ⟨nbc0, nbc1, nbc2, nbc3, nbc4, nbf0, nbf1, nbf2, nbf3, nbf4, nbl⟩ := HNB.out
      clear nbf0 nbf1 nbf2 nbf3 nbf4
      go_wp2_with fail
      refine (C1.out _ HN.out).mono ?_
      rintro e w3 ⟨rfl, ho⟩
      clear tbc0 tbc1 tbc2 tbc3 tbc4 tbl
      clear vbc0 vbc1 vbc2 vbc3 vbc4 vbc5 vbc6 vbc7 vbc8 vbc9 vbc10 vbl
      clear nbc0 nbc1 nbc2 nbc3 nbc4 nbl
      have HTB := hide (HTB.out.more ho)
      have HB := hide (HB.out.more ho)
      have HNB := hide (HNB.out.more ho)
      have HN := hide (HN.out.more ho)
      have HO := hide (o2 HO.out ho)
      clear ho
      obtain ⟨tbc0, tbc1, tbc2, tbc3, tbc4, tbf0, tbf1, tbf2, tbf3, tbf4, tbl⟩ := HTB.out
      clear tbf0 tbf1 tbf2 tbf3 tbf4
      obtain ⟨vbc0, vbc1, vbc2, vbc3, vbc4, vbc5, vbc6, vbc7, vbc8, vbc9, vbc10, vbf0, vbf1, vbf2, vbf3, vbf4, vbf5, vbf6, vbf7, vbf8, vbf9, vbf10, vbl⟩ := HB.out
      clear vbf0 vbf1 vbf2 vbf3 vbf4 vbf5 vbf6 vbf7 vbf8 vbf9 vbf10
      obtain ⟨nbc0, nbc1, nbc2, nbc3, nbc4, nbf0, nbf1, nbf2, nbf3, nbf4, nbl⟩ := HNB.out
      clear nbf0 nbf1 nbf2 nbf3 nbf4
      go_wp2_with fail
      refine (C2.out _ HN.out).mono ?_
      rintro e w4 ⟨rfl, ho⟩
      clear tbc0 tbc1 tbc2 tbc3 tbc4 tbl
      clear vbc0 vbc1 vbc2 vbc3 vbc4 vbc5 vbc6 vbc7 vbc8 vbc9 vbc10 vbl
      clear nbc0 nbc1 nbc2 nbc3 nbc4 nbl
      have HTB := hide (HTB.out.more ho)
      have HB := hide (HB.out.more ho)
      have HNB := hide (HNB.out.more ho)
      have HN := hide (HN.out.more ho)
      have HO := hide (o2 HO.out ho)
      clear ho
      obtain ⟨tbc0, tbc1, tbc2, tbc3, tbc4, tbf0, tbf1, tbf2, tbf3, tbf4, tbl⟩ := HTB.out
      clear tbf0 tbf1 tbf2 tbf3 tbf4
      obtain ⟨vbc0, vbc1, vbc2, vbc3, vbc4, vbc5, vbc6, vbc7, vbc8, vbc9, vbc10, vbf0, vbf1, vbf2, vbf3, vbf4, vbf5, vbf6, vbf7, vbf8, vbf9, vbf10, vbl⟩ := HB.out
      clear vbf0 vbf1 vbf2 vbf3 vbf4 vbf5 vbf6 vbf7 vbf8 vbf9 vbf10
      obtain ⟨nbc0, nbc1, nbc2, nbc3, nbc4, nbf0, nbf1, nbf2, nbf3, nbf4, nbl⟩ := HNB.out
      clear nbf0 nbf1 nbf2 nbf3 nbf4
      go_wp2_with fail
      refine (sawake_any _).mono ?_
      rintro e w5 ⟨rfl, ho⟩
      clear tbc0 tbc1 tbc2 tbc3 tbc4 tbl
      clear vbc0 vbc1 vbc2 vbc3 vbc4 vbc5 vbc6 vbc7 vbc8 vbc9 vbc10 vbl
      clear nbc0 nbc1 nbc2 nbc3 nbc4 nbl
      have HO := hide (o2 HO.out ho)
      clear ho
      go_wp2_with fail
      go_ret
      exact ⟨rfl, HO.out⟩
    · obtain ⟨tbc0, tbc1, tbc2, tbc3, tbc4, tbf0, tbf1, tbf2, tbf3, tbf4, tbl⟩ := HTB.out
      clear tbf0 tbf1 tbf2 tbf3 tbf4
      obtain ⟨vbc0, vbc1, vbc2, vbc3, vbc4, vbc5, vbc6, vbc7, vbc8, vbc9, vbc10, vbf0, vbf1, vbf2, vbf3, vbf4, vbf5, vbf6, vbf7, vbf8, vbf9, vbf10, vbl⟩ := HB.out
      clear vbf0 vbf1 vbf2 vbf3 vbf4 vbf5 vbf6 vbf7 vbf8 vbf9 vbf10
      obtain ⟨nbc0, nbc1, nbc2, nbc3, nbc4, nbf0, nbf1, nbf2, nbf3, nbf4, nbl⟩ := HNB.out
      clear nbf0 nbf1 nbf2 nbf3 nbf4
      go_wp2_with fail
      refine (C0.out _ HN.out).mono ?_
      rintro e w2 ⟨rfl, ho⟩
      clear tbc0 tbc1 tbc2 tbc3 tbc4 tbl
      clear vbc0 vbc1 vbc2 vbc3 vbc4 vbc5 vbc6 vbc7 vbc8 vbc9 vbc10 vbl
      clear nbc0 nbc1 nbc2 nbc3 nbc4 nbl
      have HTB := hide (HTB.out.more ho)
      have HB := hide (HB.out.more ho)
      have HNB := hide (HNB.out.more ho)
      have HN := hide (HN.out.more ho)
      have HO := hide (o2 HO.out ho)
      clear ho
      obtain ⟨tbc0, tbc1, tbc2, tbc3, tbc4, tbf0, tbf1, tbf2, tbf3, tbf4, tbl⟩ := HTB.out
      clear tbf0 tbf1 tbf2 tbf3 tbf4
      obtain ⟨vbc0, vbc1, vbc2, vbc3, vbc4, vbc5, vbc6, vbc7, vbc8, vbc9, vbc10, vbf0, vbf1, vbf2, vbf3, vbf4, vbf5, vbf6, vbf7, vbf8, vbf9, vbf10, vbl⟩ := HB.out
      clear vbf0 vbf1 vbf2 vbf3 vbf4 vbf5 vbf6 vbf7 vbf8 vbf9 vbf10
      obtain ⟨nbc0, nbc1, nbc2, nbc3, nbc4, nbf0, nbf1, nbf2, nbf3, nbf4, nbl⟩ := HNB.out
      clear nbf0 nbf1 nbf2 nbf3 nbf4
      go_wp2_with fail
      refine (C1.out _ HN.out).mono ?_
      rintro e w3 ⟨rfl, ho⟩
      clear tbc0 tbc1 tbc2 tbc3 tbc4 tbl
      clear vbc0 vbc1 vbc2 vbc3 vbc4 vbc5 vbc6 vbc7 vbc8 vbc9 vbc10 vbl
      clear nbc0 nbc1 nbc2 nbc3 nbc4 nbl
      have HTB := hide (HTB.out.more ho)
      have HB := hide (HB.out.more ho)
      have HNB := hide (HNB.out.more ho)
      have HN := hide (HN.out.more ho)
      have HO := hide (o2 HO.out ho)
      clear ho
      obtain ⟨tbc0, tbc1, tbc2, tbc3, tbc4, tbf0, tbf1, tbf2, tbf3, tbf4, tbl⟩ := HTB.out
      clear tbf0 tbf1 tbf2 tbf3 tbf4
      obtain ⟨vbc0, vbc1, vbc2, vbc3, vbc4, vbc5, vbc6, vbc7, vbc8, vbc9, vbc10, vbf0, vbf1, vbf2, vbf3, vbf4, vbf5, vbf6, vbf7, vbf8, vbf9, vbf10, vbl⟩ := HB.out
      clear vbf0 vbf1 vbf2 vbf3 vbf4 vbf5 vbf6 vbf7 vbf8 vbf9 vbf10
      obtain ⟨nbc0, nbc1, nbc2, nbc3, nbc4, nbf0, nbf1, nbf2, nbf3, nbf4, nbl⟩ := HNB.out
      clear nbf0 nbf1 nbf2 nbf3 nbf4
      go_wp2_with fail
      refine (C2.out _ HN.out).mono ?_
      rintro e w4 ⟨rfl, ho⟩
      clear tbc0 tbc1 tbc2 tbc3 tbc4 tbl
      clear vbc0 vbc1 vbc2 vbc3 vbc4 vbc5 vbc6 vbc7 vbc8 vbc9 vbc10 vbl
      clear nbc0 nbc1 nbc2 nbc3 nbc4 nbl
      have HTB := hide (HTB.out.more ho)
      have HB := hide (HB.out.more ho)
      have HNB := hide (HNB.out.more ho)
      have HN := hide (HN.out.more ho)
      have HO := hide (o2 HO.out ho)
      clear ho
      obtain ⟨tbc0, tbc1, tbc2, tbc3, tbc4, tbf0, tbf1, tbf2, tbf3, tbf4, tbl⟩ := HTB.out
      clear tbf0 tbf1 tbf2 tbf3 tbf4
      obtain ⟨vbc0, vbc1, vbc2, vbc3, vbc4, vbc5, vbc6, vbc7, vbc8, vbc9, vbc10, vbf0, vbf1, vbf2, vbf3, vbf4, vbf5, vbf6, vbf7, vbf8, vbf9, vbf10, vbl⟩ := HB.out
      clear vbf0 vbf1 vbf2 vbf3 vbf4 vbf5 vbf6 vbf7 vbf8 vbf9 vbf10
      obtain ⟨nbc0, nbc1, nbc2, nbc3, nbc4, nbf0, nbf1, nbf2, nbf3, nbf4, nbl⟩ := HNB.out
      clear nbf0 nbf1 nbf2 nbf3 nbf4
      go_wp2_with fail
      refine (sawake_any _).mono ?_
      rintro e w5 ⟨rfl, ho⟩
      clear tbc0 tbc1 tbc2 tbc3 tbc4 tbl
      clear vbc0 vbc1 vbc2 vbc3 vbc4 vbc5 vbc6 vbc7 vbc8 vbc9 vbc10 vbl
      clear nbc0 nbc1 nbc2 nbc3 nbc4 nbl
      have HO := hide (o2 HO.out ho)
      clear ho
      go_wp2_with fail
      go_ret
      exact ⟨rfl, HO.out⟩
    · obtain ⟨tbc0, tbc1, tbc2, tbc3, tbc4, tbf0, tbf1, tbf2, tbf3, tbf4, tbl⟩ := HTB.out
      clear tbf0 tbf1 tbf2 tbf3 tbf4
      obtain ⟨vbc0, vbc1, vbc2, vbc3, vbc4, vbc5, vbc6, vbc7, vbc8, vbc9, vbc10, vbf0, vbf1, vbf2, vbf3, vbf4, vbf5, vbf6, vbf7, vbf8, vbf9, vbf10, vbl⟩ := HB.out
      clear vbf0 vbf1 vbf2 vbf3 vbf4 vbf5 vbf6 vbf7 vbf8 vbf9 vbf10
      obtain ⟨nbc0, nbc1, nbc2, nbc3, nbc4, nbf0, nbf1, nbf2, nbf3, nbf4, nbl⟩ := HNB.out
      clear nbf0 nbf1 nbf2 nbf3 nbf4
      go_wp2_with fail
      refine (C0.out _ HN.out).mono ?_
      rintro e w2 ⟨rfl, ho⟩
      clear tbc0 tbc1 tbc2 tbc3 tbc4 tbl
      clear vbc0 vbc1 vbc2 vbc3 vbc4 vbc5 vbc6 vbc7 vbc8 vbc9 vbc10 vbl
      clear nbc0 nbc1 nbc2 nbc3 nbc4 nbl
      have HTB := hide (HTB.out.more ho)
      have HB := hide (HB.out.more ho)
      have HNB := hide (HNB.out.more ho)
      have HN := hide (HN.out.more ho)
      have HO := hide (o2 HO.out ho)
      clear ho
      obtain ⟨tbc0, tbc1, tbc2, tbc3, tbc4, tbf0, tbf1, tbf2, tbf3, tbf4, tbl⟩ := HTB.out
      clear tbf0 tbf1 tbf2 tbf3 tbf4
      obtain ⟨vbc0, vbc1, vbc2, vbc3, vbc4, vbc5, vbc6, vbc7, vbc8, vbc9, vbc10, vbf0, vbf1, vbf2, vbf3, vbf4, vbf5, vbf6, vbf7, vbf8, vbf9, vbf10, vbl⟩ := HB.out
      clear vbf0 vbf1 vbf2 vbf3 vbf4 vbf5 vbf6 vbf7 vbf8 vbf9 vbf10
      obtain ⟨nbc0, nbc1, nbc2, nbc3, nbc4, nbf0, nbf1, nbf2, nbf3, nbf4, nbl⟩ := HNB.out
      clear nbf0 nbf1 nbf2 nbf3 nbf4
      go_wp2_with fail
      refine (C1.out _ HN.out).mono ?_
      rintro e w3 ⟨rfl, ho⟩
      clear tbc0 tbc1 tbc2 tbc3 tbc4 tbl
      clear vbc0 vbc1 vbc2 vbc3 vbc4 vbc5 vbc6 vbc7 vbc8 vbc9 vbc10 vbl
      clear nbc0 nbc1 nbc2 nbc3 nbc4 nbl
      have HTB := hide (HTB.out.more ho)
      have HB := hide (HB.out.more ho)
      have HNB := hide (HNB.out.more ho)
      have HN := hide (HN.out.more ho)
      have HO := hide (o2 HO.out ho)
      clear ho
      obtain ⟨tbc0, tbc1, tbc2, tbc3, tbc4, tbf0, tbf1, tbf2, tbf3, tbf4, tbl⟩ := HTB.out
      clear tbf0 tbf1 tbf2 tbf3 tbf4
      obtain ⟨vbc0, vbc1, vbc2, vbc3, vbc4, vbc5, vbc6, vbc7, vbc8, vbc9, vbc10, vbf0, vbf1, vbf2, vbf3, vbf4, vbf5, vbf6, vbf7, vbf8, vbf9, vbf10, vbl⟩ := HB.out
      clear vbf0 vbf1 vbf2 vbf3 vbf4 vbf5 vbf6 vbf7 vbf8 vbf9 vbf10
      obtain ⟨nbc0, nbc1, nbc2, nbc3, nbc4, nbf0, nbf1, nbf2, nbf3, nbf4, nbl⟩ := HNB.out
      clear nbf0 nbf1 nbf2 nbf3 nbf4
      go_wp2_with fail
      refine (C2.out _ HN.out).mono ?_
      rintro e w4 ⟨rfl, ho⟩
      clear tbc0 tbc1 tbc2 tbc3 tbc4 tbl
      clear vbc0 vbc1 vbc2 vbc3 vbc4 vbc5 vbc6 vbc7 vbc8 vbc9 vbc10 vbl
      clear nbc0 nbc1 nbc2 nbc3 nbc4 nbl
      have HTB := hide (HTB.out.more ho)
      have HB := hide (HB.out.more ho)
      have HNB := hide (HNB.out.more ho)
      have HN := hide (HN.out.more ho)
      have HO := hide (o2 HO.out ho)
      clear ho
      obtain ⟨tbc0, tbc1, tbc2, tbc3, tbc4, tbf0, tbf1, tbf2, tbf3, tbf4, tbl⟩ := HTB.out
      clear tbf0 tbf1 tbf2 tbf3 tbf4
      obtain ⟨vbc0, vbc1, vbc2, vbc3, vbc4, vbc5, vbc6, vbc7, vbc8, vbc9, vbc10, vbf0, vbf1, vbf2, vbf3, vbf4, vbf5, vbf6, vbf7, vbf8, vbf9, vbf10, vbl⟩ := HB.out
      clear vbf0 vbf1 vbf2 vbf3 vbf4 vbf5 vbf6 vbf7 vbf8 vbf9 vbf10
      obtain ⟨nbc0, nbc1, nbc2, nbc3, nbc4, nbf0, nbf1, nbf2, nbf3, nbf4, nbl⟩ := HNB.out
      clear nbf0 nbf1 nbf2 nbf3 nbf4
      go_wp2_with fail
      refine (sawake_any _).mono ?_
      rintro e w5 ⟨rfl, ho⟩
      clear tbc0 tbc1 tbc2 tbc3 tbc4 tbl
      clear vbc0 vbc1 vbc2 vbc3 vbc4 vbc5 vbc6 vbc7 vbc8 vbc9 vbc10 vbl
      clear nbc0 nbc1 nbc2 nbc3 nbc4 nbl
      have HO := hide (o2 HO.out ho)
      clear ho
      go_wp2_with fail
      go_ret
      exact ⟨rfl, HO.out⟩
    · obtain ⟨tbc0, tbc1, tbc2, tbc3, tbc4, tbf0, tbf1, tbf2, tbf3, tbf4, tbl⟩ := HTB.out
      clear tbf0 tbf1 tbf2 tbf3 tbf4
      obtain ⟨vbc0, vbc1, vbc2, vbc3, vbc4, vbc5, vbc6, vbc7, vbc8, vbc9, vbc10, vbf0, vbf1, vbf2, vbf3, vbf4, vbf5, vbf6, vbf7, vbf8, vbf9, vbf10, vbl⟩ := HB.out
      clear vbf0 vbf1 vbf2 vbf3 vbf4 vbf5 vbf6 vbf7 vbf8 vbf9 vbf10
      obtain ⟨nbc0, nbc1, nbc2, nbc3, nbc4, nbf0, nbf1, nbf2, nbf3, nbf4, nbl⟩ := HNB.out
      clear nbf0 nbf1 nbf2 nbf3 nbf4
      go_wp2_with fail
      refine (C0.out _ HN.out).mono ?_
      rintro e w2 ⟨rfl, ho⟩
      clear tbc0 tbc1 tbc2 tbc3 tbc4 tbl
      clear vbc0 vbc1 vbc2 vbc3 vbc4 vbc5 vbc6 vbc7 vbc8 vbc9 vbc10 vbl
      clear nbc0 nbc1 nbc2 nbc3 nbc4 nbl
      have HTB := hide (HTB.out.more ho)
      have HB := hide (HB.out.more ho)
      have HNB := hide (HNB.out.more ho)
      have HN := hide (HN.out.more ho)
      have HO := hide (o2 HO.out ho)
      clear ho
      obtain ⟨tbc0, tbc1, tbc2, tbc3, tbc4, tbf0, tbf1, tbf2, tbf3, tbf4, tbl⟩ := HTB.out
      clear tbf0 tbf1 tbf2 tbf3 tbf4
      obtain ⟨vbc0, vbc1, vbc2, vbc3, vbc4, vbc5, vbc6, vbc7, vbc8, vbc9, vbc10, vbf0, vbf1, vbf2, vbf3, vbf4, vbf5, vbf6, vbf7, vbf8, vbf9, vbf10, vbl⟩ := HB.out
      clear vbf0 vbf1 vbf2 vbf3 vbf4 vbf5 vbf6 vbf7 vbf8 vbf9 vbf10
      obtain ⟨nbc0, nbc1, nbc2, nbc3, nbc4, nbf0, nbf1, nbf2, nbf3, nbf4, nbl⟩ := HNB.out
      clear nbf0 nbf1 nbf2 nbf3 nbf4
      go_wp2_with fail
      refine (C1.out _ HN.out).mono ?_
      rintro e w3 ⟨rfl, ho⟩
      clear tbc0 tbc1 tbc2 tbc3 tbc4 tbl
      clear vbc0 vbc1 vbc2 vbc3 vbc4 vbc5 vbc6 vbc7 vbc8 vbc9 vbc10 vbl
      clear nbc0 nbc1 nbc2 nbc3 nbc4 nbl
      have HTB := hide (HTB.out.more ho)
      have HB := hide (HB.out.more ho)
      have HNB := hide (HNB.out.more ho)
      have HN := hide (HN.out.more ho)
      have HO := hide (o2 HO.out ho)
      clear ho
      obtain ⟨tbc0, tbc1, tbc2, tbc3, tbc4, tbf0, tbf1, tbf2, tbf3, tbf4, tbl⟩ := HTB.out
      clear tbf0 tbf1 tbf2 tbf3 tbf4
      obtain ⟨vbc0, vbc1, vbc2, vbc3, vbc4, vbc5, vbc6, vbc7, vbc8, vbc9, vbc10, vbf0, vbf1, vbf2, vbf3, vbf4, vbf5, vbf6, vbf7, vbf8, vbf9, vbf10, vbl⟩ := HB.out
      clear vbf0 vbf1 vbf2 vbf3 vbf4 vbf5 vbf6 vbf7 vbf8 vbf9 vbf10
      obtain ⟨nbc0, nbc1, nbc2, nbc3, nbc4, nbf0, nbf1, nbf2, nbf3, nbf4, nbl⟩ := HNB.out
      clear nbf0 nbf1 nbf2 nbf3 nbf4
      go_wp2_with fail
      refine (sawake_any _).mono ?_
      rintro e w5 ⟨rfl, ho⟩
      clear tbc0 tbc1 tbc2 tbc3 tbc4 tbl
      clear vbc0 vbc1 vbc2 vbc3 vbc4 vbc5 vbc6 vbc7 vbc8 vbc9 vbc10 vbl
      clear nbc0 nbc1 nbc2 nbc3 nbc4 nbl
      have HO := hide (o2 HO.out ho)
      clear ho
      go_wp2_with fail
      go_ret
      exact ⟨rfl, HO.out⟩
    · obtain ⟨tbc0, tbc1, tbc2, tbc3, tbc4, tbf0, tbf1, tbf2, tbf3, tbf4, tbl⟩ := HTB.out
      clear tbf0 tbf1 tbf2 tbf3 tbf4
      obtain ⟨vbc0, vbc1, vbc2, vbc3, vbc4, vbc5, vbc6, vbc7, vbc8, vbc9, vbc10, vbf0, vbf1, vbf2, vbf3, vbf4, vbf5, vbf6, vbf7, vbf8, vbf9, vbf10, vbl⟩ := HB.out
      clear vbf0 vbf1 vbf2 vbf3 vbf4 vbf5 vbf6 vbf7 vbf8 vbf9 vbf10
      obtain ⟨nbc0, nbc1, nbc2, nbc3, nbc4, nbf0, nbf1, nbf2, nbf3, nbf4, nbl⟩ := HNB.out
      clear nbf0 nbf1 nbf2 nbf3 nbf4
      go_wp2_with fail
      refine (C0.out _ HN.out).mono ?_
      rintro e w2 ⟨rfl, ho⟩
      clear tbc0 tbc1 tbc2 tbc3 tbc4 tbl
      clear vbc0 vbc1 vbc2 vbc3 vbc4 vbc5 vbc6 vbc7 vbc8 vbc9 vbc10 vbl
      clear nbc0 nbc1 nbc2 nbc3 nbc4 nbl
      have HTB := hide (HTB.out.more ho)
      have HB := hide (HB.out.more ho)
      have HNB := hide (HNB.out.more ho)
      have HN := hide (HN.out.more ho)
      have HO := hide (o2 HO.out ho)
      clear ho
      obtain ⟨tbc0, tbc1, tbc2, tbc3, tbc4, tbf0, tbf1, tbf2, tbf3, tbf4, tbl⟩ := HTB.out
      clear tbf0 tbf1 tbf2 tbf3 tbf4
      obtain ⟨vbc0, vbc1, vbc2, vbc3, vbc4, vbc5, vbc6, vbc7, vbc8, vbc9, vbc10, vbf0, vbf1, vbf2, vbf3, vbf4, vbf5, vbf6, vbf7, vbf8, vbf9, vbf10, vbl⟩ := HB.out
      clear vbf0 vbf1 vbf2 vbf3 vbf4 vbf5 vbf6 vbf7 vbf8 vbf9 vbf10
      obtain ⟨nbc0, nbc1, nbc2, nbc3, nbc4, nbf0, nbf1, nbf2, nbf3, nbf4, nbl⟩ := HNB.out
      clear nbf0 nbf1 nbf2 nbf3 nbf4
      go_wp2_with fail
      refine (C1.out _ HN.out).mono ?_
      rintro e w3 ⟨rfl, ho⟩
      clear tbc0 tbc1 tbc2 tbc3 tbc4 tbl
      clear vbc0 vbc1 vbc2 vbc3 vbc4 vbc5 vbc6 vbc7 vbc8 vbc9 vbc10 vbl
      clear nbc0 nbc1 nbc2 nbc3 nbc4 nbl
      have HTB := hide (HTB.out.more ho)
      have HB := hide (HB.out.more ho)
      have HNB := hide (HNB.out.more ho)
      have HN := hide (HN.out.more ho)
      have HO := hide (o2 HO.out ho)
      clear ho
      obtain ⟨tbc0, tbc1, tbc2, tbc3, tbc4, tbf0, tbf1, tbf2, tbf3, tbf4, tbl⟩ := HTB.out
      clear tbf0 tbf1 tbf2 tbf3 tbf4
      obtain ⟨vbc0, vbc1, vbc2, vbc3, vbc4, vbc5, vbc6, vbc7, vbc8, vbc9, vbc10, vbf0, vbf1, vbf2, vbf3, vbf4, vbf5, vbf6, vbf7, vbf8, vbf9, vbf10, vbl⟩ := HB.out
      clear vbf0 vbf1 vbf2 vbf3 vbf4 vbf5 vbf6 vbf7 vbf8 vbf9 vbf10
      obtain ⟨nbc0, nbc1, nbc2, nbc3, nbc4, nbf0, nbf1, nbf2, nbf3, nbf4, nbl⟩ := HNB.out
      clear nbf0 nbf1 nbf2 nbf3 nbf4
      go_wp2_with fail
      refine (sawake_any _).mono ?_
      rintro e w5 ⟨rfl, ho⟩
      clear tbc0 tbc1 tbc2 tbc3 tbc4 tbl
      clear vbc0 vbc1 vbc2 vbc3 vbc4 vbc5 vbc6 vbc7 vbc8 vbc9 vbc10 vbl
      clear nbc0 nbc1 nbc2 nbc3 nbc4 nbl
      have HO := hide (o2 HO.out ho)
      clear ho
      go_wp2_with fail
      go_ret
      exact ⟨rfl, HO.out⟩
    · obtain ⟨tbc0, tbc1, tbc2, tbc3, tbc4, tbf0, tbf1, tbf2, tbf3, tbf4, tbl⟩ := HTB.out
      clear tbf0 tbf1 tbf2 tbf3 tbf4
      obtain ⟨vbc0, vbc1, vbc2, vbc3, vbc4, vbc5, vbc6, vbc7, vbc8, vbc9, vbc10, vbf0, vbf1, vbf2, vbf3, vbf4, vbf5, vbf6, vbf7, vbf8, vbf9, vbf10, vbl⟩ := HB.out
      clear vbf0 vbf1 vbf2 vbf3 vbf4 vbf5 vbf6 vbf7 vbf8 vbf9 vbf10
      obtain ⟨nbc0, nbc1, nbc2, nbc3, nbc4, nbf0, nbf1, nbf2, nbf3, nbf4, nbl⟩ := HNB.out
      clear nbf0 nbf1 nbf2 nbf3 nbf4
      go_wp2_with fail
      refine (C0.out _ HN.out).mono ?_
      rintro e w2 ⟨rfl, ho⟩
      clear tbc0 tbc1 tbc2 tbc3 tbc4 tbl
      clear vbc0 vbc1 vbc2 vbc3 vbc4 vbc5 vbc6 vbc7 vbc8 vbc9 vbc10 vbl
      clear nbc0 nbc1 nbc2 nbc3 nbc4 nbl
      have HTB := hide (HTB.out.more ho)
      have HB := hide (HB.out.more ho)
      have HNB := hide (HNB.out.more ho)
      have HN := hide (HN.out.more ho)
      have HO := hide (o2 HO.out ho)
      clear ho
      obtain ⟨tbc0, tbc1, tbc2, tbc3, tbc4, tbf0, tbf1, tbf2, tbf3, tbf4, tbl⟩ := HTB.out
      clear tbf0 tbf1 tbf2 tbf3 tbf4
      obtain ⟨vbc0, vbc1, vbc2, vbc3, vbc4, vbc5, vbc6, vbc7, vbc8, vbc9, vbc10, vbf0, vbf1, vbf2, vbf3, vbf4, vbf5, vbf6, vbf7, vbf8, vbf9, vbf10, vbl⟩ := HB.out
      clear vbf0 vbf1 vbf2 vbf3 vbf4 vbf5 vbf6 vbf7 vbf8 vbf9 vbf10
      obtain ⟨nbc0, nbc1, nbc2, nbc3, nbc4, nbf0, nbf1, nbf2, nbf3, nbf4, nbl⟩ := HNB.out
      clear nbf0 nbf1 nbf2 nbf3 nbf4
      go_wp2_with fail
      refine (C1.out _ HN.out).mono ?_
      rintro e w3 ⟨rfl, ho⟩
      clear tbc0 tbc1 tbc2 tbc3 tbc4 tbl
      clear vbc0 vbc1 vbc2 vbc3 vbc4 vbc5 vbc6 vbc7 vbc8 vbc9 vbc10 vbl
      clear nbc0 nbc1 nbc2 nbc3 nbc4 nbl
      have HTB := hide (HTB.out.more ho)
      have HB := hide (HB.out.more ho)
      have HNB := hide (HNB.out.more ho)
      have HN := hide (HN.out.more ho)
      have HO := hide (o2 HO.out ho)
      clear ho
      obtain ⟨tbc0, tbc1, tbc2, tbc3, tbc4, tbf0, tbf1, tbf2, tbf3, tbf4, tbl⟩ := HTB.out
      clear tbf0 tbf1 tbf2 tbf3 tbf4
      obtain ⟨vbc0, vbc1, vbc2, vbc3, vbc4, vbc5, vbc6, vbc7, vbc8, vbc9, vbc10, vbf0, vbf1, vbf2, vbf3, vbf4, vbf5, vbf6, vbf7, vbf8, vbf9, vbf10, vbl⟩ := HB.out
      clear vbf0 vbf1 vbf2 vbf3 vbf4 vbf5 vbf6 vbf7 vbf8 vbf9 vbf10
      obtain ⟨nbc0, nbc1, nbc2, nbc3, nbc4, nbf0, nbf1, nbf2, nbf3, nbf4, nbl⟩ := HNB.out
      clear nbf0 nbf1 nbf2 nbf3 nbf4
      go_wp2_with fail
      refine (sawake_any _).mono ?_
      rintro e w5 ⟨rfl, ho⟩
      clear tbc0 tbc1 tbc2 tbc3 tbc4 tbl
      clear vbc0 vbc1 vbc2 vbc3 vbc4 vbc5 vbc6 vbc7 vbc8 vbc9 vbc10 vbl
      clear nbc0 nbc1 nbc2 nbc3 nbc4 nbl
      have HO := hide (o2 HO.out ho)
      clear ho
      go_wp2_with fail
      go_ret
      exact ⟨rfl, HO.out⟩
    · obtain ⟨tbc0, tbc1, tbc2, tbc3, tbc4, tbf0, tbf1, tbf2, tbf3, tbf4, tbl⟩ := HTB.out
      clear tbf0 tbf1 tbf2 tbf3 tbf4
      obtain ⟨vbc0, vbc1, vbc2, vbc3, vbc4, vbc5, vbc6, vbc7, vbc8, vbc9, vbc10, vbf0, vbf1, vbf2, vbf3, vbf4, vbf5, vbf6, vbf7, vbf8, vbf9, vbf10, vbl⟩ := HB.out
      clear vbf0 vbf1 vbf2 vbf3 vbf4 vbf5 vbf6 vbf7 vbf8 vbf9 vbf10
      obtain ⟨nbc0, nbc1, nbc2, nbc3, nbc4, nbf0, nbf1, nbf2, nbf3, nbf4, nbl⟩ := HNB.out
      clear nbf0 nbf1 nbf2 nbf3 nbf4
      go_wp2_with fail
      refine (C0.out _ HN.out).mono ?_
      rintro e w2 ⟨rfl, ho⟩
      clear tbc0 tbc1 tbc2 tbc3 tbc4 tbl
      clear vbc0 vbc1 vbc2 vbc3 vbc4 vbc5 vbc6 vbc7 vbc8 vbc9 vbc10 vbl
      clear nbc0 nbc1 nbc2 nbc3 nbc4 nbl
      have HTB := hide (HTB.out.more ho)
      have HB := hide (HB.out.more ho)
      have HNB := hide (HNB.out.more ho)
      have HN := hide (HN.out.more ho)
      have HO := hide (o2 HO.out ho)
      clear ho
      obtain ⟨tbc0, tbc1, tbc2, tbc3, tbc4, tbf0, tbf1, tbf2, tbf3, tbf4, tbl⟩ := HTB.out
      clear tbf0 tbf1 tbf2 tbf3 tbf4
      obtain ⟨vbc0, vbc1, vbc2, vbc3, vbc4, vbc5, vbc6, vbc7, vbc8, vbc9, vbc10, vbf0, vbf1, vbf2, vbf3, vbf4, vbf5, vbf6, vbf7, vbf8, vbf9, vbf10, vbl⟩ := HB.out
      clear vbf0 vbf1 vbf2 vbf3 vbf4 vbf5 vbf6 vbf7 vbf8 vbf9 vbf10
      obtain ⟨nbc0, nbc1, nbc2, nbc3, nbc4, nbf0, nbf1, nbf2, nbf3, nbf4, nbl⟩ := HNB.out
      clear nbf0 nbf1 nbf2 nbf3 nbf4
      go_wp2_with fail
      refine (C1.out _ HN.out).mono ?_
      rintro e w3 ⟨rfl, ho⟩
      clear tbc0 tbc1 tbc2 tbc3 tbc4 tbl
      clear vbc0 vbc1 vbc2 vbc3 vbc4 vbc5 vbc6 vbc7 vbc8 vbc9 vbc10 vbl
      clear nbc0 nbc1 nbc2 nbc3 nbc4 nbl
      have HTB := hide (HTB.out.more ho)
      have HB := hide (HB.out.more ho)
      have HNB := hide (HNB.out.more ho)
      have HN := hide (HN.out.more ho)
      have HO := hide (o2 HO.out ho)
      clear ho
      obtain ⟨tbc0, tbc1, tbc2, tbc3, tbc4, tbf0, tbf1, tbf2, tbf3, tbf4, tbl⟩ := HTB.out
      clear tbf0 tbf1 tbf2 tbf3 tbf4
      obtain ⟨vbc0, vbc1, vbc2, vbc3, vbc4, vbc5, vbc6, vbc7, vbc8, vbc9, vbc10, vbf0, vbf1, vbf2, vbf3, vbf4, vbf5, vbf6, vbf7, vbf8, vbf9, vbf10, vbl⟩ := HB.out
      clear vbf0 vbf1 vbf2 vbf3 vbf4 vbf5 vbf6 vbf7 vbf8 vbf9 vbf10
      obtain ⟨nbc0, nbc1, nbc2, nbc3, nbc4, nbf0, nbf1, nbf2, nbf3, nbf4, nbl⟩ := HNB.out
      clear nbf0 nbf1 nbf2 nbf3 nbf4
      go_wp2_with fail
      refine (sawake_any _).mono ?_
      rintro e w5 ⟨rfl, ho⟩
      clear tbc0 tbc1 tbc2 tbc3 tbc4 tbl
      clear vbc0 vbc1 vbc2 vbc3 vbc4 vbc5 vbc6 vbc7 vbc8 vbc9 vbc10 vbl
      clear nbc0 nbc1 nbc2 nbc3 nbc4 nbl
      have HO := hide (o2 HO.out ho)
      clear ho
      go_wp2_with fail
      go_ret
      exact ⟨rfl, HO.out⟩
end Go.Proofs.YtolfmodgkkjnbaaGreat
